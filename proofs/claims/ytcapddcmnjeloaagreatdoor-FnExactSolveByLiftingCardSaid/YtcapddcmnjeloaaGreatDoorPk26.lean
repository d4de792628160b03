/-
  Texts of this seat, joined: ZCElS · ZCEchT · ZCRkS · ZCIvxL · ZCSvL · ZCSolF · ZCSlM · ZCSvRi · ZCRq · ZCRgT · ZCRgP · ZCRatS
-/
import Derived.BigQuiet
import Derived.Deep.QuietTactic
import Derived.Test.YtcapddcmnjeloaaGreatDoorProg
import Derived.OrdersHeld
import Derived.RegionTactic
import Derived.Deep.RegionHeld
import Derived.ChangeAlike
import Derived.Test.YtcapddcmnjeloaaGreatDoorPk23
import Derived.Test.YtcapddcmnjeloaaGreatDoorPk24
import Derived.Test.YtcapddcmnjeloaaGreatDoorPk25

section
/-
  Chapter 8, in the model: the elimination over residues.
-/
namespace Go.Proofs.YtcapddcmnjeloaaGreatDoor
set_option maxRecDepth 100000
open Go.RowKit
theorem ivM_can {p x : Int} (h : prmB p = true) (h0 : 0 ≤ x) (h1 : x < p) (hx : x ≠ 0) : ivM p x = (invF p x, true) := by
  obtain ⟨hp, hp2⟩ := prmB_says h
  have e : x % p = x := Int.emod_eq_of_lt h0 h1
  exact ivM_yes h (by unfold NumP; omega) e hx
def ElP (w : World) (r c : Nat) (R : List Int × List Nat × Int) (e : Ending) (w' : World) : Prop :=
  ∃ (va vb : Value), e = .returned (.tuple #[.agg #[.int .i64 r, .int .i64 c, va], vb, .int .i64 R.2.2]) ∧ Own w.heap.size w' va R.1 ∧ Own w.heap.size w' vb (pvI R.2.1) ∧ (∀ k, va.ownBlock = some k → vb.ownBlock ≠ some k) ∧ Below w.heap.size w w'
theorem EcSt.endM {w : World} {B b rb r c g N cap : Nat} {ys : List Int} {q : Option Addr} {n qc : Nat} {pv : List Nat} {wr : World} (h : EcSt w B b rb r c g N cap ys (.slice q n qc) pv wr) (hl : ys.length = N) (hcap : N ≤ cap) (hN : N ≤ 576) (hpv : pv.length ≤ 24) (hgB : g < B) (hw : w.heap.size ≤ g) (hrw : w.heap.size ≤ rb) (hrg : rb ≠ g) (hrB : rb < B) (d : Int) (x y z : Value) :
    ElP w r c (ys, pv, d) (.returned (.tuple #[.agg #[.int .i64 r, .int .i64 c, .slice (some ⟨g, 0, none⟩) N cap], .slice q n qc, .int .i64 d])) (((wr.setCell ⟨rb, 0, none⟩ x).setCell ⟨rb, 1, none⟩ y).setCell ⟨rb, 2, none⟩ z) := by
  refine ⟨_, _, rfl, .inr ⟨g, cap, by rw [hl], hw, ?_, by rw [hl]; exact hcap, by rw [hl]; omega⟩, ?_, fun k hk e => ?_, ?_⟩
  · exact ((h.ints.far (a := ⟨rb, 0, none⟩) hrg.symm x).far (a := ⟨rb, 1, none⟩) hrg.symm y).far (a := ⟨rb, 2, none⟩) hrg.symm z
  · exact ((((h.own.far (a := ⟨rb, 0, none⟩) hrB x).far (a := ⟨rb, 1, none⟩) hrB y).far (a := ⟨rb, 2, none⟩) hrB z).lower (by omega)).own (by rw [pvI_length]; omega)
  · simp only [Value.ownBlock, Option.some.injEq] at hk
    have := h.own.le e
    omega
  · exact ((h.bel.setCell hrw x).setCell hrw y).setCell hrw z
theorem mul_bd {a b p : Int} (ha : 0 ≤ a) (ha2 : a < p) (hb : 0 ≤ b) (hb2 : b < p) (hp : p ≤ 10000) : 0 ≤ a * b ∧ a * b ≤ 100000000 := by
  refine ⟨Int.mul_nonneg ha hb, ?_⟩
  have : a * b ≤ 10000 * 10000 := Int.mul_le_mul (by omega) (by omega) hb (by omega)
  omega
set_option maxHeartbeats 4000000 in
theorem sEl (r c n N : Nat) (p : Int) (a : Option Addr) (m : Nat) (xs : List Int) (w : World) (h : Rd w a xs) (ha : Spot a) (hx : xs.length = N) (hN : N = r * c) (hr : r ≤ 24) (hc : c ≤ 24) (hnc : n ≤ c) (hp : prmB p = true) (hcan : CanL p xs) :
    Calls Tryz.prog 113 #[.agg #[.int .i64 r, .int .i64 c, .slice a N m], .int .i64 p, .int .i64 n] w (ElP w r c (elP p r c n 0 xs [] 1)) := by
  have hle : r * c ≤ 24 * 24 := Nat.mul_le_mul hr hc
  rw [← hN] at hle
  obtain ⟨pp, hp2⟩ := prmB_says hp
  have hp1 := pp.1
  have np : ¬ p = 0 := by omega
  have PP := Lib.hid pp
  have PB := Lib.hid hp
  have CP : Hid (∀ w', Below w.heap.size w w' → Calls Tryz.prog 80 #[.agg #[.int .i64 r, .int .i64 c, .slice a N m]] w' (fun e w2 => ∃ g cap : Nat, e = .returned (.agg #[.int .i64 r, .int .i64 c, .slice (some ⟨g, 0, none⟩) N cap]) ∧ w'.heap.size ≤ g ∧ IntsC w2 g cap xs ∧ Below w'.heap.size w' w2)) := fun w' hb => sCopyA r c a m N xs w' (h.below hb) ha hx (by omega)
  have IX : Hid (∀ i j, i < r → j < c → ∃ P : Nat, i * c + j = P ∧ P < N ∧ IntKind.i64.wrap ((i : Int) * (c : Int)) = (i : Int) * (c : Int) ∧ IntKind.i64.wrap ((i : Int) * (c : Int) + (j : Int)) = (P : Int)) := fun i j hi hj => by
    have h1 : i * c + j < r * c := idx_lt hi hj
    have c1 : (i : Int) * (c : Int) = ((i * c : Nat) : Int) := (Int.natCast_mul _ _).symm
    refine ⟨i * c + j, rfl, by omega, IntWalk.i64_in _ (by rw [c1]; omega), ?_⟩
    rw [show (i : Int) * (c : Int) + (j : Int) = ((i * c + j : Nat) : Int) by rw [c1]; omega]
    exact IntWalk.i64_in _ (by omega)
  have HR : Hid (elP p r c n 0 xs [] 1 = elP p r c n 0 xs [] 1) := rfl
  obtain ⟨RES, hRES⟩ : ∃ RES, elP p r c n 0 xs [] 1 = RES := ⟨_, rfl⟩
  rw [hRES] at HR ⊢
  clear HR
  have HR : Hid (elP p r c n 0 xs [] 1 = RES) := hRES
  have HN := Lib.hid hN
  have HX := Lib.hid hx
  have CX := Lib.hid hcan
  clear hN hx hcan h ha pp hRES hp
  go_enter Tryz.func113, Tryz.ntmps113
  go_upto_region 1 with fail
  have K0 : Hid (Blk3 ((w.alloc (.cells #[.int .i64 r, .int .i64 c, .slice a N m] 26)).alloc (.cells #[.int .i64 0, .int .i64 0, .slice none 0 0] 26)) w.heap.size 26 (.int .i64 r) (.int .i64 c) (.slice a N m)) := (Blk3.at_ _ _ _ _ rfl).old _
  have R0 : Hid (Blk3 ((w.alloc (.cells #[.int .i64 r, .int .i64 c, .slice a N m] 26)).alloc (.cells #[.int .i64 0, .int .i64 0, .slice none 0 0] 26)) (w.heap.size + 1) 26 (.int .i64 0) (.int .i64 0) (.slice none 0 0)) := Blk3.at_ _ _ _ _ (by simp)
  have B0 : Hid (Below w.heap.size w ((w.alloc (.cells #[.int .i64 r, .int .i64 c, .slice a N m] 26)).alloc (.cells #[.int .i64 0, .int .i64 0, .slice none 0 0] 26))) := ((Below.refl _ _).alloc (Nat.le_refl _) _).alloc (by simp) _
  have S0 : Hid (((w.alloc (.cells #[.int .i64 r, .int .i64 c, .slice a N m] 26)).alloc (.cells #[.int .i64 0, .int .i64 0, .slice none 0 0] 26)).heap.size = w.heap.size + 2) := by show _ = _; simp
  generalize (w.alloc (.cells #[.int .i64 r, .int .i64 c, .slice a N m] 26)).alloc (.cells #[.int .i64 0, .int .i64 0, .slice none 0 0] 26) = W0 at K0 R0 B0 S0 ⊢
  obtain ⟨p0, p1, p2, -, -, -⟩ := K0.out.all
  go_wp2_with fail
  refine (CP.out _ B0.out).mono ?_
  rintro e w1 ⟨g, cap, rfl, hg, hi, hb⟩
  have gl := hi.lt
  have hcap := hi.le
  have s0 := S0.out
  have I0 := Lib.hid (hi.ints.old (.cells #[.int .i64 r, .int .i64 c, .slice (some ⟨g, 0, none⟩) N cap] 26))
  have R1 := Lib.hid ((R0.out.step hb).old (.cells #[.int .i64 r, .int .i64 c, .slice (some ⟨g, 0, none⟩) N cap] 26))
  have K1 : Hid (Blk3 (w1.alloc (.cells #[.int .i64 r, .int .i64 c, .slice (some ⟨g, 0, none⟩) N cap] 26)) w1.heap.size 26 (.int .i64 r) (.int .i64 c) (.slice (some ⟨g, 0, none⟩) N cap)) := Blk3.at_ _ _ _ _ rfl
  have Bx := B0.out.trans (hb.mono (by omega))
  have B1 := Lib.hid (Bx.alloc Bx.size (.cells #[.int .i64 r, .int .i64 c, .slice (some ⟨g, 0, none⟩) N cap] 26))
  have S1 : Hid ((w1.alloc (.cells #[.int .i64 r, .int .i64 c, .slice (some ⟨g, 0, none⟩) N cap] 26)).heap.size = w1.heap.size + 1) := by show _ = _; simp
  rw [HX.out] at hcap
  have sb := hb.size
  clear hb hi Bx K0 R0 B0 S0 p0 p1 p2
  go_upto_region 2 with fail
  generalize w1.alloc (.cells #[.int .i64 r, .int .i64 c, .slice (some ⟨g, 0, none⟩) N cap] 26) = W at I0 R1 K1 B1 S1 ⊢
  obtain ⟨b, hbb⟩ : ∃ b, w1.heap.size = b := ⟨_, rfl⟩
  rw [hbb] at K1 S1 gl sb ⊢
  have lgb : g < b := gl
  have lrb : w.heap.size + 1 < g := by omega
  have lwg : w.heap.size < g := by omega
  have s1 := S1.out
  clear hbb S1 s0 gl sb hg
  obtain ⟨rb, hrb⟩ : ∃ rb, w.heap.size + 1 = rb := ⟨_, rfl⟩
  rw [hrb] at R1 lrb ⊢
  clear w1
  have lwr : w.heap.size < rb := by omega
  clear hrb
  go_upto_region 3 with fail
  have ST : Hid (EcSt w (b + 1) b rb r c g N cap xs (.slice (some ⟨b + 1, 0, none⟩) 0 0) [] (W.alloc (.cells #[] 3))) := ⟨K1.out.old _, R1.out.old _, I0.out.old _, OwnQ.none_ (Nat.le_refl _) ⟨Nat.zero_le _, [], rfl, by rw [← s1]; exact heap_alloc_new W _⟩, B1.out.alloc B1.out.size _, by simp; omega⟩
  generalize W.alloc (.cells #[] 3) = W2 at ST ⊢
  clear K1 R1 I0 B1 s1
  go_wp2_with fail
  go_loopw [10, 11, 12, 13, 14, 15, 16, 17, 18, 19, 20] (fun v10 v11 v12 _ _ _ _ _ _ _ _ wr => ∃ (j k : Nat) (ys : List Int) (q : Option Addr) (qc : Nat) (pv : List Nat) (d : Int), v10 = .slice q pv.length qc ∧ v11 = .int .i64 d ∧ v12 = .int .i64 j ∧ j + k = n ∧ ys.length = N ∧ CanL p ys ∧ pv.length ≤ r ∧ 0 ≤ d ∧ d < p ∧ elP p r c k j ys pv d = RES ∧ EcSt w (b + 1) b rb r c g N cap ys (.slice q pv.length qc) pv wr) (fun _ _ v12 _ _ _ _ _ _ _ _ _ => n - (intOf v12).toNat)
  case atStart => exact ⟨0, n, xs, _, _, [], 1, rfl, rfl, rfl, by omega, HX.out, CX.out, by simp, by decide, by omega, HR.out, ST.out⟩
  case round =>
    clear ST HR CX
    obtain ⟨j, k, ys, q, qc, pv, d, rfl, rfl, rfl, hjk, hl, hn, hpv, hd0, hd1, hR, hst⟩ := hrel
    have ST := Lib.hid hst
    have HL := Lib.hid hl
    have HY := Lib.hid hn
    have HR := Lib.hid hR
    clear hst hl hn hR
    obtain ⟨t, ht⟩ : ∃ t, pv.length = t := ⟨_, rfl⟩
    have PT := Lib.hid ht
    rw [ht] at ST hpv ⊢
    clear ht
    obtain ⟨p0, p1, p2, -, -, -⟩ := ST.out.blk.all
    by_cases hjn : j < n
    · have hjc : j < c := by omega
      by_cases htr : t < r
      · obtain ⟨k, rfl⟩ : ∃ k', k = k' + 1 := ⟨k - 1, by omega⟩
        go_wp2_with fail
        go_loopw [14] (fun v14 wq => ∃ s : Nat, v14 = .int .i64 s ∧ t ≤ s ∧ s ≤ r ∧ (∀ i, t ≤ i → i < s → mxC c ys i j = 0) ∧ wq = wr) (fun v14 _ => r - (intOf v14).toNat)
        case atStart => exact ⟨t, rfl, Nat.le_refl _, by omega, fun i h1 h2 => by omega, rfl⟩
        case round =>
          obtain ⟨s, rfl, hs1, hs2, hs0, rfl⟩ := hrel
          have P0 := Lib.hid hs0
          clear hs0
          by_cases hsr : s < r
          · obtain ⟨P, hP, hPN, u1, u2⟩ := IX.out s j hsr hjc
            have Pa : (0 : Int) ≤ (P : Int) := by omega
            have Pb : (P : Int) < (N : Int) := by omega
            have hcell := ST.out.ints.cell (i := P) (by rw [HL.out]; exact hPN)
            rw [← hP, show ys.getD (s * c + j) 0 = mxC c ys s j from rfl, hP] at hcell
            obtain ⟨x, hxx⟩ : ∃ x, mxC c ys s j = x := ⟨_, rfl⟩
            have X := Lib.hid hxx
            rw [hxx] at hcell
            clear hxx hP
            by_cases h0 : x = 0
            · have n1 : (x == 0) = true := by simp [h0]
              have P1 : Hid (∀ i, t ≤ i → i < s + 1 → mxC c ys i j = 0) := fun i h1 h2 => by
                rcases Nat.lt_or_ge i s with h3 | h3
                · exact P0.out i h1 h3
                · obtain rfl : i = s := by omega
                  rw [X.out, h0]
              clear h0
              go_wp2_with fail
              go_roundw
              case rel => exact ⟨s + 1, by go_num, by omega, by omega, P1.out, trivial⟩
              case measure => simp [intOf]; omega
            · have n1 : (x == 0) = false := by simpa using h0
              have FS : Hid (fstR c j ys (r - pv.length) pv.length = s) := fstR_eq (by rw [PT.out]; omega) (by rw [PT.out]; omega) (fun i h1 h2 => P0.out i (by rw [← PT.out]; exact h1) h2) (fun _ => by rw [X.out]; exact h0)
              have ZL : Hid ((swC s t c ys).length = N) := by show _ = _; rw [swC_length, HL.out]
              have ZC : Hid (CanL p (swC s t c ys)) := HY.out.sw (by rw [HL.out, HN.out]) hsr htr
              have ZX : Hid (mxC c (swC s t c ys) t j = x) := by
                show _ = _
                rw [swC_at (by rw [HL.out, HN.out]) htr hjc, ← X.out]
                by_cases e : t = s
                · rw [if_pos e, e]
                · rw [if_neg e, if_pos rfl]
              have hx0 : 0 ≤ x ∧ x < p := by rw [← X.out]; exact HY.out.mx (by rw [HL.out, HN.out]) hsr hjc
              have EO : Hid (elP p r c k (j + 1) (clP p r c t j r 0 (rowL r c t (scV p (invF p x) (mxC c (swC s t c ys) t)) (swC s t c ys))) (pv ++ [j]) (((if s = t then d else (-d) % p) * x) % p) = RES) := by
                have h1 := HR.out
                rw [elP_on (s := s) (by rw [PT.out]; exact htr) FS.out (by omega), PT.out, ZX.out] at h1
                exact h1
              have SW : Hid (s ≠ t → opL 0 s t 0 c ys = swC s t c ys) := fun h => by unfold swC; rw [if_neg h]
              have SN : Hid (s = t → ys = swC s t c ys) := fun h => by unfold swC; rw [if_pos h]
              obtain ⟨IV1, IV2, IV3⟩ := PP.out.hasInv.inv PP.out (can_nd hx0 h0)
              have IM := Lib.hid (ivM_can PB.out hx0.1 hx0.2 h0)
              have IVp := Lib.hid IV1
              clear IV1
              generalize swC s t c ys = zs at ZL ZC ZX EO SW SN
              have n3 : ((s : Int) == (r : Int)) = false := by simp; omega
              have hcx := hx0.1
              have hcx2 := hx0.2
              clear hx0
              obtain ⟨d2, hd2⟩ : ∃ d2, (if s = t then d else (-d) % p) = d2 := ⟨_, rfl⟩
              have D2 := Lib.hid hd2
              rw [hd2] at EO
              have d20 : 0 ≤ d2 ∧ d2 < p := by
                rw [← hd2]
                split
                · exact ⟨hd0, hd1⟩
                · exact ⟨Int.emod_nonneg _ (by omega), Int.emod_lt_of_pos _ (by omega)⟩
              obtain ⟨d21, d22⟩ := d20
              clear hd2
              go_upto_if 64 with fail
              go_cut [11] (fun v11 wx => v11 = .int .i64 d2 ∧ EcSt w (b + 1) b rb r c g N cap zs (.slice q t qc) pv wx)
              case first =>
                by_cases hst : s = t
                · have n2 : ((s : Int) != (t : Int)) = false := by simp [hst]
                  have hs := ST.out
                  rw [SN.out hst] at hs
                  have S2 := Lib.hid hs
                  have DD : Hid (d = d2) := by show _ = _; rw [← D2.out, if_pos hst]
                  clear hs hst
                  go_wp2_with fail
                  go_meet
                  exact ⟨by rw [DD.out], S2.out⟩
                · have n2 : ((s : Int) != (t : Int)) = true := by simp; omega
                  have DD : Hid ((-d) % p = d2) := by show _ = _; rw [← D2.out, if_neg hst]
                  have w9 : IntKind.i64.wrap (-d) = -d := IntWalk.i64_in _ (by omega)
                  go_wp2_with fail
                  refine (sDo r c s t g N cap 0 0 ys _ ST.out.ints HL.out HN.out hr hc hsr htr (.inl rfl) (fun _ => hst)).mono ?_
                  rintro e w4 ⟨rfl, hi4, hg4⟩
                  have hs := ST.out.one hi4 hg4 (by omega) (by omega) (by omega) (by omega)
                  rw [SW.out hst] at hs
                  have S2 := Lib.hid hs
                  clear hs hi4 hg4
                  go_wp2_with fail
                  refine (sMod (-d) p _ (by omega) (by omega)).mono ?_
                  rintro e w5 ⟨rfl, rfl⟩
                  go_wp2_with fail
                  go_meet
                  exact ⟨by rw [DD.out], S2.out⟩
              case rest =>
                clear ST SW SN HR FS P0 X HY HL
                obtain ⟨rfl, hst⟩ := hcut
                have ST := Lib.hid hst
                clear hst hcell p0 p1 p2
                obtain ⟨p0, p1, p2, -, -, -⟩ := ST.out.blk.all
                obtain ⟨P', hP', hPN', u1', u2'⟩ := IX.out t j htr hjc
                have Pa' : (0 : Int) ≤ (P' : Int) := by omega
                have Pb' : (P' : Int) < (N : Int) := by omega
                have hcell := ST.out.ints.cell (i := P') (by rw [ZL.out]; exact hPN')
                rw [← hP', show zs.getD (t * c + j) 0 = mxC c zs t j from rfl, ZX.out, hP'] at hcell
                obtain ⟨m1, m2⟩ := mul_bd d21 d22 hcx hcx2 hp2
                obtain ⟨y, hy⟩ : ∃ y, d2 * x = y := ⟨_, rfl⟩
                have w1 : IntKind.i64.wrap (d2 * x) = y := by rw [← hy]; exact IntWalk.i64_in _ (by omega)
                rw [hy] at m1 m2 EO
                clear hP' hy
                go_upto_region 16 with fail
                go_wp2_with fail
                refine (sInvM x p _).mono ?_
                rintro e w4 ⟨rfl, nq, rfl⟩
                rw [IM.out]
                have ST := Lib.hid (ST.out.drewN nq)
                generalize wc.drewN nq = wz at ST ⊢
                have HV : Hid (invF p x = invF p x) := rfl
                obtain ⟨v, hv⟩ : ∃ v, invF p x = v := ⟨_, rfl⟩
                rw [hv] at EO IV2 IV3 ⊢
                clear IM IVp HV hv hcell p0 p1 p2
                obtain ⟨p0, p1, p2, -, -, -⟩ := ST.out.blk.all
                have ZT : Hid (∀ q, q < c → 0 ≤ mxC c zs t q ∧ mxC c zs t q < p) := fun q hq => ZC.out.mx (by rw [ZL.out, HN.out]) htr hq
                have UL : Hid ((rowL r c t (scV p v (mxC c zs t)) zs).length = N) := by show _ = _; rw [rowL_length, HN.out]
                have UC : Hid (CanL p (rowL r c t (scV p v (mxC c zs t)) zs)) := ZC.out.row (by rw [ZL.out, HN.out]) fun q _ => ⟨Int.emod_nonneg _ (by omega), Int.emod_lt_of_pos _ (by omega)⟩
                have RT : Hid (∀ k, k < c → (rowTo r c t (scV p v (mxC c zs t)) zs k).set (t * c + k) ((mxC c zs t k * v) % p) = rowTo r c t (scV p v (mxC c zs t)) zs (k + 1)) := fun k hk => rowTo_step htr hk
                have RX : Hid (∀ k, k < c → (rowTo r c t (scV p v (mxC c zs t)) zs k).getD (t * c + k) 0 = mxC c zs t k) := fun k hk => rowTo_old htr hk (.inr (Nat.le_refl _))
                have RL : Hid (∀ k, (rowTo r c t (scV p v (mxC c zs t)) zs k).length = N) := fun k => by rw [rowTo_length, HN.out]
                have RA : Hid (rowTo r c t (scV p v (mxC c zs t)) zs c = rowL r c t (scV p v (mxC c zs t)) zs) := rowTo_all
                rw [← rowTo_zero (r := r) (c := c) (i := t) (v := scV p v (mxC c zs t)) (xs := zs) (by rw [ZL.out, HN.out])] at ST
                go_wp2_with fail
                clear p0 p1 p2
                go_loopw [17] (fun v17 wv => ∃ h : Nat, v17 = .int .i64 h ∧ h ≤ c ∧ EcSt w (b + 1) b rb r c g N cap (rowTo r c t (scV p v (mxC c zs t)) zs h) (.slice q t qc) pv wv) (fun v17 _ => c - (intOf v17).toNat)
                case atStart => exact ⟨0, rfl, by omega, by first | exact ST.out | (have h := ST.out; rw [rowTo_zero (by rw [rowTo_length])] at h; exact h)⟩
                case round =>
                  clear ST
                  obtain ⟨h, rfl, hh, hst⟩ := hrel
                  have ST := Lib.hid hst
                  clear hst
                  obtain ⟨p0, p1, p2, -, -, -⟩ := ST.out.blk.all
                  by_cases hhc : h < c
                  · obtain ⟨P, hP, hPN, u1, u2⟩ := IX.out t h htr hhc
                    have Pa : (0 : Int) ≤ (P : Int) := by omega
                    have Pb : (P : Int) < (N : Int) := by omega
                    have hcell := ST.out.ints.cell (i := P) (by rw [RL.out]; exact hPN)
                    have hfr := ST.out.ints.free P
                    rw [← hP, RX.out h hhc, hP] at hcell
                    obtain ⟨z1, z2⟩ := ZT.out h hhc
                    have RS := Lib.hid (RT.out h hhc)
                    rw [hP] at RS
                    generalize mxC c zs t h = ea at hcell z1 z2 RS
                    obtain ⟨m3, m4⟩ := mul_bd z1 z2 IV2 IV3 hp2
                    obtain ⟨y2, hy2⟩ : ∃ y2, ea * v = y2 := ⟨_, rfl⟩
                    have w2 : IntKind.i64.wrap (ea * v) = y2 := by rw [← hy2]; exact IntWalk.i64_in _ (by omega)
                    rw [hy2] at m3 m4 RS
                    have e2 : Int.tmod y2 p = y2 % p := Int.tmod_eq_emod_of_nonneg m3
                    clear hy2 hP
                    go_wp2_with fail
                    go_still_tail 23, (by kernel_rfl)
                    go_wp2_with fail
                    go_roundw
                    case rel => exact ⟨h + 1, by go_num, by omega, by rw [← RS.out]; exact (ST.out.drew).put (by omega) (by omega) (by omega) (by omega) P (y2 % p)⟩
                    case measure => simp [intOf]; omega
                  · obtain rfl : c = h := by omega
                    clear hhc
                    rw [RA.out] at ST
                    generalize rowL r c t (scV p v (mxC c zs t)) zs = vs at ST EO UL UC
                    clear RT RX RL RA ZT ZL ZC ZX
                    obtain ⟨E, hE⟩ : ∃ E, clP p r c t j r 0 vs = E := ⟨_, rfl⟩
                    rw [hE] at EO
                    have EE := Lib.hid hE
                    clear hE
                    go_wp2_with fail
                    clear p0 p1 p2
                    go_loopw [18, 19, 20] (fun v18 _ _ wu => ∃ (i l : Nat) (us : List Int), v18 = .int .i64 i ∧ i + l = r ∧ us.length = N ∧ CanL p us ∧ clP p r c t j l i us = E ∧ EcSt w (b + 1) b rb r c g N cap us (.slice q t qc) pv wu) (fun v18 _ _ _ => r - (intOf v18).toNat)
                    case atStart => exact ⟨0, r, vs, rfl, by omega, UL.out, UC.out, EE.out, ST.out⟩
                    case round =>
                      clear ST UL UC EE
                      obtain ⟨i, l, us, rfl, hil, hul, hun, hue, hst⟩ := hrel
                      have ST := Lib.hid hst
                      have UL := Lib.hid hul
                      have UN := Lib.hid hun
                      have UE := Lib.hid hue
                      clear hst hul hun hue
                      obtain ⟨p0, p1, p2, -, -, -⟩ := ST.out.blk.all
                      by_cases hir : i < r
                      · obtain ⟨l, rfl⟩ : ∃ l', l = l' + 1 := ⟨l - 1, by omega⟩
                        obtain ⟨P, hP, hPN, u1, u2⟩ := IX.out i j hir hjc
                        have Pa : (0 : Int) ≤ (P : Int) := by omega
                        have Pb : (P : Int) < (N : Int) := by omega
                        have hcell := ST.out.ints.cell (i := P) (by rw [UL.out]; exact hPN)
                        rw [← hP, show us.getD (i * c + j) 0 = mxC c us i j from rfl, hP] at hcell
                        obtain ⟨x0, x1⟩ := UN.out.mx (by rw [UL.out, HN.out]) hir hjc
                        obtain ⟨z, hxx⟩ : ∃ x, mxC c us i j = x := ⟨_, rfl⟩
                        have X := Lib.hid hxx
                        rw [hxx] at hcell x0 x1
                        clear hxx hP
                        by_cases hs : i = t ∨ z = 0
                        · have UE2 : Hid (clP p r c t j l (i + 1) us = E) := by
                            have h1 := UE.out
                            rw [clP_skip (by rw [X.out]; exact hs)] at h1
                            exact h1
                          by_cases hit : i = t
                          · have n2 : ((i : Int) != (t : Int)) = false := by simp [hit]
                            clear hs hit
                            go_wp2_with fail
                            go_loopw [20] (fun v20 wv => v20 = .int .i64 0 ∧ wv = wr) (fun _ _ => 0)
                            case atStart => exact ⟨rfl, rfl⟩
                            case round =>
                              obtain ⟨rfl, rfl⟩ := hrel
                              go_wp2_with fail
                              all_goals
                                go_roundw
                                case rel => exact ⟨i + 1, l, us, by go_num, by omega, UL.out, UN.out, UE2.out, ST.out⟩
                                case measure => simp [intOf]; omega
                          · have n2 : ((i : Int) != (t : Int)) = true := by simp; omega
                            have n3 : (z != 0) = false := by simp [hs.resolve_left hit]
                            clear hs hit
                            go_wp2_with fail
                            go_loopw [20] (fun v20 wv => v20 = .int .i64 0 ∧ wv = wr) (fun _ _ => 0)
                            case atStart => exact ⟨rfl, rfl⟩
                            case round =>
                              obtain ⟨rfl, rfl⟩ := hrel
                              go_wp2_with fail
                              all_goals
                                go_roundw
                                case rel => exact ⟨i + 1, l, us, by go_num, by omega, UL.out, UN.out, UE2.out, ST.out⟩
                                case measure => simp [intOf]; omega
                        · have hit : i ≠ t := fun e => hs (.inl e)
                          have hx0 : z ≠ 0 := fun e => hs (.inr e)
                          have n2 : ((i : Int) != (t : Int)) = true := by simp; omega
                          have n3 : (z != 0) = true := by simpa using hx0
                          have UO : Hid (clP p r c t j l (i + 1) (rowL r c i (lsV p z (mxC c us i) (mxC c us t)) us) = E) := by
                            have h1 := UE.out
                            rw [clP_on (by rw [X.out]; exact hs), X.out] at h1
                            exact h1
                          have RT : Hid (∀ k, k < c → (rowTo r c i (lsV p z (mxC c us i) (mxC c us t)) us k).set (i * c + k) ((mxC c us i k - z * mxC c us t k) % p) = rowTo r c i (lsV p z (mxC c us i) (mxC c us t)) us (k + 1)) := fun k hk => rowTo_step hir hk
                          have RX : Hid (∀ k, k < c → (rowTo r c i (lsV p z (mxC c us i) (mxC c us t)) us k).getD (i * c + k) 0 = mxC c us i k) := fun k hk => rowTo_old hir hk (.inr (Nat.le_refl _))
                          have RY : Hid (∀ k, k < c → (rowTo r c i (lsV p z (mxC c us i) (mxC c us t)) us k).getD (t * c + k) 0 = mxC c us t k) := fun k hk => rowTo_old htr hk (.inl (fun e => hit e.symm))
                          have RL : Hid (∀ k, (rowTo r c i (lsV p z (mxC c us i) (mxC c us t)) us k).length = N) := fun k => by rw [rowTo_length, HN.out]
                          have RA : Hid (rowTo r c i (lsV p z (mxC c us i) (mxC c us t)) us c = rowL r c i (lsV p z (mxC c us i) (mxC c us t)) us) := rowTo_all
                          have VC : Hid (CanL p (rowL r c i (lsV p z (mxC c us i) (mxC c us t)) us)) := UN.out.row (by rw [UL.out, HN.out]) fun q _ => ⟨Int.emod_nonneg _ (by omega), Int.emod_lt_of_pos _ (by omega)⟩
                          have VL : Hid ((rowL r c i (lsV p z (mxC c us i) (mxC c us t)) us).length = N) := by show _ = _; rw [rowL_length, HN.out]
                          have NI : Hid (∀ k, k < c → 0 ≤ mxC c us i k ∧ mxC c us i k < p) := fun k hk => UN.out.mx (by rw [UL.out, HN.out]) hir hk
                          have NT : Hid (∀ k, k < c → 0 ≤ mxC c us t k ∧ mxC c us t k < p) := fun k hk => UN.out.mx (by rw [UL.out, HN.out]) htr hk
                          rw [← rowTo_zero (r := r) (c := c) (i := i) (v := lsV p z (mxC c us i) (mxC c us t)) (xs := us) (by rw [UL.out, HN.out])] at ST
                          clear hs
                          go_wp2_with fail
                          clear p0 p1 p2 hcell
                          go_loopw [20] (fun v20 wv => ∃ h : Nat, v20 = .int .i64 h ∧ h ≤ c ∧ EcSt w (b + 1) b rb r c g N cap (rowTo r c i (lsV p z (mxC c us i) (mxC c us t)) us h) (.slice q t qc) pv wv) (fun v20 _ => c - (intOf v20).toNat)
                          case atStart => exact ⟨0, rfl, by omega, by first | exact ST.out | (have h := ST.out; rw [rowTo_zero (by rw [rowTo_length])] at h; exact h)⟩
                          case round =>
                            clear ST
                            obtain ⟨h, rfl, hh, hst⟩ := hrel
                            have ST := Lib.hid hst
                            clear hst
                            obtain ⟨p0, p1, p2, -, -, -⟩ := ST.out.blk.all
                            by_cases hhc : h < c
                            · obtain ⟨P, hP, hPN, u1, u2⟩ := IX.out i h hir hhc
                              have Pa : (0 : Int) ≤ (P : Int) := by omega
                              have Pb : (P : Int) < (N : Int) := by omega
                              have hcell := ST.out.ints.cell (i := P) (by rw [RL.out]; exact hPN)
                              have hfr := ST.out.ints.free P
                              rw [← hP, RX.out h hhc, hP] at hcell
                              obtain ⟨Q, hQ, hQN, y1, y2⟩ := IX.out t h htr hhc
                              have Qa : (0 : Int) ≤ (Q : Int) := by omega
                              have Qb : (Q : Int) < (N : Int) := by omega
                              have hcell2 := ST.out.ints.cell (i := Q) (by rw [RL.out]; exact hQN)
                              rw [← hQ, RY.out h hhc, hQ] at hcell2
                              have na := NI.out h hhc
                              have nb := NT.out h hhc
                              have RS := Lib.hid (RT.out h hhc)
                              rw [hP] at RS
                              generalize mxC c us i h = ea at hcell na RS
                              generalize mxC c us t h = eb at hcell2 nb RS
                              obtain ⟨m3, m4⟩ := mul_bd x0 x1 nb.1 nb.2 hp2
                              obtain ⟨o, ho⟩ : ∃ o, z * eb = o := ⟨_, rfl⟩
                              have v2 : IntKind.i64.wrap (z * eb) = o := by rw [← ho]; exact IntWalk.i64_in _ (by omega)
                              rw [ho] at RS m3 m4
                              obtain ⟨f, hf⟩ : ∃ f, ea - o = f := ⟨_, rfl⟩
                              have v3 : IntKind.i64.wrap (ea - o) = f := by rw [← hf]; exact IntWalk.i64_in _ (by omega)
                              rw [hf] at RS
                              have f0 : -200000000 ≤ f ∧ f ≤ 200000000 := by omega
                              obtain ⟨f1, f2⟩ := f0
                              clear na nb hP hQ ho hf
                              go_wp2_with fail
                              refine wp_region_still_tail 34 (by kernel_rfl) (by kernel_rfl) ?_
                              simp only [List.take_succ_cons, List.take_zero, List.drop_succ_cons, List.drop_zero]
                              repeat still_step
                              still_call ((sMod f p _ (by omega) (by omega)).mono fun _ _ h => ⟨h.1, h.2.symm⟩)
                              repeat still_step
                              try refine wpStill_nil ?_
                              go_wp2_with fail
                              go_roundw
                              case rel => exact ⟨h + 1, by go_num, by omega, by rw [← RS.out]; exact (ST.out.drew).put (by omega) (by omega) (by omega) (by omega) P (f % p)⟩
                              case measure => simp [intOf]; omega
                            · obtain rfl : c = h := by omega
                              clear hhc
                              rw [RA.out] at ST
                              go_wp2_with fail
                              go_roundw
                              case rel => exact ⟨i + 1, l, _, by go_num, by omega, VL.out, VC.out, UO.out, ST.out⟩
                              case measure => simp [intOf]; omega
                      · obtain rfl : l = 0 := by omega
                        have UF : Hid (us = E) := UE.out
                        have UR : Hid (elP p r c k (j + 1) us (pv ++ [j]) (y % p) = RES) := by
                          have h1 := EO.out
                          rw [← UF.out] at h1
                          exact h1
                        have y0 : 0 ≤ y % p ∧ y % p < p := ⟨Int.emod_nonneg _ (by omega), Int.emod_lt_of_pos _ (by omega)⟩
                        obtain ⟨fi, hfi, hz0, hz1, hz2⟩ := facts_int
                        have HO : Hid ((wr.alloc (.cells #[.int .i64 j] 3)).ownsRow (b + 1) 3 1 (.slice q t qc) t ((pvI pv).map (Value.int .i64))) := by
                          have h1 := ST.out.own.keep ((Below.refl _ _).alloc (Nat.le_refl _) (.cells #[.int .i64 j] 3))
                          unfold OwnQ at h1
                          rw [pvI_length, PT.out] at h1
                          exact h1
                        have le := ST.out.le
                        go_wp2_with (at_builtin; refine wpList_append_own_at _ rfl _ _ 24 rfl (b + 1) 3 fi (.int .i64 0) 1 8 underlying_ints hfi hz0 hz1 hz2 rfl (by decide) _ _ _ rfl HO.out ⟨wr.heap.size, 0, none⟩ 1 1 [.int .i64 j] ?hx ?hl ?hnews ?h1 ?h63 ?hbytes ?hbase ?hnext)
                        case hx => rfl
                        case hl => rfl
                        case hnews => exact cell_one_new _ _ _
                        case h1 => intro v hv; simp at hv; subst hv; rfl
                        case h63 => unfold maxLen; omega
                        case hbytes => omega
                        case hbase => simp; omega
                        case hnext =>
                          rintro v' w7 ho hg7 - -
                          have O7 : OwnQ (b + 1) w7 v' (pvI (pv ++ [j])) := by
                            unfold OwnQ pvI
                            rw [List.map_append, List.length_append, List.map_append, List.length_map, PT.out]
                            exact ho
                          have hs := ST.out.app hg7 O7 (by omega) (by omega) (by omega) (by omega)
                          obtain ⟨q', qc', rfl⟩ := O7.form
                          rw [pvI_length] at hs ⊢
                          have S7 := Lib.hid hs
                          clear hs O7 ho hg7
                          go_wp2_with fail
                          go_roundw
                          case rel => exact ⟨j + 1, k, us, q', qc', pv ++ [j], y % p, rfl, rfl, by go_num, by omega, UL.out, UN.out, by rw [List.length_append, PT.out]; simp; omega, y0.1, y0.2, UR.out, S7.out⟩
                          case measure => simp [intOf]; omega
          · have hpe : s = r := by omega
            have FS : Hid (fstR c j ys (r - pv.length) pv.length = r) := fstR_eq (by rw [PT.out]; omega) (by rw [PT.out]; omega) (fun i h1 h2 => P0.out i (by rw [← PT.out]; exact h1) (by omega)) (fun h => by rw [PT.out] at h; omega)
            have RN : Hid (elP p r c k (j + 1) ys pv d = RES) := by
              have h1 := HR.out
              rw [elP_skip (by rw [PT.out]; exact htr) FS.out] at h1
              exact h1
            have n1 : decide ((s : Int) < (r : Int)) = false := by simpa using hsr
            have n2 : ((s : Int) == (r : Int)) = true := by simp [hpe]
            clear hpe
            go_wp2_with fail
            go_roundw
            case rel => exact ⟨j + 1, k, ys, q, qc, pv, d, by rw [PT.out], rfl, by go_num, by omega, HL.out, HY.out, by rw [PT.out]; exact hpv, hd0, hd1, RN.out, by rw [PT.out]; exact ST.out⟩
            case measure => simp [intOf]; omega
      · have RF : Hid ((ys, pv, d) = RES) := by
          have h1 := HR.out
          rw [elP_end (by rw [PT.out]; exact htr)] at h1
          exact h1
        obtain ⟨r0, r1, r2, h0, h1, h2⟩ := ST.out.ret.all
        go_wp2_with fail
        obtain ⟨E0, E1, E2, -, -, -⟩ := (((ST.out.ret.set0 (.int .i64 r)).set1 (.int .i64 c)).set2 (.slice (some ⟨g, 0, none⟩) N cap)).all
        exact bodyPost_ret (v := .tuple #[.agg #[.int .i64 r, .int .i64 c, .slice (some ⟨g, 0, none⟩) N cap], .slice q t qc, .int .i64 d]) (by simp [results, Tryz.results113, go_sem, E0, E1, E2]) rfl (by rw [← RF.out]; exact ST.out.endM HL.out hcap (by omega) (by rw [PT.out]; omega) (by omega) (by omega) (by omega) (by omega) (by omega) d _ _ _)
    · obtain rfl : k = 0 := by omega
      have RF : Hid ((ys, pv, d) = RES) := HR.out
      obtain ⟨r0, r1, r2, h0, h1, h2⟩ := ST.out.ret.all
      go_wp2_with fail
      obtain ⟨E0, E1, E2, -, -, -⟩ := (((ST.out.ret.set0 (.int .i64 r)).set1 (.int .i64 c)).set2 (.slice (some ⟨g, 0, none⟩) N cap)).all
      exact bodyPost_ret (v := .tuple #[.agg #[.int .i64 r, .int .i64 c, .slice (some ⟨g, 0, none⟩) N cap], .slice q t qc, .int .i64 d]) (by simp [results, Tryz.results113, go_sem, E0, E1, E2]) rfl (by rw [← RF.out]; exact ST.out.endM HL.out hcap (by omega) (by rw [PT.out]; omega) (by omega) (by omega) (by omega) (by omega) (by omega) d _ _ _)
end Go.Proofs.YtcapddcmnjeloaaGreatDoor
end

section
/-
  Chapter 7, in the model: EchelonOf, RankOf.
-/
namespace Go.Proofs.YtcapddcmnjeloaaGreatDoor
set_option maxRecDepth 100000
open Go.RowKit
structure ER where
  r : Int
  c : Int
  zs : List Int
  pv : List Int
  ok : Bool
theorem Own.far' {B : Nat} {w : World} {v : Value} {zs : List Int} (h : Own B w v zs) {a : Addr} (ha : a.block < B) (u : Value) : Own B (w.setCell a u) v zs := by
  rcases h with h | ⟨g, cap, hv, hB, hi, hl, hc⟩
  · exact .inl h
  · exact .inr ⟨g, cap, hv, hB, hi.far (by omega) u, hl, hc⟩
theorem Own.far3' {B b : Nat} {w : World} {v : Value} {zs : List Int} (h : Own B w v zs) (hb : b < B) (x y z : Value) : Own B (((w.setCell ⟨b, 0, none⟩ x).setCell ⟨b, 1, none⟩ y).setCell ⟨b, 2, none⟩ z) v zs :=
  ((h.far' (a := ⟨b, 0, none⟩) hb x).far' (a := ⟨b, 1, none⟩) hb y).far' (a := ⟨b, 2, none⟩) hb z
end Go.Proofs.YtcapddcmnjeloaaGreatDoor
end

section
/-
  Chapter 8, in the model: RankMod, DeterminantMod.
-/
namespace Go.Proofs.YtcapddcmnjeloaaGreatDoor
set_option maxRecDepth 100000
open Go.RowKit
def rkM (r c p : Int) (xs : List Int) : Int × Bool := if (isMat r c xs && prmB p) = true then (((elM p r.toNat c.toNat xs).2.1.length : Int), true) else (0, false)
def dtM (r c p : Int) (xs : List Int) : Int × Bool := if (isMat r c xs && prmB p && decide (r = c)) = true then (if (elM p r.toNat c.toNat xs).2.1.length < r.toNat then 0 else (elM p r.toNat c.toNat xs).2.2, true) else (0, false)
theorem rkM_no {r c p : Int} {xs : List Int} (h : (isMat r c xs && prmB p) = false) : rkM r c p xs = (0, false) ∧ redM r c p xs = MR.no ∧ dtM r c p xs = (0, false) := by
  unfold rkM redM dtM
  rw [h]
  exact ⟨rfl, rfl, rfl⟩
theorem rkM_yes {r c p : Int} {xs : List Int} (h : (isMat r c xs && prmB p) = true) : ∃ (R C N : Nat), r = R ∧ c = C ∧ N = R * C ∧ R ≤ 24 ∧ C ≤ 24 ∧ xs.length = N ∧ (resL p xs).length = N ∧ prmB p = true ∧ CanL p (resL p xs) ∧ redM r c p xs = ⟨true, R, C, resL p xs⟩ ∧ rkM r c p xs = (((elM p R C xs).2.1.length : Int), true) ∧ dtM r c p xs = (if R = C then (if (elM p R C xs).2.1.length < R then 0 else (elM p R C xs).2.2, true) else (0, false)) := by
  have h0 := h
  rw [Bool.and_eq_true] at h
  obtain ⟨hm, hp⟩ := h
  obtain ⟨⟨r0, r1⟩, ⟨c0, c1⟩, hl, nx⟩ := isMat_says hm
  obtain ⟨R, rfl⟩ := Int.eq_ofNat_of_zero_le r0
  obtain ⟨C, rfl⟩ := Int.eq_ofNat_of_zero_le c0
  have hx : xs.length = R * C := by rw [← Int.natCast_mul] at hl; omega
  refine ⟨R, C, R * C, rfl, rfl, rfl, by omega, by omega, hx, by rw [resL_length, hx], hp, resL_can (by have := (prmB_says hp).1.1; omega) xs, ?_, ?_, ?_⟩
  · unfold redM; rw [if_pos h0]
  · unfold rkM; rw [if_pos h0]; rfl
  · unfold dtM
    rw [h0, Bool.true_and]
    by_cases e : R = C
    · rw [if_pos e, if_pos (by simp [e])]; rfl
    · rw [if_neg e, if_neg (by simp; omega)]
theorem Own.elim {B N cap : Nat} {w : World} {q : Option Addr} {zs : List Int} (h : Own B w (.slice q N cap) zs) : Rd w q zs ∧ Spot q := by
  rcases h with ⟨hv, rfl⟩ | ⟨g, cap, hv, _, hi, _⟩
  · injection hv with e
    exact ⟨Rd.nil _ _, .inl e⟩
  · injection hv with e
    exact ⟨by rw [e]; exact hi.rd, .inr ⟨g, 0, e⟩⟩
end Go.Proofs.YtcapddcmnjeloaaGreatDoor
end

section
/-
  Plain mathematics of chapter 8: the matrix beside the unit matrix, made cell by cell; what InverseMod gives.
-/
namespace Go.Proofs.YtcapddcmnjeloaaGreatDoor
def wdF (p : Int) (n : Nat) (xs : List Int) (i j : Nat) : Int := if j < n then (resL p xs).getD (i * n + j) 0 else if j = n + i then 1 else 0
def wdTo (p : Int) (n : Nat) (xs : List Int) (i j : Nat) : List Int := tab n (2 * n) fun a b => if a < i ∨ (a = i ∧ b < j) then wdF p n xs a b else 0
theorem wdTo_length (p : Int) (n : Nat) (xs : List Int) (i j : Nat) : (wdTo p n xs i j).length = n * (2 * n) := tab_length _ _ _
theorem wdTo_zero (p : Int) (n : Nat) (xs : List Int) : wdTo p n xs 0 0 = List.replicate (n * (2 * n)) 0 := by
  symm
  refine tab_ext (by simp) fun a b ha hb => ?_
  rw [if_neg (by omega)]
  have := idx_lt (c := 2 * n) ha hb
  simp [List.getD, this]
theorem wdTo_all (p : Int) (n : Nat) (xs : List Int) : wdTo p n xs n 0 = wideL p n xs := by
  refine tab_ext (tab_length _ _ _) fun a b ha hb => ?_
  unfold wdTo
  rw [tab_at n (2 * n) _ ha hb, if_pos (.inl ha)]
  rfl
theorem set_tab {r c i j : Nat} {f g : Nat → Nat → Int} {x : Int} (hi : i < r) (hj : j < c) (hx : g i j = x) (h : ∀ a b, a < r → b < c → ¬ (a = i ∧ b = j) → f a b = g a b) : (tab r c f).set (i * c + j) x = tab r c g := by
  refine tab_ext (by rw [List.length_set, tab_length]) fun a b ha hb => ?_
  by_cases e : a = i ∧ b = j
  · obtain ⟨rfl, rfl⟩ := e
    rw [hx]
    have := idx_lt (c := c) ha hb
    simp [List.getD, tab_length, this]
  · rw [← h a b ha hb e, ← tab_at r c f ha hb]
    have hne : a * c + b ≠ i * c + j := fun h2 => by
      have h3 := congrArg (· / c) h2
      have h4 := congrArg (· % c) h2
      simp only [idx_div hb, idx_div hj, idx_mod hb, idx_mod hj] at h3 h4
      exact e ⟨h3, h4⟩
    simp [List.getD, Ne.symm hne]
theorem wdTo_cell {p : Int} {n : Nat} {xs : List Int} {i j : Nat} (hi : i < n) (hj : j < n) : (wdTo p n xs i j).set (i * (2 * n) + j) ((resL p xs).getD (i * n + j) 0) = wdTo p n xs i (j + 1) := by
  refine set_tab hi (by omega) ?_ fun a b ha hb h => ?_
  · rw [if_pos (by omega)]
    unfold wdF
    rw [if_pos hj]
  · by_cases h1 : a < i ∨ (a = i ∧ b < j)
    · rw [if_pos h1, if_pos (by omega)]
    · rw [if_neg h1, if_neg (by omega)]
theorem wdTo_row {p : Int} {n : Nat} {xs : List Int} {i : Nat} (hi : i < n) : (wdTo p n xs i n).set (i * (2 * n) + (n + i)) 1 = wdTo p n xs (i + 1) 0 := by
  refine set_tab hi (by omega) ?_ fun a b ha hb h => ?_
  · rw [if_pos (by omega)]
    unfold wdF
    rw [if_neg (by omega), if_pos rfl]
  · by_cases h1 : a < i ∨ (a = i ∧ b < n)
    · rw [if_pos h1, if_pos (by omega)]
    · rw [if_neg h1]
      by_cases h2 : a < i + 1 ∨ (a = i + 1 ∧ b < 0)
      · rw [if_pos h2]
        unfold wdF
        rw [if_neg (by omega), if_neg (by omega)]
      · rw [if_neg h2]
def hfTo (n : Nat) (ys : List Int) (i j : Nat) : List Int := tab n n fun a b => if a < i ∨ (a = i ∧ b < j) then ys.getD (a * (2 * n) + (n + b)) 0 else 0
theorem hfTo_length (n : Nat) (ys : List Int) (i j : Nat) : (hfTo n ys i j).length = n * n := tab_length _ _ _
theorem hfTo_zero (n : Nat) (ys : List Int) : hfTo n ys 0 0 = List.replicate (n * n) 0 := by
  symm
  refine tab_ext (by simp) fun a b ha hb => ?_
  rw [if_neg (by omega)]
  have := idx_lt (c := n) ha hb
  simp [List.getD, this]
theorem hfTo_cell {n : Nat} {ys : List Int} {i j : Nat} (hi : i < n) (hj : j < n) : (hfTo n ys i j).set (i * n + j) (ys.getD (i * (2 * n) + (n + j)) 0) = hfTo n ys i (j + 1) := by
  refine set_tab hi hj ?_ fun a b ha hb h => ?_
  · rw [if_pos (by omega)]
  · by_cases h1 : a < i ∨ (a = i ∧ b < j)
    · rw [if_pos h1, if_pos (by omega)]
    · rw [if_neg h1, if_neg (by omega)]
theorem hfTo_row {n : Nat} {ys : List Int} {i : Nat} : hfTo n ys i n = hfTo n ys (i + 1) 0 := by
  refine tab_ext (hfTo_length _ _ _ _) fun a b ha hb => ?_
  unfold hfTo
  rw [tab_at n n _ ha hb]
  by_cases h1 : a < i ∨ (a = i ∧ b < n)
  · rw [if_pos h1, if_pos (by omega)]
  · rw [if_neg h1, if_neg (by omega)]
theorem hfTo_all (n : Nat) (p : Int) (xs : List Int) : hfTo n (elW p n xs).1 n 0 = ivL p n xs := by
  refine tab_ext (tab_length _ _ _) fun a b ha hb => ?_
  unfold hfTo
  rw [tab_at n n _ ha hb, if_pos (.inl ha)]
theorem clP_len {p : Int} {r c t j : Nat} : ∀ (k i : Nat) (xs : List Int), xs.length = r * c → (clP p r c t j k i xs).length = r * c := by
  intro k
  induction k with
  | zero => intro i xs h; exact h
  | succ k ih =>
    intro i xs h
    by_cases hs : i = t ∨ mxC c xs i j = 0
    · rw [clP_skip hs]; exact ih _ _ h
    · rw [clP_on hs]; exact ih _ _ (rowL_length _ _ _ _ _)
theorem elP_len {p : Int} {r c : Nat} : ∀ (k j : Nat) (xs : List Int) (pv : List Nat) (d : Int), xs.length = r * c → (elP p r c k j xs pv d).1.length = r * c := by
  intro k
  induction k with
  | zero => intro j xs pv d h; exact h
  | succ k ih =>
    intro j xs pv d h
    by_cases ht : pv.length < r
    · by_cases hf : fstR c j xs (r - pv.length) pv.length = r
      · rw [elP_skip ht hf]; exact ih _ _ _ _ h
      · rw [elP_on ht rfl hf]
        exact ih _ _ _ _ (clP_len _ _ _ (rowL_length _ _ _ _ _))
    · rw [elP_end ht]; exact h
theorem elW_len (p : Int) (n : Nat) (xs : List Int) : (elW p n xs).1.length = n * (2 * n) := elP_len _ _ _ _ _ (tab_length _ _ _)
def ivX (r c p : Int) (xs : List Int) : MR := if (isMat r c xs && prmB p && decide (r = c) && decide (r ≤ 12)) = true then (if (elW p r.toNat xs).2.1.length < r.toNat then MR.no else ⟨true, r, r, ivL p r.toNat xs⟩) else MR.no
theorem ivX_no1 {r c p : Int} {xs : List Int} (h : (isMat r c xs && prmB p) = false) : ivX r c p xs = MR.no := by
  unfold ivX; rw [h]; rfl
theorem ivX_no2 {r c p : Int} {xs : List Int} (h : r ≠ c) : ivX r c p xs = MR.no := by
  unfold ivX; rw [decide_eq_false h, Bool.and_false, Bool.false_and]; rfl
theorem ivX_no3 {r c p : Int} {xs : List Int} (h : ¬ r ≤ 12) : ivX r c p xs = MR.no := by
  unfold ivX; rw [decide_eq_false h, Bool.and_false]; rfl
theorem ivX_at {n : Nat} {p : Int} {xs : List Int} (h : (isMat n n xs && prmB p) = true) (hn : n ≤ 12) : ivX n n p xs = if (elW p n xs).2.1.length < n then MR.no else ⟨true, n, n, ivL p n xs⟩ := by
  unfold ivX; rw [h, decide_eq_true rfl, decide_eq_true (by omega)]; rfl
end Go.Proofs.YtcapddcmnjeloaaGreatDoor
end

section
/-
  Plain mathematics of chapter 8: what SolveMod gives, and how it is made cell by cell.
-/
namespace Go.Proofs.YtcapddcmnjeloaaGreatDoor
theorem ivX_says {r c p : Int} {xs : List Int} (h : (ivX r c p xs).ok = true) : ∃ n : Nat, r = n ∧ c = n ∧ n ≤ 12 ∧ prmB p = true ∧ xs.length = n * n ∧ (isMat r c xs && prmB p) = true ∧ (elW p n xs).2.1.length ≥ n ∧ ivX r c p xs = ⟨true, n, n, ivL p n xs⟩ ∧ (ivL p n xs).length = n * n ∧ CanL p (ivL p n xs) := by
  rcases Bool.eq_false_or_eq_true (isMat r c xs && prmB p) with hh | hh
  · by_cases h1 : r = c
    · by_cases h2 : r ≤ 12
      · obtain ⟨R, C, N, rfl, rfl, hN, hR, hC, hx, -, hp, -, -, -, -⟩ := rkM_yes hh
        have e : R = C := by omega
        subst e
        have hx2 : xs.length = R * R := by rw [hx, hN]
        have e1 := ivX_at (p := p) hh (by omega : R ≤ 12)
        obtain ⟨-, -, hc, hl⟩ := elW_inv (prmB_says hp).1 hx2
        by_cases h3 : (elW p R xs).2.1.length < R
        · rw [e1, if_pos h3] at h; cases h
        · rw [if_neg h3] at e1
          exact ⟨R, rfl, rfl, by omega, hp, hx2, hh, by omega, e1, hl, hc⟩
      · rw [ivX_no3 h2] at h; cases h
    · rw [ivX_no2 h1] at h; cases h
  · rw [ivX_no1 hh] at h; cases h
def svF (p : Int) (n : Nat) (vs bs : List Int) (i j : Nat) : Int := slF p (fun k => vs.getD (i * n + k) 0) (fun k => bs.getD k 0) j
theorem svF_zero (p : Int) (n : Nat) (vs bs : List Int) (i : Nat) : svF p n vs bs i 0 = 0 := rfl
theorem svF_step (p : Int) (n : Nat) (vs bs : List Int) (i j : Nat) : svF p n vs bs i (j + 1) = (svF p n vs bs i j + vs.getD (i * n + j) 0 * (bs.getD j 0 % p)) % p := rfl
theorem svF_can {p : Int} (hp : 0 < p) (n : Nat) (vs bs : List Int) (i j : Nat) : 0 ≤ svF p n vs bs i j ∧ svF p n vs bs i j < p := slF_can hp _ _ _
def svTo (p : Int) (n : Nat) (vs bs : List Int) (i j : Nat) : List Int := (List.range n).map fun a => if a < i then svF p n vs bs a n else if a = i then svF p n vs bs i j else 0
theorem svTo_length (p : Int) (n : Nat) (vs bs : List Int) (i j : Nat) : (svTo p n vs bs i j).length = n := by simp [svTo]
theorem svTo_zero (p : Int) (n : Nat) (vs bs : List Int) : svTo p n vs bs 0 0 = List.replicate n 0 := by
  apply List.ext_getElem (by simp [svTo])
  intro k h1 h2
  simp [svTo, svF_zero]
theorem svTo_at {p : Int} {n : Nat} {vs bs : List Int} {i j : Nat} (hi : i < n) : (svTo p n vs bs i j).getD i 0 = svF p n vs bs i j := by
  unfold svTo
  simp [List.getD, hi]
theorem svTo_set {p : Int} {n : Nat} {vs bs : List Int} {i j : Nat} : (svTo p n vs bs i j).set i (svF p n vs bs i (j + 1)) = svTo p n vs bs i (j + 1) := by
  apply List.ext_getElem (by simp [svTo])
  intro k h1 h2
  rw [List.getElem_set]
  by_cases e : i = k
  · subst e; simp [svTo]
  · rw [if_neg e]
    simp [svTo, show ¬ k = i from fun h => e h.symm]
theorem svTo_row {p : Int} {n : Nat} {vs bs : List Int} {i : Nat} : svTo p n vs bs i n = svTo p n vs bs (i + 1) 0 := by
  apply List.ext_getElem (by simp [svTo])
  intro k h1 h2
  simp only [svTo, List.getElem_map, List.getElem_range]
  by_cases h3 : k < i
  · rw [if_pos h3, if_pos (by omega)]
  · rw [if_neg h3]
    by_cases h4 : k = i
    · rw [if_pos h4, if_pos (by omega), h4]
    · rw [if_neg h4, if_neg (by omega)]
      split
      · rfl
      · rfl
theorem svTo_all (p : Int) (n : Nat) (vs bs : List Int) : svTo p n vs bs n 0 = solL p n vs bs := by
  apply List.ext_getElem (by simp [svTo, solL])
  intro k h1 h2
  have : k < n := by simpa [svTo] using h1
  simp [svTo, solL, svF, this]
theorem nums_bad {bs : List Int} {j : Nat} (hj : j < bs.length) (h : ¬ NumP (bs.getD j 0)) : nums bs = false := by
  cases hb : nums bs with
  | false => rfl
  | true => exact absurd (nums_at hb hj) h
theorem nums_all {bs : List Int} (h : ∀ j, j < bs.length → NumP (bs.getD j 0)) : nums bs = true := nums_true h
end Go.Proofs.YtcapddcmnjeloaaGreatDoor
end

section
/-
  Plain mathematics of chapter 11: what SolveByLifting answers, step by step.
-/
namespace Go.Proofs.YtcapddcmnjeloaaGreatDoor
structure LfP (r c : Int) (xs : List Int) (p : Int) : Prop where
  low : 101 ≤ p
  up : p ≤ 199
  inv : (ivX r c p xs).ok = true
  first : ∀ q, 101 ≤ q → q < p → (ivX r c q xs).ok = false
theorem LfP.uniq {r c p q : Int} {xs : List Int} (h : LfP r c xs p) (h' : LfP r c xs q) : p = q := by
  rcases Int.lt_trichotomy p q with h1 | h1 | h1
  · have := h'.first p h.low h1
    rw [h.inv] at this; cases this
  · exact h1
  · have := h.first q h'.low h1
    rw [h'.inv] at this; cases this
def nxX (n : Nat) (P : Int) (dg us : List Int) : List Int := (List.range n).map fun i => us.getD i 0 + P * dg.getD i 0
def nxR (p : Int) (n : Nat) (xs dg rs : List Int) : List Int := (List.range n).map fun i => (rs.getD i 0 - sumN n fun j => mxC n xs i j * dg.getD j 0) / p
theorem nxX_length (n : Nat) (P : Int) (dg us : List Int) : (nxX n P dg us).length = n := by simp [nxX]
theorem nxR_length (p : Int) (n : Nat) (xs dg rs : List Int) : (nxR p n xs dg rs).length = n := by simp [nxR]
theorem nxX_at {n i : Nat} {P : Int} {dg us : List Int} (hi : i < n) : (nxX n P dg us).getD i 0 = us.getD i 0 + P * dg.getD i 0 := by simp [nxX, List.getD, hi]
theorem nxR_at {p : Int} {n i : Nat} {xs dg rs : List Int} (hi : i < n) : (nxR p n xs dg rs).getD i 0 = (rs.getD i 0 - sumN n fun j => mxC n xs i j * dg.getD j 0) / p := by simp [nxR, List.getD, hi]
def lfS (p : Int) (n : Nat) (xs vs bs : List Int) : Nat → List Int × List Int
  | 0 => (List.replicate n 0, bs)
  | k + 1 => (nxX n (p ^ k) (solL p n vs (lfS p n xs vs bs k).2) (lfS p n xs vs bs k).1, nxR p n xs (solL p n vs (lfS p n xs vs bs k).2) (lfS p n xs vs bs k).2)
section
variable {p : Int} {n : Nat} {xs vs bs : List Int}
theorem lfS_x (k : Nat) : (lfS p n xs vs bs (k + 1)).1 = nxX n (p ^ k) (solL p n vs (lfS p n xs vs bs k).2) (lfS p n xs vs bs k).1 := rfl
theorem lfS_r (k : Nat) : (lfS p n xs vs bs (k + 1)).2 = nxR p n xs (solL p n vs (lfS p n xs vs bs k).2) (lfS p n xs vs bs k).2 := rfl
theorem lfS_xl (k : Nat) : (lfS p n xs vs bs k).1.length = n := by
  cases k with
  | zero => exact List.length_replicate ..
  | succ k => exact nxX_length _ _ _ _
theorem lfS_rl (hb : bs.length = n) (k : Nat) : (lfS p n xs vs bs k).2.length = n := by
  cases k with
  | zero => exact hb
  | succ k => exact nxR_length _ _ _ _ _
theorem lf_dvd (h : InvX p n (mxC n xs) (mxC n vs)) (rs : List Int) {i : Nat} (hi : i < n) : p ∣ rs.getD i 0 - sumN n fun j => mxC n xs i j * (solL p n vs rs).getD j 0 :=
  dig_dvd (rest := fun i => rs.getD i 0) (dg := fun j => (solL p n vs rs).getD j 0) h (fun j hj => by
    show Cg p ((solL p n vs rs).getD j 0) _
    rw [solL_at hj]; exact slF_cg _ _ _) hi
theorem lf_tdiv (h : InvX p n (mxC n xs) (mxC n vs)) (rs : List Int) {i : Nat} (hi : i < n) : (rs.getD i 0 - sumN n fun j => mxC n xs i j * (solL p n vs rs).getD j 0).tdiv p = (nxR p n xs (solL p n vs rs) rs).getD i 0 := by
  rw [nxR_at hi]; exact Int.tdiv_eq_ediv_of_dvd (lf_dvd h rs hi)
theorem lf_inv (hp : 0 < p) (h : InvX p n (mxC n xs) (mxC n vs)) : ∀ k, LInv n (mxC n xs) (fun i => bs.getD i 0) (fun j => (lfS p n xs vs bs k).1.getD j 0) (fun i => (lfS p n xs vs bs k).2.getD i 0) (p ^ k)
  | 0 => by
    have e : (fun j => (lfS p n xs vs bs 0).1.getD j 0) = fun _ => 0 := by
      funext j
      show (List.replicate n (0 : Int)).getD j 0 = 0
      rcases Nat.lt_or_ge j n with hj | hj
      · simp [List.getD, hj]
      · simp [List.getD, hj]
    rw [e, Int.pow_zero]
    exact LInv.start
  | k + 1 => by
    have I := (lf_inv hp h k).step (Int.pow_pos hp) (dg := fun j => (solL p n vs (lfS p n xs vs bs k).2).getD j 0) (r' := fun i => (lfS p n xs vs bs (k + 1)).2.getD i 0) (p := p) (fun j hj => solL_can hp hj) fun i hi => by
      show _ = p * (lfS p n xs vs bs (k + 1)).2.getD i 0
      rw [lfS_r, nxR_at hi]
      exact (Int.mul_ediv_cancel' (lf_dvd h _ hi)).symm
    rw [← Int.pow_succ] at I
    refine ⟨fun i hi => ?_, fun j hj => ?_⟩
    · rw [← I.sum i hi]
      refine congrArg (· + _) (sumN_congr fun j hj => ?_)
      show mxC n xs i j * (lfS p n xs vs bs (k + 1)).1.getD j 0 = _
      rw [lfS_x, nxX_at hj]
    · show 0 ≤ (lfS p n xs vs bs (k + 1)).1.getD j 0 ∧ (lfS p n xs vs bs (k + 1)).1.getD j 0 < _
      rw [lfS_x, nxX_at hj]
      exact I.can j hj
theorem lf_can (hp : 0 < p) (h : InvX p n (mxC n xs) (mxC n vs)) (k : Nat) {j : Nat} (hj : j < n) : 0 ≤ (lfS p n xs vs bs k).1.getD j 0 ∧ (lfS p n xs vs bs k).1.getD j 0 < p ^ k := (lf_inv hp h k).can j hj
theorem sum_bd {f : Nat → Int} {K : Int} : ∀ {m : Nat}, (∀ j, j < m → -K ≤ f j ∧ f j ≤ K) → -((m : Int) * K) ≤ sumN m f ∧ sumN m f ≤ (m : Int) * K
  | 0, _ => by show -(((0 : Nat) : Int) * K) ≤ 0 ∧ 0 ≤ ((0 : Nat) : Int) * K; simp
  | m + 1, h => by
    have h1 := sum_bd (m := m) fun j hj => h j (by omega)
    have h2 := h m (by omega)
    have e : ((m + 1 : Nat) : Int) * K = (m : Int) * K + K := by rw [Int.natCast_add, Int.add_mul]; simp
    rw [e]
    show _ ≤ sumN m f + f m ∧ sumN m f + f m ≤ _
    omega
theorem lf_sum (hp : 1 < p) (hx : xs.length = n * n) (hn : nums xs = true) (rs : List Int) {i m : Nat} (hi : i < n) (hm : m ≤ n) : -((m : Int) * (400000000 * (p - 1))) ≤ (sumN m fun j => mxC n xs i j * (solL p n vs rs).getD j 0) ∧ (sumN m fun j => mxC n xs i j * (solL p n vs rs).getD j 0) ≤ (m : Int) * (400000000 * (p - 1)) := sum_bd fun j hj => by
  have h1 := mx_nums hx hn hi (show j < n by omega)
  have h2 := solL_can (p := p) (by omega) (n := n) (vs := vs) (bs := rs) (show j < n by omega)
  exact mul_abs (A := 400000000) (B := p - 1) h1 ⟨by omega, by omega⟩
theorem lf_small (hp : 1 < p) (h6 : n ≤ 6) (hx : xs.length = n * n) (hn : nums xs = true) (hb : bs.length = n) (hm : nums bs = true) (h : InvX p n (mxC n xs) (mxC n vs)) : ∀ k, ∀ i, i < n → -2400000000 ≤ (lfS p n xs vs bs k).2.getD i 0 ∧ (lfS p n xs vs bs k).2.getD i 0 ≤ 2400000000
  | 0, i, hi => by
    have := nums_at hm (j := i) (by omega)
    unfold NumP at this
    show -2400000000 ≤ bs.getD i 0 ∧ bs.getD i 0 ≤ 2400000000
    omega
  | k + 1, i, hi => by
    have h1 := lf_small hp h6 hx hn hb hm h k i hi
    have h2 := lf_sum (vs := vs) hp hx hn (lfS p n xs vs bs k).2 hi (Nat.le_refl n)
    have h3 := lf_dvd h (lfS p n xs vs bs k).2 hi
    rw [lfS_r, nxR_at hi]
    obtain ⟨q, hq⟩ := h3
    rw [hq, Int.mul_ediv_cancel_left q (by omega)]
    have h4 : (n : Int) * (400000000 * (p - 1)) ≤ 6 * (400000000 * (p - 1)) := Int.mul_le_mul_of_nonneg_right (by omega) (by omega)
    generalize (n : Int) * (400000000 * (p - 1)) = N at h2 h4
    have h5 : -(p * 2400000000) ≤ p * q ∧ p * q ≤ p * 2400000000 := by omega
    constructor
    · refine Int.le_of_mul_le_mul_left (a := p) ?_ (by omega)
      have : p * -2400000000 = -(p * 2400000000) := by omega
      omega
    · exact Int.le_of_mul_le_mul_left h5.2 (by omega)
end
def lfK (p : Int) : Nat := if p ≤ 141 then 4 else 3
def LfGo (p P : Int) : Prop := P ≤ 200000000 ∧ P ≤ 400000000 / p
instance (p P : Int) : Decidable (LfGo p P) := by unfold LfGo; exact inferInstance
theorem lfK_go {p : Int} (h1 : 101 ≤ p) (h2 : p ≤ 199) : (∀ k, k < lfK p → LfGo p (p ^ k)) ∧ ¬ LfGo p (p ^ lfK p) ∧ 1000000 ≤ p ^ lfK p ∧ p ^ lfK p ≤ 400000000 := by
  have key : (List.range 99).all (fun i => decide ((∀ k, k < lfK (((101 + i : Nat)) : Int) → LfGo ((101 + i : Nat) : Int) (((101 + i : Nat) : Int) ^ k)) ∧ ¬ LfGo ((101 + i : Nat) : Int) (((101 + i : Nat) : Int) ^ lfK ((101 + i : Nat) : Int)) ∧ 1000000 ≤ ((101 + i : Nat) : Int) ^ lfK ((101 + i : Nat) : Int) ∧ ((101 + i : Nat) : Int) ^ lfK ((101 + i : Nat) : Int) ≤ 400000000)) = true := by decide +kernel
  obtain ⟨q, rfl⟩ := Int.eq_ofNat_of_zero_le (show 0 ≤ p by omega)
  have := List.all_eq_true.mp key (q - 101) (List.mem_range.mpr (by omega))
  rw [show 101 + (q - 101) = q by omega] at this
  exact of_decide_eq_true this
theorem lfK_more {p : Int} {k : Nat} (h1 : 101 ≤ p) (h2 : p ≤ 199) (hk : k ≤ lfK p) (hg : LfGo p (p ^ k)) : k < lfK p := by
  rcases Nat.lt_or_ge k (lfK p) with h | h
  · exact h
  · obtain rfl : k = lfK p := by omega
    exact absurd hg (lfK_go h1 h2).2.1
theorem lfK_end {p : Int} {k : Nat} (h1 : 101 ≤ p) (h2 : p ≤ 199) (hk : k ≤ lfK p) (hg : ¬ LfGo p (p ^ k)) : k = lfK p := by
  rcases Nat.lt_or_ge k (lfK p) with h | h
  · exact absurd ((lfK_go h1 h2).1 k h) hg
  · omega
theorem lfK_num {p : Int} {k : Nat} (h1 : 101 ≤ p) (h2 : p ≤ 199) (hk : k ≤ lfK p) : 1 ≤ p ^ k ∧ p ^ k ≤ 400000000 := by
  refine ⟨by have : 0 < p ^ k := Int.pow_pos (show 0 < p by omega); omega, ?_⟩
  rcases Nat.lt_or_ge k (lfK p) with h | h
  · have := ((lfK_go h1 h2).1 k h).1
    omega
  · obtain rfl : k = lfK p := by omega
    exact (lfK_go h1 h2).2.2.2
def lfBs (P : Int) : Nat → Nat
  | 0 => 0
  | k + 1 => if 2 * ((k + 1 : Nat) : Int) * ((k + 1 : Nat) : Int) < P then k + 1 else lfBs P k
def lfB (P : Int) : Int := lfBs P 10000
theorem lfBs_yes {P : Int} {k : Nat} (h : 2 * (k : Int) * (k : Int) < P) : lfBs P k = k := by
  cases k with
  | zero => rfl
  | succ k => exact if_pos h
theorem lfBs_no {P : Int} {k : Nat} (h : ¬ 2 * ((k + 1 : Nat) : Int) * ((k + 1 : Nat) : Int) < P) : lfBs P (k + 1) = lfBs P k := if_neg h
theorem lfBs_eq {P : Int} {B : Nat} (h1 : 2 * (B : Int) * (B : Int) < P) : ∀ {k : Nat}, B ≤ k → (B = k ∨ P ≤ 2 * ((B + 1 : Nat) : Int) * ((B + 1 : Nat) : Int)) → lfBs P k = B
  | 0, h2, _ => by
    obtain rfl : B = 0 := by omega
    rfl
  | k + 1, h2, h3 => by
    rcases Nat.lt_or_ge B (k + 1) with h4 | h4
    · have h5 : P ≤ 2 * ((B + 1 : Nat) : Int) * ((B + 1 : Nat) : Int) := by
        rcases h3 with h3 | h3
        · omega
        · exact h3
      have h6 : 2 * ((B + 1 : Nat) : Int) * ((B + 1 : Nat) : Int) ≤ 2 * ((k + 1 : Nat) : Int) * ((k + 1 : Nat) : Int) := Int.mul_le_mul (by omega) (by omega) (by omega) (by omega)
      rw [lfBs_no (by omega)]
      exact lfBs_eq h1 (by omega) (.inr h5)
    · obtain rfl : B = k + 1 := by omega
      exact lfBs_yes h1
theorem lfB_eq {P B : Int} (h0 : 0 ≤ B) (h1 : 2 * B * B < P) (h2 : B ≤ 10000) (h3 : B = 10000 ∨ P ≤ 2 * (B + 1) * (B + 1)) : lfB P = B := by
  obtain ⟨b, rfl⟩ := Int.eq_ofNat_of_zero_le h0
  unfold lfB
  rw [lfBs_eq h1 (by omega) (by
    rcases h3 with h3 | h3
    · exact .inl (by omega)
    · exact .inr h3)]
noncomputable def slR (p : Int) (n : Nat) (xs bs : List Int) (i : Nat) : Int × Int × Bool := rtX ((lfS p n xs (ivX n n p xs).zs bs (lfK p)).1.getD i 0) (p ^ lfK p) (lfB (p ^ lfK p))
noncomputable def slZ (p : Int) (n : Nat) (xs bs : List Int) (i : Nat) : List (Int × Int) := (List.range i).map fun k => ((slR p n xs bs k).1, (slR p n xs bs k).2.1)
theorem slZ_length (p : Int) (n : Nat) (xs bs : List Int) (i : Nat) : (slZ p n xs bs i).length = i := by simp [slZ]
theorem slZ_succ (p : Int) (n : Nat) (xs bs : List Int) (i : Nat) : slZ p n xs bs (i + 1) = slZ p n xs bs i ++ [((slR p n xs bs i).1, (slR p n xs bs i).2.1)] := by simp [slZ, List.range_succ]
noncomputable def slQ (p : Int) (n : Nat) (xs bs : List Int) : List (Int × Int) × Bool := if ((List.range n).all (fun i => (slR p n xs bs i).2.2) && irB n n xs bs (slZ p n xs bs n)) = true then (slZ p n xs bs n, true) else ([], false)
theorem slQ_bad {p : Int} {n i : Nat} {xs bs : List Int} (hi : i < n) (h : (slR p n xs bs i).2.2 = false) : slQ p n xs bs = ([], false) := by
  unfold slQ
  refine if_neg fun h2 => ?_
  rw [Bool.and_eq_true, List.all_eq_true] at h2
  have := h2.1 i (List.mem_range.mpr hi)
  rw [h] at this; cases this
theorem slQ_ir {p : Int} {n : Nat} {xs bs : List Int} (h : irB n n xs bs (slZ p n xs bs n) = false) : slQ p n xs bs = ([], false) := by
  unfold slQ
  rw [h, Bool.and_false]; rfl
theorem slQ_yes {p : Int} {n : Nat} {xs bs : List Int} (h : ∀ i, i < n → (slR p n xs bs i).2.2 = true) (h2 : irB n n xs bs (slZ p n xs bs n) = true) : slQ p n xs bs = (slZ p n xs bs n, true) := by
  unfold slQ
  refine if_pos ?_
  rw [h2, Bool.and_true]
  exact List.all_eq_true.mpr fun i hi => h i (List.mem_range.mp hi)
theorem slQ_says {p : Int} {n : Nat} {xs bs : List Int} (h : (slQ p n xs bs).2 = true) : irB n n xs bs (slQ p n xs bs).1 = true := by
  by_cases hh : ((List.range n).all (fun i => (slR p n xs bs i).2.2) && irB n n xs bs (slZ p n xs bs n)) = true
  · unfold slQ
    rw [if_pos hh]
    rw [Bool.and_eq_true] at hh
    exact hh.2
  · unfold slQ at h; rw [if_neg hh] at h; cases h
open Classical in
noncomputable def slX (r c : Int) (xs bs : List Int) : List (Int × Int) × Bool := if h : sysB r c xs bs = true ∧ ∃ p, LfP r c xs p then slQ h.2.choose r.toNat xs bs else ([], false)
theorem slX_sys {r c : Int} {xs bs : List Int} (h : sysB r c xs bs = false) : slX r c xs bs = ([], false) := by
  unfold slX
  exact dif_neg fun h2 => by rw [h] at h2; cases h2.1
theorem slX_none {r c : Int} {xs bs : List Int} (h : ∀ q, 101 ≤ q → q ≤ 199 → (ivX r c q xs).ok = false) : slX r c xs bs = ([], false) := by
  unfold slX
  refine dif_neg ?_
  rintro ⟨-, p, hp⟩
  have := h p hp.low hp.up
  rw [hp.inv] at this; cases this
theorem slX_at {n : Nat} {p : Int} {xs bs : List Int} (h : sysB n n xs bs = true) (hp : LfP n n xs p) : slX n n xs bs = slQ p n xs bs := by
  have hx : sysB n n xs bs = true ∧ ∃ p, LfP n n xs p := ⟨h, p, hp⟩
  unfold slX
  rw [dif_pos hx, hx.2.choose_spec.uniq hp]; rfl
theorem slX_says {r c : Int} {xs bs : List Int} (h : (slX r c xs bs).2 = true) : ∃ n : Nat, r = n ∧ c = n ∧ n ≤ 6 ∧ sysB r c xs bs = true ∧ det n (mxL n xs) ≠ 0 ∧ (slX r c xs bs).1.length = n ∧ irB r c xs bs (slX r c xs bs).1 = true := by
  cases hs : sysB r c xs bs with
  | false => rw [slX_sys hs] at h; cases h
  | true =>
    obtain ⟨n, rfl, rfl, h6, hl, hn, hb, hm⟩ := sysB_says hs
    by_cases hx : ∃ p, LfP n n xs p
    rotate_left
    · unfold slX at h
      rw [dif_neg fun h2 => hx h2.2] at h; cases h
    obtain ⟨p, hp⟩ := hx
    rw [slX_at hs hp] at h ⊢
    have hi := slQ_says h
    have hI : InvX p n (mxC n xs) (mxC n (ivL p n xs)) := by
      obtain ⟨m, hm, -, -, hpr, hl2, -, hge, -⟩ := ivX_says hp.inv
      obtain rfl : n = m := by omega
      exact (elW_inv (prmB_says hpr).1 hl2).2.1 (by omega)
    have hpr : Prm p := by
      obtain ⟨m, -, -, -, hpr, -⟩ := ivX_says hp.inv
      exact (prmB_says hpr).1
    refine ⟨n, rfl, rfl, h6, rfl, fun h0 => ?_, (irB_sol hi).1, hi⟩
    refine hI.ne hpr ?_
    show p ∣ det n (mxL n xs)
    rw [h0]; exact Int.dvd_zero p
theorem sl_max (r c : Int) (xs bs : List Int) : (slX r c xs bs).1.length ≤ 6 := by
  cases h : (slX r c xs bs).2 with
  | true =>
    obtain ⟨n, -, -, h6, -, -, l, -⟩ := slX_says h
    omega
  | false =>
    unfold slX at h ⊢
    split at h
    · rename_i h2
      rw [dif_pos h2]
      unfold slQ at h ⊢
      split at h
      · cases h
      · rename_i h3
        rw [if_neg h3]; exact Nat.zero_le _
    · rename_i h2
      rw [dif_neg h2]; exact Nat.zero_le _
end Go.Proofs.YtcapddcmnjeloaaGreatDoor
end

section
/-
  Chapter 11: what a walk of SolveByLifting needs of its steps. Nothing of a program is used.
-/
namespace Go.Proofs.YtcapddcmnjeloaaGreatDoor
def twL (n : Nat) (f g : List Int) (i : Nat) : List Int := (List.range n).map fun a => if a < i then f.getD a 0 else g.getD a 0
theorem twL_length (n : Nat) (f g : List Int) (i : Nat) : (twL n f g i).length = n := by simp [twL]
theorem twL_at {n i a : Nat} {f g : List Int} (h : a < n) : (twL n f g i).getD a 0 = if a < i then f.getD a 0 else g.getD a 0 := by simp [twL, List.getD, h]
theorem twL_zero {n : Nat} {f g : List Int} (h : g.length = n) : twL n f g 0 = g := by
  refine List.ext_getElem (by rw [twL_length, h]) fun a h1 h2 => ?_
  simp [twL, List.getD, h2]
theorem twL_all {n : Nat} {f g : List Int} (h : f.length = n) : twL n f g n = f := by
  refine List.ext_getElem (by rw [twL_length, h]) fun a h1 h2 => ?_
  rw [twL_length] at h1
  simp [twL, List.getD, h1, h2]
theorem twL_set {n i : Nat} {f g : List Int} : (twL n f g i).set i (f.getD i 0) = twL n f g (i + 1) := by
  refine List.ext_getElem (by simp [twL]) fun a h1 h2 => ?_
  rw [twL_length] at h2
  by_cases hai : i = a
  · subst hai
    simp [twL]
  · rw [List.getElem_set_ne hai]
    simp only [twL, List.getElem_map, List.getElem_range]
    by_cases h3 : a < i
    · rw [if_pos h3, if_pos (by omega)]
    · rw [if_neg h3, if_neg (by omega)]
def sF (n : Nat) (xs ds rs : List Int) (i j : Nat) : Int := rs.getD i 0 - sumN j fun k => mxC n xs i k * ds.getD k 0
theorem sF_zero (n : Nat) (xs ds rs : List Int) (i : Nat) : sF n xs ds rs i 0 = rs.getD i 0 := by
  show rs.getD i 0 - 0 = _
  omega
theorem sF_succ (n : Nat) (xs ds rs : List Int) (i j : Nat) : sF n xs ds rs i (j + 1) = sF n xs ds rs i j - xs.getD (i * n + j) 0 * ds.getD j 0 := by
  unfold sF
  show rs.getD i 0 - (sumN j _ + mxC n xs i j * ds.getD j 0) = _
  unfold mxC
  omega
structure LfH (p : Int) (n : Nat) (xs vs bs : List Int) : Prop where
  lo : 101 ≤ p
  hi : p ≤ 199
  h6 : n ≤ 6
  hx : xs.length = n * n
  nx : nums xs = true
  hb : bs.length = n
  nb : nums bs = true
  hv : vs.length = n * n
  can : CanL p vs
  inv : InvX p n (mxC n xs) (mxC n vs)
section
variable {p : Int} {n : Nat} {xs vs bs : List Int}
theorem LfH.of (hp : LfP n n xs p) (h6 : n ≤ 6) (hx : xs.length = n * n) (nx : nums xs = true) (hb : bs.length = n) (nb : nums bs = true) : LfH p n xs (ivL p n xs) bs ∧ ivX n n p xs = ⟨true, n, n, ivL p n xs⟩ := by
  obtain ⟨n', e1, e2, -, hp2, hx2, -, hl, e3, hv, hc⟩ := ivX_says hp.inv
  have : n' = n := by omega
  subst this
  refine ⟨⟨hp.low, hp.up, h6, hx, nx, hb, nb, hv, hc, ?_⟩, e3⟩
  obtain ⟨m, hm, -, -, hpr, hl2, -, hge, -⟩ := ivX_says hp.inv
  obtain rfl : n' = m := by omega
  exact (elW_inv (prmB_says hpr).1 hl2).2.1 (by omega)
theorem LfH.rest (H : LfH p n xs vs bs) (k : Nat) : (lfS p n xs vs bs k).2.length = n ∧ ∀ i, i < n → -2400000000 ≤ (lfS p n xs vs bs k).2.getD i 0 ∧ (lfS p n xs vs bs k).2.getD i 0 ≤ 2400000000 :=
  ⟨lfS_rl H.hb k, fun i hi => lf_small (by have := H.lo; omega) H.h6 H.hx H.nx H.hb H.nb H.inv k i hi⟩
theorem LfH.sums (H : LfH p n xs vs bs) (k : Nat) {i j : Nat} (hi : i < n) (hj : j ≤ n) : -1000000000000 ≤ sF n xs (solL p n vs (lfS p n xs vs bs k).2) (lfS p n xs vs bs k).2 i j ∧ sF n xs (solL p n vs (lfS p n xs vs bs k).2) (lfS p n xs vs bs k).2 i j ≤ 1000000000000 := by
  have h1 := (H.rest k).2 i hi
  have h2 := lf_sum (p := p) (vs := vs) (by have := H.lo; omega) H.hx H.nx (lfS p n xs vs bs k).2 hi hj
  have h3 : (j : Int) * (400000000 * (p - 1)) ≤ 6 * (400000000 * (p - 1)) := Int.mul_le_mul_of_nonneg_right (by have := H.h6; omega) (by have := H.lo; omega)
  have := H.hi
  unfold sF
  omega
theorem LfH.prod (H : LfH p n xs vs bs) (k : Nat) {i j : Nat} (hi : i < n) (hj : j < n) : -80000000000 ≤ xs.getD (i * n + j) 0 * (solL p n vs (lfS p n xs vs bs k).2).getD j 0 ∧ xs.getD (i * n + j) 0 * (solL p n vs (lfS p n xs vs bs k).2).getD j 0 ≤ 80000000000 := by
  have h1 := mx_nums H.hx H.nx hi hj
  have h2 := solL_can (p := p) (by have := H.lo; omega) (n := n) (vs := vs) (bs := (lfS p n xs vs bs k).2) hj
  have := H.hi
  have h3 := mul_abs (A := 400000000) (B := 200) h1 (show -200 ≤ (solL p n vs (lfS p n xs vs bs k).2).getD j 0 ∧ _ ≤ 200 by omega)
  unfold mxC at h3
  omega
theorem LfH.quo (H : LfH p n xs vs bs) (k : Nat) {i : Nat} (hi : i < n) : (sF n xs (solL p n vs (lfS p n xs vs bs k).2) (lfS p n xs vs bs k).2 i n).tdiv p = (lfS p n xs vs bs (k + 1)).2.getD i 0 := by
  rw [lfS_r]
  exact lf_tdiv H.inv _ hi
theorem LfH.next (H : LfH p n xs vs bs) {k : Nat} (hk : k < lfK p) {i : Nat} (hi : i < n) : (lfS p n xs vs bs (k + 1)).1.getD i 0 = (lfS p n xs vs bs k).1.getD i 0 + p ^ k * (solL p n vs (lfS p n xs vs bs k).2).getD i 0 ∧ (0 ≤ (lfS p n xs vs bs k).1.getD i 0 ∧ (lfS p n xs vs bs k).1.getD i 0 ≤ 400000000) ∧ (0 ≤ p ^ k * (solL p n vs (lfS p n xs vs bs k).2).getD i 0 ∧ p ^ k * (solL p n vs (lfS p n xs vs bs k).2).getD i 0 ≤ 400000000) ∧ (lfS p n xs vs bs (k + 1)).1.getD i 0 ≤ 400000000 := by
  have hp : 0 < p := by have := H.lo; omega
  have c0 := lf_can (bs := bs) hp H.inv k hi
  have c1 := lf_can (bs := bs) hp H.inv (k + 1) hi
  have n0 := lfK_num H.lo H.hi (k := k) (by omega)
  have n1 := lfK_num H.lo H.hi (k := k + 1) (by omega)
  have s := solL_can (p := p) hp (n := n) (vs := vs) (bs := (lfS p n xs vs bs k).2) hi
  have e : (lfS p n xs vs bs (k + 1)).1.getD i 0 = (lfS p n xs vs bs k).1.getD i 0 + p ^ k * (solL p n vs (lfS p n xs vs bs k).2).getD i 0 := by rw [lfS_x, nxX_at hi]
  have h0 := Int.mul_nonneg (show 0 ≤ p ^ k by omega) s.1
  exact ⟨e, ⟨c0.1, by omega⟩, ⟨h0, by omega⟩, by omega⟩
theorem LfH.pow (H : LfH p n xs vs bs) {k : Nat} (hk : k < lfK p) : p ^ k * p = p ^ (k + 1) ∧ 1 ≤ p ^ (k + 1) ∧ p ^ (k + 1) ≤ 400000000 := ⟨(Int.pow_succ p k).symm, lfK_num H.lo H.hi (by omega)⟩
end
end Go.Proofs.YtcapddcmnjeloaaGreatDoor
end

section
/-
  Chapter 11, in the model: what the functions that solve ask of their arguments.
-/
namespace Go.Proofs.YtcapddcmnjeloaaGreatDoor
set_option maxRecDepth 100000
open Go.RowKit
set_option maxHeartbeats 2000000 in
theorem sRight (r c : Int) (a : Option Addr) (m : Nat) (xs : List Int) (ab : Option Addr) (mb : Nat) (bs : List Int) (w : World) (h : Rd w a xs) (hn : xs.length ≤ 16777216) (hb : Rd w ab bs) (hbn : bs.length ≤ 16777216) :
    Calls Tryz.prog 38 #[.agg #[.int .i64 r, .int .i64 c, .slice a xs.length m], .slice ab bs.length mb] w (Gives (.bool (sysB r c xs bs)) w) := by
  have SQ : Hid (∀ w', Below w.heap.size w w' → Calls Tryz.prog 78 #[.agg #[.int .i64 r, .int .i64 c, .slice a xs.length m]] w' (Gives (.bool (isSq r c xs)) w')) := fun w' hb => sIsSq r c a m xs w' (h.below hb) hn
  have K0 : Hid (Blk3 (w.alloc (.cells #[.int .i64 r, .int .i64 c, .slice a xs.length m] 26)) w.heap.size 26 (.int .i64 r) (.int .i64 c) (.slice a xs.length m)) := Blk3.at_ _ _ _ _ rfl
  have B0 : Hid (Below w.heap.size w (w.alloc (.cells #[.int .i64 r, .int .i64 c, .slice a xs.length m] 26))) := (Below.refl _ _).alloc (Nat.le_refl _) _
  have V1 : Hid (∀ j, j < bs.length → ¬ NumP (bs.getD j 0) → sysB r c xs bs = false) := fun j hj h => sysB_false (.inr (.inr (nums_bad hj h)))
  have V2 : Hid (isSq r c xs = false → sysB r c xs bs = false) := fun h => sysB_false (.inl h)
  have V3 : Hid ((bs.length : Int) ≠ r → sysB r c xs bs = false) := fun h => sysB_false (.inr (.inl h))
  have V4 : Hid (isSq r c xs = true → (bs.length : Int) = r → (∀ j, j < bs.length → NumP (bs.getD j 0)) → sysB r c xs bs = true) := fun h1 h2 h3 => sysB_true h1 h2 (nums_all h3)
  have RB : Hid (Rd w ab bs) := hb
  generalize sysB r c xs bs = bb at V1 V2 V3 V4 ⊢
  generalize xs.length = L at SQ K0 B0 hn ⊢
  obtain ⟨Lb, hLb⟩ : ∃ Lb, bs.length = Lb := ⟨_, rfl⟩
  rw [hLb] at V1 V3 V4 hbn ⊢
  have XB := Lib.hid hLb
  clear h hb hLb
  go_enter Tryz.func38, Tryz.ntmps38
  go_wp2_with fail
  have S0 := B0.out.size
  generalize w.alloc (.cells #[.int .i64 r, .int .i64 c, .slice a L m] 26) = W at K0 B0 S0 ⊢
  go_loopw [5] (fun v5 wr => ∃ j : Nat, v5 = .int .i64 j ∧ j ≤ Lb ∧ (∀ k, k < j → NumP (bs.getD k 0)) ∧ wr = W) (fun v5 _ => Lb - (intOf v5).toNat)
  case atStart => exact ⟨0, rfl, by omega, fun k hk => by omega, by first | rfl | trivial⟩
  case round =>
    obtain ⟨j, rfl, hj, hk, rfl⟩ := hrel
    have HK := Lib.hid hk
    clear hk
    by_cases hjl : j < Lb
    · obtain ⟨b1, o1, rfl, hc1⟩ := (RB.out.below B0.out) j (by rw [XB.out]; exact hjl)
      have VJ := Lib.hid (V1.out j hjl)
      obtain ⟨x, hx⟩ : ∃ x, bs.getD j 0 = x := ⟨_, rfl⟩
      have X := Lib.hid hx
      rw [hx] at hc1 VJ
      clear hx
      have jl1 : (j : Int) < (Lb : Int) := by omega
      by_cases hxn : NumP x
      · have HK2 : Hid (∀ k, k < j + 1 → NumP (bs.getD k 0)) := fun k hk => by
          rcases Nat.lt_or_ge k j with h3 | h3
          · exact HK.out k h3
          · obtain rfl : k = j := by omega
            rw [X.out]; exact hxn
        go_wp2_with fail
        refine (sIsNum_t x _ hxn.1 hxn.2).mono ?_
        rintro e w' ⟨rfl, rfl⟩
        go_wp2_with fail
        go_roundw
        case rel => exact ⟨j + 1, by go_num, by omega, HK2.out, by first | rfl | trivial⟩
        case measure => simp [intOf]; omega
      · have V := Lib.hid (VJ.out hxn)
        have hx' : x < -400000000 ∨ 400000000 < x := by unfold NumP at hxn; omega
        clear hxn
        go_wp2_with fail
        refine (sIsNum_f x _ hx').mono ?_
        rintro e w' ⟨rfl, rfl⟩
        go_wp2_with fail
        go_ret
        exact ⟨by rw [V.out]; rfl, B0.out⟩
    · obtain rfl : j = Lb := by omega
      obtain ⟨p0, p1, p2, -, -, -⟩ := K0.out.all
      go_wp2_with fail
      refine (SQ.out _ B0.out).mono ?_
      rintro e w2 ⟨rfl, hb2⟩
      have K2 := Lib.hid (K0.out.step hb2)
      have B2 := Lib.hid (B0.out.trans (hb2.mono B0.out.size))
      obtain ⟨q0, q1, q2, -, -, -⟩ := K2.out.all
      clear hb2
      generalize isSq r c xs = sq at V2 V4 ⊢
      cases sq with
      | false =>
        have V := Lib.hid (V2.out rfl)
        go_wp2_with fail
        go_ret
        exact ⟨by rw [V.out]; rfl, B2.out⟩
      | true =>
        by_cases e : (j : Int) = r
        · have V := Lib.hid (V4.out rfl e HK.out)
          have n1 : ((j : Int) == r) = true := by simpa using e
          go_wp2_with fail
          go_ret
          exact ⟨by rw [V.out]; rfl, B2.out⟩
        · have V := Lib.hid (V3.out e)
          have n1 : ((j : Int) == r) = false := by simpa using e
          go_wp2_with fail
          go_ret
          exact ⟨by rw [V.out]; rfl, B2.out⟩
end Go.Proofs.YtcapddcmnjeloaaGreatDoor
end

section
/-
  Ratios as a list, a slice that shows them, a block that holds them. Nothing of a program is used but its types.
-/
namespace Go.Proofs.YtcapddcmnjeloaaGreatDoor
open Go.RowKit
def RdQ (w : World) (a : Option Addr) (l : List (Int × Int)) : Prop :=
  ∀ q : Nat, q < l.length → ∃ b o : Nat, a = some ⟨b, o, none⟩ ∧ b < w.heap.size ∧ w.cell? ⟨b, o + q * 2, none⟩ = some (.int .i64 (l.getD q (0, 0)).1) ∧ w.cell? ⟨b, o + q * 2 + 1, none⟩ = some (.int .i64 (l.getD q (0, 0)).2)
theorem RdQ.below {w w' : World} {a : Option Addr} {l : List (Int × Int)} (h : RdQ w a l) (hb : Below w.heap.size w w') : RdQ w' a l := fun q hq => by
  obtain ⟨b, o, e, hl, h0, h1⟩ := h q hq
  have c : ∀ x : Nat, w'.cell? ⟨b, x, none⟩ = w.cell? ⟨b, x, none⟩ := fun x => (bcell hb).1 b x hl
  exact ⟨b, o, e, Nat.lt_of_lt_of_le hl hb.size, by rw [c]; exact h0, by rw [c]; exact h1⟩
theorem RdQ.nil (w : World) (a : Option Addr) : RdQ w a [] := fun q h => absurd h (by simp)
def flatQ (l : List (Int × Int)) : List Value := l.flatMap fun u => [.int .i64 u.1, .int .i64 u.2]
theorem info_rat : (Tryz.prog.info? 40).map (fun i => (i.zero, i.size, i.bytes)) = some (some (.agg #[.int .i64 0, .int .i64 0]), 2, 16) := by kernel_rfl
theorem underlying_rats : Tryz.prog.underlying 29 = some (.slice 40) := by kernel_rfl
theorem facts_rat : ∃ i, Tryz.prog.info? 40 = some i ∧ i.zero = some (.agg #[.int .i64 0, .int .i64 0]) ∧ i.size = 2 ∧ i.bytes = 16 := by
  have h := info_rat
  cases hi : Tryz.prog.info? 40 with
  | none => rw [hi] at h; simp at h
  | some i => rw [hi] at h; simp only [Option.map_some, Option.some.injEq, Prod.mk.injEq] at h; exact ⟨i, rfl, h.1, h.2.1, h.2.2⟩
theorem flatQ_length (l : List (Int × Int)) : (flatQ l).length = l.length * 2 := by
  induction l with
  | nil => rfl
  | cons u l ih => rw [show flatQ (u :: l) = [.int .i64 u.1, .int .i64 u.2] ++ flatQ l from rfl, List.length_append, ih]; simp; omega
theorem flatQ_app (l l' : List (Int × Int)) : flatQ (l ++ l') = flatQ l ++ flatQ l' := by unfold flatQ; exact List.flatMap_append
def QsB (w : World) (g : Nat) (l : List (Int × Int)) : Prop := ∃ rest : List Value, w.heap[g]? = some (.cells (flatQ l ++ rest).toArray 40 (0, 0))
theorem QsB.move {w w' : World} {g : Nat} {l : List (Int × Int)} (h : QsB w g l) (e : w'.heap[g]? = w.heap[g]?) : QsB w' g l := by
  obtain ⟨rest, h⟩ := h
  exact ⟨rest, e.trans h⟩
theorem QsB.lt {w : World} {g : Nat} {l : List (Int × Int)} (h : QsB w g l) : g < w.heap.size := by
  obtain ⟨rest, h⟩ := h
  exact lt_of_block h
theorem QsB.free {w : World} {g : Nat} {l : List (Int × Int)} (h : QsB w g l) (i : Nat) : w.frozen? ⟨g, i, none⟩ = false := by
  obtain ⟨rest, h⟩ := h
  simp [World.frozen?, h]
theorem flatQ_cons (u : Int × Int) (l : List (Int × Int)) : flatQ (u :: l) = .int .i64 u.1 :: .int .i64 u.2 :: flatQ l := rfl
theorem flatQ_at (l : List (Int × Int)) (rest : List Value) : ∀ q : Nat, q < l.length →
    (flatQ l ++ rest)[q * 2]? = some (.int .i64 (l.getD q (0, 0)).1) ∧ (flatQ l ++ rest)[q * 2 + 1]? = some (.int .i64 (l.getD q (0, 0)).2) := by
  induction l with
  | nil => intro q h; simp at h
  | cons u l ih =>
    intro q h
    rw [flatQ_cons]
    cases q with
    | zero => exact ⟨rfl, rfl⟩
    | succ q =>
      have := ih q (by simpa using h)
      rw [show (q + 1) * 2 = q * 2 + 2 by omega]
      exact this
theorem QsB.cells {w : World} {g : Nat} {l : List (Int × Int)} (h : QsB w g l) {q : Nat} (hq : q < l.length) :
    w.cell? ⟨g, q * 2, none⟩ = some (.int .i64 (l.getD q (0, 0)).1) ∧ w.cell? ⟨g, q * 2 + 1, none⟩ = some (.int .i64 (l.getD q (0, 0)).2) := by
  obtain ⟨rest, h⟩ := h
  have f := flatQ_at l rest q hq
  have c : ∀ n : Nat, w.cell? ⟨g, n, none⟩ = (flatQ l ++ rest)[n]? := fun n => by simp only [World.cell?, h]; simp
  rw [c, c]
  exact f
theorem QsB.rd {w : World} {g : Nat} {l : List (Int × Int)} (h : QsB w g l) : RdQ w (some ⟨g, 0, none⟩) l := fun q hq => by
  have c := h.cells hq
  refine ⟨g, 0, rfl, h.lt, ?_⟩
  simpa using c
theorem flatQ_set (l : List (Int × Int)) (rest : List Value) (u : Int × Int) : ∀ q : Nat, q < l.length →
    ((flatQ l ++ rest).set (q * 2) (.int .i64 u.1)).set (q * 2 + 1) (.int .i64 u.2) = flatQ (l.set q u) ++ rest := by
  induction l with
  | nil => intro q h; simp at h
  | cons v l ih =>
    intro q h
    cases q with
    | zero => rfl
    | succ q =>
      have := ih q (by simpa using h)
      rw [show (q + 1) * 2 = q * 2 + 2 by omega, List.set_cons_succ, flatQ_cons, flatQ_cons]
      exact congrArg (fun L => Value.int .i64 v.1 :: .int .i64 v.2 :: L) this
theorem setCell_blockQ {w : World} {g : Nat} {L : List Value} {t : TypeId} (h : w.heap[g]? = some (.cells L.toArray t (0, 0))) (n : Nat) (u : Value) : (w.setCell ⟨g, n, none⟩ u).heap[g]? = some (.cells (L.set n u).toArray t (0, 0)) := by
  have hlt := lt_of_block h
  have h' : w.heap[g] = .cells L.toArray t (0, 0) := by simpa [Array.getElem?_eq_getElem hlt] using h
  show (w.heap.modify g _)[g]? = _
  rw [Array.getElem?_eq_getElem (by simpa using hlt), Array.getElem_modify_self, h']
  simp
theorem QsB.set {w : World} {g : Nat} {l : List (Int × Int)} (h : QsB w g l) {q : Nat} (hq : q < l.length) (u : Int × Int) :
    QsB ((w.setCell ⟨g, q * 2, none⟩ (.int .i64 u.1)).setCell ⟨g, q * 2 + 1, none⟩ (.int .i64 u.2)) g (l.set q u) := by
  obtain ⟨rest, h⟩ := h
  refine ⟨rest, ?_⟩
  rw [← flatQ_set l rest u q hq]
  exact setCell_blockQ (setCell_blockQ h _ _) _ _
theorem QsB.keep {w w' : World} {g B : Nat} {l : List (Int × Int)} (h : QsB w g l) (hb : Below B w w') (hB : g < B) : QsB w' g l := h.move (hb.block g hB)
theorem flatQ_zero_mem (n : Nat) : ∀ x ∈ flatQ (List.replicate n ((0, 0) : Int × Int)), x = .int .i64 0 := by
  intro x hx
  obtain ⟨u, hu, hx⟩ := List.mem_flatMap.mp hx
  obtain rfl := List.eq_of_mem_replicate hu
  simpa using hx
theorem flatQ_zeros (n : Nat) : madeCells #[.int .i64 0, .int .i64 0] (n * 2) = (flatQ (List.replicate n ((0, 0) : Int × Int))).toArray := by
  apply Array.ext
  · simp [madeCells, flatQ_length]
  · intro i h1 h2
    have e : (flatQ (List.replicate n ((0, 0) : Int × Int))).toArray[i] = .int .i64 0 := flatQ_zero_mem n _ (by simp)
    rw [e]
    have h4 : i % 2 = 0 ∨ i % 2 = 1 := by omega
    rcases h4 with h | h <;> simp [madeCells, h]
def OwnR (B : Nat) (w : World) (v : Value) (l : List (Int × Int)) : Prop := w.ownsRow B 40 2 v l.length (flatQ l)
theorem OwnR.form {B : Nat} {w : World} {v : Value} {l : List (Int × Int)} (h : OwnR B w v l) : ∃ a c, v = .slice a l.length c := by
  obtain ⟨h1, ⟨h2, h3⟩ | ⟨g, cap, cur, e, -⟩⟩ := h
  · exact ⟨_, _, by rw [h2, h3]⟩
  · exact ⟨_, _, e⟩
theorem OwnR.empty {B : Nat} {w : World} (hB : B ≤ w.heap.size) : OwnR B (w.alloc (.cells #[] 40)) (.slice (some ⟨w.heap.size, 0, none⟩) 0 0) [] := ⟨rfl, .inr ⟨w.heap.size, 0, #[], rfl, hB, heap_alloc_new w _, Nat.le_refl _, by decide, rfl, rfl⟩⟩
theorem OwnR.nil (B : Nat) (w : World) : OwnR B w (.slice none 0 0) [] := ⟨rfl, .inl ⟨rfl, rfl⟩⟩
theorem OwnR.keep {B : Nat} {w w' : World} {v : Value} {l : List (Int × Int)} (h : OwnR B w v l) (hb : Below w.heap.size w w') : OwnR B w' v l := rows_keep h hb
theorem OwnR.le {B B' : Nat} {w : World} {v : Value} {l : List (Int × Int)} (h : OwnR B w v l) (hB : B' ≤ B) : OwnR B' w v l := by
  obtain ⟨h1, h2 | ⟨g, cap, cur, e, h3, rest⟩⟩ := h
  · exact ⟨h1, .inl h2⟩
  · exact ⟨h1, .inr ⟨g, cap, cur, e, Nat.le_trans hB h3, rest⟩⟩
theorem OwnR.old {B : Nat} {w : World} {v : Value} {l : List (Int × Int)} (h : OwnR B w v l) (o : Obj) : OwnR B (w.alloc o) v l := h.keep ((Below.refl _ _).alloc (Nat.le_refl _) o)
theorem OwnR.blk {B : Nat} {w : World} {v : Value} {l : List (Int × Int)} (h : OwnR B w v l) : (v = .slice none 0 0 ∧ l = []) ∨ ∃ g cap : Nat, v = .slice (some ⟨g, 0, none⟩) l.length cap ∧ B ≤ g ∧ QsB w g l ∧ l.length ≤ cap := by
  rcases h.2 with ⟨rfl, h0⟩ | ⟨g, cap, cur, rfl, hB, hg, hc, -, -, ht⟩
  · exact .inl ⟨rfl, List.eq_nil_of_length_eq_zero h0⟩
  · refine .inr ⟨g, cap, rfl, hB, ⟨cur.toList.drop (l.length * 2), ?_⟩, hc⟩
    rw [hg]
    congr 1
    congr 1
    rw [← ht, List.take_append_drop]
theorem OwnR.rd {B : Nat} {w : World} {a : Option Addr} {n c : Nat} {l : List (Int × Int)} (h : OwnR B w (.slice a n c) l) : RdQ w a l := by
  rcases h.blk with ⟨e, rfl⟩ | ⟨g, cap, e, -, hi, -⟩
  · exact RdQ.nil _ _
  · injection e with e1 e2 e3
    rw [e1]; exact hi.rd
def QRes (zs : List (Int × Int)) (ok : Bool) (w : World) (e : Ending) (w' : World) : Prop := ∃ v : Value, e = .returned (.tuple #[v, .bool ok]) ∧ OwnR w.heap.size w' v zs ∧ Below w.heap.size w w'
theorem flatQ_snoc (l : List (Int × Int)) (u : Int × Int) : flatQ (l ++ [u]) = flatQ l ++ [.int .i64 u.1, .int .i64 u.2] := by rw [flatQ_app]; rfl
end Go.Proofs.YtcapddcmnjeloaaGreatDoor
end

section
/-
  A region that draws its order and stores, at its end, into cells that it loads: a condition on the world is shown again behind each operation but those that come after all loads. No function of the program is named.
-/
namespace Go.Proofs.YtcapddcmnjeloaaGreatDoor
theorem two_only {p : Nat → Prop} (a b : Nat) (ha : p a) (hb : p b) : ∀ j, (j == a || j == b) = true → p j := fun j hj => by
  rw [Bool.or_eq_true, beq_iff_eq, beq_iff_eq] at hj
  rcases hj with rfl | rfl
  · exact ha
  · exact hb
section
variable {P : Program} {ops : Array Oper} {Q : Exit → Act → World → Prop} {md : Region.Mode} {S : World → Prop} {T : Nat → Bool}
def anc (md : Region.Mode) (ops : Array Oper) (i : Nat) : Nat → Nat → Bool
  | 0, _ => false
  | f + 1, j => match ops[j]? with
    | some o => o.after.any fun e => Region.binds md e && (e.on == i || anc md ops i f e.on)
    | none => false
def closedB (md : Region.Mode) (ops : Array Oper) (listed : Array Bool) : Bool :=
  (List.range ops.size).all fun j => match ops[j]? with
    | some o => !(listed.getD j false) || o.after.all fun e => !(Region.binds md e) || listed.getD e.on false
    | none => true
def Closed (md : Region.Mode) (ops : Array Oper) (listed : Array Bool) : Prop := ∀ (j : Nat) (o : Oper), ops[j]? = some o → listed.getD j false = true → ∀ e ∈ o.after, Region.binds md e = true → listed.getD e.on false = true
theorem closed_of {listed : Array Bool} (h : closedB md ops listed = true) : Closed md ops listed := fun j o ho hl e he hb => by
  unfold closedB at h
  rw [List.all_eq_true] at h
  have hj : j < ops.size := by
    rcases Nat.lt_or_ge j ops.size with h1 | h1
    · exact h1
    · rw [Array.getElem?_eq_none h1] at ho; cases ho
  have h1 := h j (List.mem_range.mpr hj)
  rw [ho] at h1
  dsimp only at h1
  rw [hl] at h1
  simp only [Bool.not_true, Bool.false_or] at h1
  rw [Array.all_eq_true_iff_forall_mem] at h1
  have h2 := h1 e he
  rw [hb] at h2
  simpa using h2
theorem Closed.set {listed : Array Bool} {i : Nat} (h : Closed md ops listed) (hr : i ∈ Region.ready md ops listed) : Closed md ops (listed.setIfInBounds i true) := fun j o ho hl e he hb => by
  by_cases hji : i = j
  · subst hji
    obtain ⟨-, o', ho', hall⟩ := mem_ready.1 hr
    rw [ho] at ho'
    cases ho'
    exact getD_set_true (hall e he hb)
  · rw [getD_set_ne false hji] at hl
    exact getD_set_true (h j o ho hl e he hb)
theorem anc_unlisted {listed : Array Bool} {i : Nat} (h : Closed md ops listed) (hi : listed.getD i false = false) : ∀ (f j : Nat), anc md ops i f j = true → listed.getD j false = false
  | 0, j, ha => by cases ha
  | f + 1, j, ha => by
    unfold anc at ha
    cases ho : ops[j]? with
    | none => rw [ho] at ha; cases ha
    | some o =>
      rw [ho] at ha
      dsimp only at ha
      rw [Array.any_eq_true'] at ha
      obtain ⟨e, he, hb⟩ := ha
      rw [Bool.and_eq_true, Bool.or_eq_true] at hb
      cases hl : listed.getD j false with
      | false => rfl
      | true =>
        have h1 := h j o ho hl e he hb.1
        rcases hb.2 with h2 | h2
        · have e2 : e.on = i := by simpa using h2
          rw [e2, hi] at h1
          cases h1
        · rw [anc_unlisted h hi f e.on h2] at h1
          cases h1
theorem anc_not_ready {listed : Array Bool} {i j f : Nat} (h : Closed md ops listed) (hi : listed.getD i false = false) (ha : anc md ops i f j = true) : j ∉ Region.ready md ops listed := fun hr => by
  have h1 := h.set hr
  obtain ⟨-, o, ho, hall⟩ := mem_ready.1 hr
  cases f with
  | zero => cases ha
  | succ f =>
    unfold anc at ha
    rw [ho] at ha
    dsimp only at ha
    rw [Array.any_eq_true'] at ha
    obtain ⟨e, he, hb⟩ := ha
    rw [Bool.and_eq_true, Bool.or_eq_true] at hb
    have h2 := hall e he hb.1
    rcases hb.2 with h3 | h3
    · have e2 : e.on = i := by simpa using h3
      rw [e2, hi] at h2
      cases h2
    · rw [anc_unlisted h hi f e.on h3] at h2
      cases h2
def wpAnyT (P : Program) (md : Region.Mode) (ops : Array Oper) (Q : Exit → Act → World → Prop) (S : World → Prop) (T : Nat → Bool) : Nat → Array Bool → Act → World → Prop
  | 0, listed, a, w => Region.ready md ops listed = [] ∧ Q .normal a w
  | fuel + 1, listed, a, w =>
    (Region.ready md ops listed = [] → Q .normal a w) ∧
    ∀ i ∈ Region.ready md ops listed, wpOp P ops Q i (fun a' w' => (T i = false → S w') ∧ wpAnyT P md ops Q S T fuel (listed.setIfInBounds i true) a' w') a w
theorem wpAny_of_T : ∀ (fuel : Nat) (listed : Array Bool) (a : Act) (w : World), wpAnyT P md ops Q S T fuel listed a w → wpAny P md ops Q fuel listed a w
  | 0, _, _, _, h => h
  | fuel + 1, _, _, _, h => ⟨h.1, fun i hi => wpOp_mono (fun a' w' h' => wpAny_of_T fuel _ a' w' h'.2) (h.2 i hi)⟩
theorem getD_swap {listed : Array Bool} {i : Nat} (h : listed.getD i true = false) : listed.getD i false = false := by
  rcases Nat.lt_or_ge i listed.size with h' | h'
  · simp [h'] at h ⊢; exact h
  · simp [Array.getElem?_eq_none h'] at h
theorem wpAnyT_first {i : Nat} {oi : Oper} {v : Value} (hi : ops[i]? = some oi) (hsel : ∀ (j : Nat) (o : Oper) cs b, ops[j]? = some o → o.op ≠ .select cs b)
    (hQ : ∀ c a w, Q (.panic c) (a.put oi.dst v) w → Q (.panic c) a w) (hT : ∀ j, T j = true → anc md ops i ops.size j = true) :
    ∀ (fuel : Nat) (listed : Array Bool) (a : Act) (w : World), Closed md ops listed →
      (∀ j oj, ops[j]? = some oj → j ≠ i → listed.getD j true = false → (∀ e ∈ oj.after, Region.binds md e = true → e.on ≠ i) → oi.apart ops oj = true) →
      i ∈ Region.ready md ops listed → YieldsIf P ops S oi v a → S w →
      wpAnyT P md ops Q S T fuel (listed.setIfInBounds i true) (a.put oi.dst v) w → wpAnyT P md ops Q S T (fuel + 1) listed a w := by
  intro fuel
  induction fuel with
  | zero =>
    intro listed a w _ _ hr hy hS H
    refine ⟨fun h => (by rw [h] at hr; cases hr), fun j hj => ?_⟩
    by_cases hji : j = i
    · subst hji; exact hy.wpOp hi hS ⟨fun _ => hS, H⟩
    · have := ready_mono hj hji
      rw [H.1] at this
      cases this
  | succ fuel ih =>
    intro listed a w hcl hfree hr hy hS H
    refine ⟨fun h => (by rw [h] at hr; cases hr), fun j hj => ?_⟩
    by_cases hji : j = i
    · subst hji; exact hy.wpOp hi hS ⟨fun _ => hS, H⟩
    · have h1 := H.2 j (ready_mono hj hji)
      have hli := getD_swap (mem_ready.1 hr).1
      have hTj : T j = false := by
        cases hb : T j with
        | false => rfl
        | true => exact absurd hj (anc_not_ready hcl hli (hT j hb))
      obtain ⟨hjun, oj, hoj, hall⟩ := mem_ready.1 hj
      have hnot : ∀ e ∈ oj.after, Region.binds md e = true → e.on ≠ i := fun e he hb heq => by
        have h1 := hall e he hb
        rw [heq, hli] at h1
        cases h1
      have h2 := wpOp_putIf hoj (hfree j oj hoj hji hjun hnot) (fun cs b => hsel i oi cs b hi) (fun cs b => hsel j oj cs b hoj) hQ hy h1
      have hfree' : ∀ k ok, ops[k]? = some ok → k ≠ i → (listed.setIfInBounds j true).getD k true = false →
          (∀ e ∈ ok.after, Region.binds md e = true → e.on ≠ i) → oi.apart ops ok = true := fun k ok hk hki hun hno => by
        refine hfree k ok hk hki ?_ hno
        by_cases hjk : j = k
        · subst hjk; exact hjun
        · rw [getD_set_ne true hjk] at hun; exact hun
      refine wpOp_mono (fun a' w' h3 => ⟨h3.2.1, ih (listed.setIfInBounds j true) a' w' (hcl.set hj) hfree' (ready_mono hr (Ne.symm hji)) h3.1 (h3.2.1 hTj) ?_⟩) h2
      rw [Array.setIfInBounds_comm _ _ hji]
      exact h3.2.2
theorem wpAnyT_take {i : Nat} {oi : Oper} {v : Value} {fuel : Nat} {listed : Array Bool} {a : Act} {w : World} (hi : ops[i]? = some oi)
    (hs : Region.noSelect ops = true) (hf : Region.free md ops listed i = true) (hr : (Region.ready md ops listed).contains i = true) (hcl : closedB md ops listed = true)
    (hT : ∀ j, T j = true → anc md ops i ops.size j = true)
    (hQ : ∀ c a w, Q (.panic c) (a.put oi.dst v) w → Q (.panic c) a w) (hy : YieldsIf P ops S oi v a) (hS : S w)
    (h : wpAnyT P md ops Q S T fuel (listed.setIfInBounds i true) (a.put oi.dst v) w) : wpAnyT P md ops Q S T (fuel + 1) listed a w :=
  wpAnyT_first hi (Region.noSelect_spec hs) hQ hT fuel listed a w (closed_of hcl) (Region.free_spec hi hf) (by simpa using hr) hy hS h
theorem wpAnyT_done {listed : Array Bool} {a : Act} {w : World} (hr : Region.ready md ops listed = []) (h : Q .normal a w) :
    ∀ fuel, wpAnyT P md ops Q S T fuel listed a w
  | 0 => ⟨hr, h⟩
  | _ + 1 => ⟨fun _ => h, by rw [hr]; simp⟩
def AllReadyT (P : Program) (md : Region.Mode) (ops : Array Oper) (Q : Exit → Act → World → Prop) (S : World → Prop) (T : Nat → Bool) (fuel : Nat) (listed : Array Bool) (a : Act) (w : World) (rs : List Nat) : Prop :=
  ∀ i ∈ rs, wpOp P ops Q i (fun a' w' => (T i = false → S w') ∧ wpAnyT P md ops Q S T fuel (listed.setIfInBounds i true) a' w') a w
theorem AllReadyT.nil {fuel : Nat} {listed : Array Bool} {a : Act} {w : World} : AllReadyT P md ops Q S T fuel listed a w [] := fun _ h => by cases h
theorem AllReadyT.cons {fuel : Nat} {listed : Array Bool} {a : Act} {w : World} {i : Nat} {o : Oper} {rs : List Nat} (ho : ops[i]? = some o)
    (h : ∀ K' : Act → World → Prop, Shut (∀ a w, (T i = false → S w) → wpAnyT P md ops Q S T fuel (listed.setIfInBounds i true) a w → K' a w) → if Region.wanted o (yielded ops a.tmps) = true then Oper.wp P o a w K' Q else K' (a.put o.dst undef) w)
    (hs : AllReadyT P md ops Q S T fuel listed a w rs) : AllReadyT P md ops Q S T fuel listed a w (i :: rs) := fun j hj => by
  rcases List.mem_cons.1 hj with rfl | hj
  · exact wpOp_step ho (fun K' hK => h K' (fun a w hS hW => hK a w ⟨hS, hW⟩))
  · exact hs j hj
theorem wpAnyT_ready {rs : List Nat} {fuel : Nat} {listed : Array Bool} {a : Act} {w : World} (hr : Region.ready md ops listed = rs) (hne : rs ≠ [])
    (h : AllReadyT P md ops Q S T fuel listed a w rs) : wpAnyT P md ops Q S T (fuel + 1) listed a w := ⟨fun h0 => absurd (hr ▸ h0) hne, hr ▸ h⟩
end
end Go.Proofs.YtcapddcmnjeloaaGreatDoor
end

section
/-
  A region that draws its order and stores, at its end, into cells that it loads: outside of a fence. No function of the program is named.
-/
namespace Go.Proofs.YtcapddcmnjeloaaGreatDoor
theorem one_only {p : Nat → Prop} (a : Nat) (ha : p a) : ∀ j, (j == a) = true → p j := fun j hj => by
  rw [beq_iff_eq] at hj
  subst hj
  exact ha
theorem wp_region_T {P : Program} {id : Nat} {ops : Array Oper} {Q : Exit → Act → World → Prop} {S : World → Prop} {T : Nat → Bool} {a : Act} {w : World} (hm : P.follows .mixedOrders = true) (hS : S w.drew)
    (h : S w.drew → wpAnyT P .any ops Q S T ops.size (Array.replicate ops.size false) a w.drew) : (Code.region id ops true).wp P Q a w := wp_region_any hm (wpAny_of_T _ _ _ _ (h hS))
end Go.Proofs.YtcapddcmnjeloaaGreatDoor
end

section
/-
  Chapter 2, in the model: IsRatio, the lowest terms, MakeRatio.
-/
namespace Go.Proofs.YtcapddcmnjeloaaGreatDoor
open Go.RowKit
def ratV (r : Int × Int) : Value := .agg #[.int .i64 r.1, .int .i64 r.2]
theorem sIsRat (n d : Int) (w : World) : Calls Tryz.prog 92 #[.agg #[.int .i64 n, .int .i64 d]] w (Gives (.bool (isRat n d)) w) := by
  by_cases h12 : 1 ≤ d ∧ d ≤ 400000000
  · obtain ⟨h1, h2⟩ := h12
    by_cases h3 : -400000000 ≤ n ∧ n ≤ 400000000
    · have E : Hid (isRat n d = (((Int.gcd n d : Nat) : Int) == 1)) := by
        show isRat n d = _
        unfold isRat IsRatP
        by_cases hg : Int.gcd n d = 1
        · simp [h1, h2, h3, hg]
        · have : (((Int.gcd n d : Nat) : Int) == 1) = false := by simp; omega
          simp [hg, this]
      obtain ⟨h3, h4⟩ := h3
      go_enter Tryz.func92, Tryz.ntmps92
      go_wp2_with (first | (go_at_call 55; refine (sIn_t _ _ _ _ (by omega) (by omega)).mono ?_; rintro e w' ⟨rfl, rfl⟩) | (go_at_call 56; refine (sIsNum_t _ _ (by omega) (by omega)).mono ?_; rintro e w' ⟨rfl, rfl⟩) | (go_at_call 143; refine (sGcd _ _ _ (by omega) (by omega)).mono ?_; rintro e w' ⟨rfl, k, rfl⟩))
      go_ret
      refine ⟨by rw [E.out]; rfl, ?_⟩
      exact below_drewN ((Below.refl _ _).alloc (Nat.le_refl _) _) _
    · have E : Hid (isRat n d = false) := by
        show isRat n d = _
        unfold isRat IsRatP
        exact decide_eq_false (fun k => h3 ⟨k.2.2.1, k.2.2.2.1⟩)
      have h3' : n < -400000000 ∨ 400000000 < n := by omega
      clear h3
      go_enter Tryz.func92, Tryz.ntmps92
      go_wp2_with (first | (go_at_call 55; refine (sIn_t _ _ _ _ (by omega) (by omega)).mono ?_; rintro e w' ⟨rfl, rfl⟩) | (go_at_call 56; refine (sIsNum_f _ _ h3').mono ?_; rintro e w' ⟨rfl, rfl⟩))
      go_ret
      exact ⟨by rw [E.out]; rfl, (Below.refl _ _).alloc (Nat.le_refl _) _⟩
  · have E : Hid (isRat n d = false) := by
      show isRat n d = _
      unfold isRat IsRatP
      exact decide_eq_false (fun k => h12 ⟨k.1, k.2.1⟩)
    have h' : d < 1 ∨ 400000000 < d := by omega
    clear h12
    go_enter Tryz.func92, Tryz.ntmps92
    go_wp2_with (go_at_call 55; refine (sIn_f _ _ _ _ h').mono ?_; rintro e w' ⟨rfl, rfl⟩)
    go_ret
    exact ⟨by rw [E.out]; rfl, (Below.refl _ _).alloc (Nat.le_refl _) _⟩
theorem sMake_pos (n d : Int) (w : World) (hn : -2000000000000000000 ≤ n ∧ n ≤ 2000000000000000000) (hd : 0 < d ∧ d ≤ 2000000000000000000) :
    Calls Tryz.prog 81 #[.int .i64 n, .int .i64 d] w (Gives (ratV (low n d)) w) := by
  obtain ⟨n1, n2⟩ := hn
  obtain ⟨d1, d2⟩ := hd
  have hz : (d == 0) = false := by simp; omega
  have hs : decide (d < 0) = false := by simp; omega
  go_enter Tryz.func81, Tryz.ntmps81
  go_wp2_with fail
  go_loopw [5, 6] (fun x y wr => ∃ p q : Int, x = .int .i64 p ∧ y = .int .i64 q ∧ -2000000000000000000 ≤ p ∧ p ≤ 2000000000000000000 ∧ -2000000000000000000 ≤ q ∧ q ≤ 2000000000000000000 ∧ Int.gcd p q = Int.gcd n d ∧ ∃ m, wr = (w.alloc (.cells #[.int .i64 0, .int .i64 0] 40)).drewN m) (fun _ y _ => (intOf y).natAbs)
  case atStart => exact ⟨n, d, rfl, rfl, n1, n2, by omega, d2, rfl, 0, rfl⟩
  case round =>
    obtain ⟨p, q, rfl, rfl, p1, p2, q1, q2, hg, m, rfl⟩ := hrel
    have HG := Lib.hid hg
    clear hg
    by_cases hq : q = 0
    · subst hq
      have hp := HG.out
      rw [Int.gcd_zero_right] at hp
      obtain ⟨G, hG, hG0⟩ : ∃ G : Nat, Int.gcd n d = G ∧ 0 < G := ⟨_, rfl, gcd_pos_of n d (by omega)⟩
      rw [hG] at hp
      have hg0 : ((G : Int) == 0) = false := by simp; omega
      obtain ⟨bn1, bn2⟩ := tdiv_bdw n G (by omega) (by omega)
      obtain ⟨bd1, bd2⟩ := tdiv_bdw d G (by omega) (by omega)
      have LN : Hid (lowN n d = n.tdiv G) := by show lowN n d = _; unfold lowN; rw [if_neg (by omega), hG]
      have LD : Hid (lowD n d = d.tdiv G) := by show lowD n d = _; unfold lowD; rw [if_neg (by omega), hG]
      clear hG HG
      go_wp2_with fail
      refine (sAbs p _ (by omega) (by omega)).mono ?_
      rintro e w' ⟨rfl, rfl⟩
      rw [hp]
      clear hp
      go_wp2_with fail
      go_region
      go_wp2_with fail
      refine (sIsRat _ _ _).mono ?_
      rintro e w1 ⟨rfl, hb⟩
      have K0 : Hid (Blk2 w1 w.heap.size 40 (.int .i64 0) (.int .i64 0)) := (((Blk2.at_ _ _ _ rfl).drewN _).old _).keep hb (by simp; omega)
      have K1 : Blk2 w1 (w.heap.size + 1) 40 (.int .i64 (n.tdiv G)) (.int .i64 (d.tdiv G)) := (Blk2.at_ _ _ _ (by simp)).keep hb (by simp)
      obtain ⟨C0, C1, F0, F1⟩ := K0.out.all
      obtain ⟨D0, D1, -, -⟩ := K1.all
      have B : Hid (Below w.heap.size w w1) := ((below_drewN ((Below.refl _ _).alloc (Nat.le_refl _) _) _).alloc (by simp) _).trans (hb.mono (by simp; omega))
      have R := isRat_of_fits (n := n) (d := d) (by omega)
      rw [LN.out, LD.out] at R
      rw [R]
      clear K1 hb R
      by_cases hf : Fits (n.tdiv G) (d.tdiv G)
      · have L : Hid (low n d = (n.tdiv G, d.tdiv G)) := by
          have := (low_fits (n := n) (d := d) (by omega) (by rw [LN.out, LD.out]; exact hf)).1
          rw [LN.out, LD.out] at this; exact this
        rw [decide_eq_true hf]
        clear hf
        go_wp2_with fail
        obtain ⟨E0, E1, -, -⟩ := ((K0.out.set0 (.int .i64 (n.tdiv G))).set1 (.int .i64 (d.tdiv G))).all
        refine bodyPost_ret (v := ratV (n.tdiv G, d.tdiv G)) (by simp [results, Tryz.results81, go_sem, E0, E1, ratV]) rfl ⟨by rw [L.out], ?_⟩
        exact (B.out.setCell (Nat.le_refl _) _).setCell (Nat.le_refl _) _
      · have L : Hid (low n d = (0, 0)) := low_none (by rw [LN.out, LD.out]; exact hf)
        rw [decide_eq_false hf]
        clear hf
        go_wp2_with fail
        obtain ⟨E0, E1, -, -⟩ := ((K0.out.set0 (.int .i64 0)).set1 (.int .i64 0)).all
        refine bodyPost_ret (v := ratV (0, 0)) (by simp [results, Tryz.results81, go_sem, E0, E1, ratV]) rfl ⟨by rw [L.out], ?_⟩
        exact (B.out.setCell (Nat.le_refl _) _).setCell (Nat.le_refl _) _
    · have t1 := tmod_small p q hq
      have t2 := gcd_round p q
      have b1 : -2000000000000000000 ≤ p.tmod q := by omega
      have b2 : p.tmod q ≤ 2000000000000000000 := by omega
      have T1 := Lib.hid t1
      have T2 := Lib.hid t2
      clear t1 t2
      have hq' : (q == 0) = false := by simpa using hq
      go_wp2
      go_quiet (fail)
      go_wp2
      go_roundw
      case rel => exact ⟨q, p.tmod q, rfl, rfl, q1, q2, b1, b2, T2.out.trans HG.out, _, by rw [World.drewN_drewN]⟩
      case measure => simpa [intOf] using T1.out
theorem sMake_neg (n d : Int) (w : World) (hn : -2000000000000000000 ≤ n ∧ n ≤ 2000000000000000000) (hd : 0 < d ∧ d ≤ 2000000000000000000) :
    Calls Tryz.prog 81 #[.int .i64 (-n), .int .i64 (-d)] w (Gives (ratV (low n d)) w) := by
  obtain ⟨n1, n2⟩ := hn
  obtain ⟨d1, d2⟩ := hd
  have hz : (-d == 0) = false := by simp; omega
  have hs : decide (-d < 0) = true := by simp; omega
  go_enter Tryz.func81, Tryz.ntmps81
  go_wp2_with fail
  go_loopw [5, 6] (fun x y wr => ∃ p q : Int, x = .int .i64 p ∧ y = .int .i64 q ∧ -2000000000000000000 ≤ p ∧ p ≤ 2000000000000000000 ∧ -2000000000000000000 ≤ q ∧ q ≤ 2000000000000000000 ∧ Int.gcd p q = Int.gcd n d ∧ ∃ m, wr = (w.alloc (.cells #[.int .i64 0, .int .i64 0] 40)).drewN m) (fun _ y _ => (intOf y).natAbs)
  case atStart => exact ⟨n, d, rfl, rfl, n1, n2, by omega, d2, rfl, 0, rfl⟩
  case round =>
    obtain ⟨p, q, rfl, rfl, p1, p2, q1, q2, hg, m, rfl⟩ := hrel
    have HG := Lib.hid hg
    clear hg
    by_cases hq : q = 0
    · subst hq
      have hp := HG.out
      rw [Int.gcd_zero_right] at hp
      obtain ⟨G, hG, hG0⟩ : ∃ G : Nat, Int.gcd n d = G ∧ 0 < G := ⟨_, rfl, gcd_pos_of n d (by omega)⟩
      rw [hG] at hp
      have hg0 : ((G : Int) == 0) = false := by simp; omega
      obtain ⟨bn1, bn2⟩ := tdiv_bdw n G (by omega) (by omega)
      obtain ⟨bd1, bd2⟩ := tdiv_bdw d G (by omega) (by omega)
      have LN : Hid (lowN n d = n.tdiv G) := by show lowN n d = _; unfold lowN; rw [if_neg (by omega), hG]
      have LD : Hid (lowD n d = d.tdiv G) := by show lowD n d = _; unfold lowD; rw [if_neg (by omega), hG]
      clear hG HG
      go_wp2_with fail
      refine (sAbs p _ (by omega) (by omega)).mono ?_
      rintro e w' ⟨rfl, rfl⟩
      rw [hp]
      clear hp
      go_wp2_with fail
      go_region
      go_wp2_with fail
      refine (sIsRat _ _ _).mono ?_
      rintro e w1 ⟨rfl, hb⟩
      have K0 : Hid (Blk2 w1 w.heap.size 40 (.int .i64 0) (.int .i64 0)) := (((Blk2.at_ _ _ _ rfl).drewN _).old _).keep hb (by simp; omega)
      have K1 : Blk2 w1 (w.heap.size + 1) 40 (.int .i64 (n.tdiv G)) (.int .i64 (d.tdiv G)) := (Blk2.at_ _ _ _ (by simp)).keep hb (by simp)
      obtain ⟨C0, C1, F0, F1⟩ := K0.out.all
      obtain ⟨D0, D1, -, -⟩ := K1.all
      have B : Hid (Below w.heap.size w w1) := ((below_drewN ((Below.refl _ _).alloc (Nat.le_refl _) _) _).alloc (by simp) _).trans (hb.mono (by simp; omega))
      have R := isRat_of_fits (n := n) (d := d) (by omega)
      rw [LN.out, LD.out] at R
      rw [R]
      clear K1 hb R
      by_cases hf : Fits (n.tdiv G) (d.tdiv G)
      · have L : Hid (low n d = (n.tdiv G, d.tdiv G)) := by
          have := (low_fits (n := n) (d := d) (by omega) (by rw [LN.out, LD.out]; exact hf)).1
          rw [LN.out, LD.out] at this; exact this
        rw [decide_eq_true hf]
        clear hf
        go_wp2_with fail
        obtain ⟨E0, E1, -, -⟩ := ((K0.out.set0 (.int .i64 (n.tdiv G))).set1 (.int .i64 (d.tdiv G))).all
        refine bodyPost_ret (v := ratV (n.tdiv G, d.tdiv G)) (by simp [results, Tryz.results81, go_sem, E0, E1, ratV]) rfl ⟨by rw [L.out], ?_⟩
        exact (B.out.setCell (Nat.le_refl _) _).setCell (Nat.le_refl _) _
      · have L : Hid (low n d = (0, 0)) := low_none (by rw [LN.out, LD.out]; exact hf)
        rw [decide_eq_false hf]
        clear hf
        go_wp2_with fail
        obtain ⟨E0, E1, -, -⟩ := ((K0.out.set0 (.int .i64 0)).set1 (.int .i64 0)).all
        refine bodyPost_ret (v := ratV (0, 0)) (by simp [results, Tryz.results81, go_sem, E0, E1, ratV]) rfl ⟨by rw [L.out], ?_⟩
        exact (B.out.setCell (Nat.le_refl _) _).setCell (Nat.le_refl _) _
    · have t1 := tmod_small p q hq
      have t2 := gcd_round p q
      have b1 : -2000000000000000000 ≤ p.tmod q := by omega
      have b2 : p.tmod q ≤ 2000000000000000000 := by omega
      have T1 := Lib.hid t1
      have T2 := Lib.hid t2
      clear t1 t2
      have hq' : (q == 0) = false := by simpa using hq
      go_wp2
      go_quiet (fail)
      go_wp2
      go_roundw
      case rel => exact ⟨q, p.tmod q, rfl, rfl, q1, q2, b1, b2, T2.out.trans HG.out, _, by rw [World.drewN_drewN]⟩
      case measure => simpa [intOf] using T1.out
theorem low_neg (n d : Int) (hd : 0 < d) : low (-n) (-d) = low n d := by
  have e1 : lowN (-n) (-d) = lowN n d := by
    unfold lowN; rw [if_pos (by omega), if_neg (by omega), Int.neg_gcd, Int.gcd_neg, Int.neg_tdiv, Int.neg_neg]
  have e2 : lowD (-n) (-d) = lowD n d := by
    unfold lowD; rw [if_pos (by omega), if_neg (by omega), Int.neg_gcd, Int.gcd_neg, Int.neg_tdiv, Int.neg_neg]
  unfold low
  rw [e1, e2, if_neg (show ¬ (-d = 0) by omega), if_neg (show ¬ (d = 0) by omega)]
theorem sMake (n d : Int) (w : World) (hn : -2000000000000000000 ≤ n ∧ n ≤ 2000000000000000000) (hd : -2000000000000000000 ≤ d ∧ d ≤ 2000000000000000000) :
    Calls Tryz.prog 81 #[.int .i64 n, .int .i64 d] w (Gives (ratV (low n d)) w) := by
  rcases Int.lt_trichotomy d 0 with h | h | h
  · obtain ⟨m, rfl⟩ : ∃ m, n = -m := ⟨-n, by omega⟩
    obtain ⟨e, rfl⟩ : ∃ e, d = -e := ⟨-d, by omega⟩
    rw [low_neg m e (by omega)]
    exact sMake_neg m e w (by omega) (by omega)
  · subst h
    go_enter Tryz.func81, Tryz.ntmps81
    go_wp2_with fail
    refine bodyPost_ret (v := ratV (0, 0)) (by simp [results, Tryz.results81, go_sem, ratV]) rfl ⟨by rw [low_zero], ?_⟩
    exact (Below.refl _ _).alloc (Nat.le_refl _) _
  · exact sMake_pos n d w hn (by omega)
end Go.Proofs.YtcapddcmnjeloaaGreatDoor
end
