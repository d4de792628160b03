/-
  Texts of this seat, joined: ElS · EchT · RkS · IvxL · SvL · ReM · ReL · SolF · SlM · SvM · CpI
-/
import Derived.Laws.CopyOwn
import Derived.Test.YtcapddcmnjeloaaPk1
import Derived.Test.YtcapddcmnjeloaaPk2
import Derived.Test.YtcapddcmnjeloaaPk3
import Derived.Test.YtcapddcmnjeloaaPk4
import Derived.Test.YtcapddcmnjeloaaPk5
import Derived.Test.YtcapddcmnjeloaaPk7

section
/-
  Chapter 8, in the model: the elimination over residues.
-/
namespace Go.Proofs.Ytcapddcmnjeloaa
set_option maxRecDepth 100000
open Go.RowKit

theorem ivM_can {p x : Int} (h : prmB p = true) (h0 : 0 ≤ x) (h1 : x < p) (hx : x ≠ 0) : ivM p x = (invF p x, true) := by
  obtain ⟨hp, hp2⟩ := prmB_says h
  have e : x % p = x := Int.emod_eq_of_lt h0 h1
  exact ivM_yes h (by unfold NumP; omega) e hx
theorem CanL.at_ {p : Int} {xs : List Int} (h : CanL p xs) {k : Nat} (hk : k < xs.length) : 0 ≤ xs.getD k 0 ∧ xs.getD k 0 < p := h k hk
/-- What the elimination gives. -/
def ElP (w : World) (r c : Nat) (R : List Int × List Nat × Int) (e : Ending) (w' : World) : Prop :=
  ∃ (va vb : Value), e = .returned (.tuple #[.agg #[.int .i64 r, .int .i64 c, va], vb, .int .i64 R.2.2]) ∧ Own w.heap.size w' va R.1 ∧ Own w.heap.size w' vb (pvI R.2.1) ∧ (∀ k, va.ownBlock = some k → vb.ownBlock ≠ some k) ∧ Below w.heap.size w w'
theorem EcSt.endM {w : World} {B b rb r c g N cap : Nat} {ys : List Int} {q : Option Addr} {n qc : Nat} {pv : List Nat} {wr : World} (h : EcSt w B b rb r c g N cap ys (.slice q n qc) pv wr) (hl : ys.length = N) (hcap : N ≤ cap) (hN : N ≤ 576) (hpv : pv.length ≤ 24) (hgB : g < B) (hw : w.heap.size ≤ g) (hrw : w.heap.size ≤ rb) (hrg : rb ≠ g) (hrB : rb < B) (d : Int) (x y z : Value) :
    ElP w r c (ys, pv, d) (.returned (.tuple #[.agg #[.int .i64 r, .int .i64 c, .slice (some ⟨g, 0, none⟩) N cap], .slice q n qc, .int .i64 d])) (((wr.setCell ⟨rb, 0, none⟩ x).setCell ⟨rb, 1, none⟩ y).setCell ⟨rb, 2, none⟩ z) := by
  refine ⟨_, _, rfl, .inr ⟨g, cap, by rw [hl], hw, ?_, by rw [hl]; exact hcap, by rw [hl]; omega⟩, ?_, fun k hk e => ?_, ?_⟩
  · exact ((h.ints.far (a := ⟨rb, 0, none⟩) hrg.symm x).far (a := ⟨rb, 1, none⟩) hrg.symm y).far (a := ⟨rb, 2, none⟩) hrg.symm z
  · exact ((((h.own.far (a := ⟨rb, 0, none⟩) hrB x).far (a := ⟨rb, 1, none⟩) hrB y).far (a := ⟨rb, 2, none⟩) hrB z).lower (by omega)).own (by rw [pvI_length]; omega)
  · simp only [Value.ownBlock, Option.some.injEq] at hk
    have := h.own.le e
    omega
  · exact ((h.bel.setCell hrw x).setCell hrw y).setCell hrw z
theorem mul_bd {a b p : Int} (ha : 0 ≤ a) (ha2 : a < p) (hb : 0 ≤ b) (hb2 : b < p) (hp : p ≤ 10000) : 0 ≤ a * b ∧ a * b ≤ 100000000 := by
  refine ⟨Int.mul_nonneg ha hb, ?_⟩
  have : a * b ≤ 10000 * 10000 := Int.mul_le_mul (by omega) (by omega) hb (by omega)
  omega
set_option maxHeartbeats 4000000 in
theorem sEl (r c n N : Nat) (p : Int) (a : Option Addr) (m : Nat) (xs : List Int) (w : World) (h : Rd w a xs) (ha : Spot a) (hx : xs.length = N) (hN : N = r * c) (hr : r ≤ 24) (hc : c ≤ 24) (hnc : n ≤ c) (hp : prmB p = true) (hcan : CanL p xs) :
    Calls Try.prog 46 #[.agg #[.int .i64 r, .int .i64 c, .slice a N m], .int .i64 p, .int .i64 n] w (ElP w r c (elP p r c n 0 xs [] 1)) := by
  have hle : r * c ≤ 24 * 24 := Nat.mul_le_mul hr hc
  rw [← hN] at hle
  obtain ⟨pp, hp2⟩ := prmB_says hp
  have hp1 := pp.1
  have np : ¬ p = 0 := by omega
  have PP := Lib.hid pp
  have PB := Lib.hid hp
  have CP : Hid (∀ w', Below w.heap.size w w' → Calls Try.prog 87 #[.agg #[.int .i64 r, .int .i64 c, .slice a N m]] w' (fun e w2 => ∃ g cap : Nat, e = .returned (.agg #[.int .i64 r, .int .i64 c, .slice (some ⟨g, 0, none⟩) N cap]) ∧ w'.heap.size ≤ g ∧ IntsC w2 g cap xs ∧ Below w'.heap.size w' w2)) := fun w' hb => sCopyA r c a m N xs w' (h.below hb) ha hx (by omega)
  have IX : Hid (∀ i j, i < r → j < c → ∃ P : Nat, i * c + j = P ∧ P < N ∧ IntKind.i64.wrap ((i : Int) * (c : Int)) = (i : Int) * (c : Int) ∧ IntKind.i64.wrap ((i : Int) * (c : Int) + (j : Int)) = (P : Int)) := fun i j hi hj => by
    have h1 : i * c + j < r * c := idx_lt hi hj
    have c1 : (i : Int) * (c : Int) = ((i * c : Nat) : Int) := (Int.natCast_mul _ _).symm
    refine ⟨i * c + j, rfl, by omega, IntWalk.i64_in _ (by rw [c1]; omega), ?_⟩
    rw [show (i : Int) * (c : Int) + (j : Int) = ((i * c + j : Nat) : Int) by rw [c1]; omega]
    exact IntWalk.i64_in _ (by omega)
  have HR : Hid (elP p r c n 0 xs [] 1 = elP p r c n 0 xs [] 1) := rfl
  obtain ⟨RES, hRES⟩ : ∃ RES, elP p r c n 0 xs [] 1 = RES := ⟨_, rfl⟩
  rw [hRES] at HR ⊢
  clear HR
  have HR : Hid (elP p r c n 0 xs [] 1 = RES) := hRES
  have HN := Lib.hid hN
  have HX := Lib.hid hx
  have CX := Lib.hid hcan
  clear hN hx hcan h ha pp hRES hp
  go_enter Try.func46, Try.ntmps46
  go_upto_region 1 with fail
  have K0 : Hid (Blk3 ((w.alloc (.cells #[.int .i64 r, .int .i64 c, .slice a N m] 26)).alloc (.cells #[.int .i64 0, .int .i64 0, .slice none 0 0] 26)) w.heap.size 26 (.int .i64 r) (.int .i64 c) (.slice a N m)) := (Blk3.at_ _ _ _ _ rfl).old _
  have R0 : Hid (Blk3 ((w.alloc (.cells #[.int .i64 r, .int .i64 c, .slice a N m] 26)).alloc (.cells #[.int .i64 0, .int .i64 0, .slice none 0 0] 26)) (w.heap.size + 1) 26 (.int .i64 0) (.int .i64 0) (.slice none 0 0)) := Blk3.at_ _ _ _ _ (by simp)
  have B0 : Hid (Below w.heap.size w ((w.alloc (.cells #[.int .i64 r, .int .i64 c, .slice a N m] 26)).alloc (.cells #[.int .i64 0, .int .i64 0, .slice none 0 0] 26))) := ((Below.refl _ _).alloc (Nat.le_refl _) _).alloc (by simp) _
  have S0 : Hid (((w.alloc (.cells #[.int .i64 r, .int .i64 c, .slice a N m] 26)).alloc (.cells #[.int .i64 0, .int .i64 0, .slice none 0 0] 26)).heap.size = w.heap.size + 2) := by show _ = _; simp
  generalize (w.alloc (.cells #[.int .i64 r, .int .i64 c, .slice a N m] 26)).alloc (.cells #[.int .i64 0, .int .i64 0, .slice none 0 0] 26) = W0 at K0 R0 B0 S0 ⊢
  obtain ⟨p0, p1, p2, -, -, -⟩ := K0.out.all
  go_wp2_with fail
  refine (CP.out _ B0.out).mono ?_
  rintro e w1 ⟨g, cap, rfl, hg, hi, hb⟩
  have gl := hi.lt
  have hcap := hi.le
  have s0 := S0.out
  have I0 := Lib.hid (hi.ints.old (.cells #[.int .i64 r, .int .i64 c, .slice (some ⟨g, 0, none⟩) N cap] 26))
  have R1 := Lib.hid ((R0.out.step hb).old (.cells #[.int .i64 r, .int .i64 c, .slice (some ⟨g, 0, none⟩) N cap] 26))
  have K1 : Hid (Blk3 (w1.alloc (.cells #[.int .i64 r, .int .i64 c, .slice (some ⟨g, 0, none⟩) N cap] 26)) w1.heap.size 26 (.int .i64 r) (.int .i64 c) (.slice (some ⟨g, 0, none⟩) N cap)) := Blk3.at_ _ _ _ _ rfl
  have Bx := B0.out.trans (hb.mono (by omega))
  have B1 := Lib.hid (Bx.alloc Bx.size (.cells #[.int .i64 r, .int .i64 c, .slice (some ⟨g, 0, none⟩) N cap] 26))
  have S1 : Hid ((w1.alloc (.cells #[.int .i64 r, .int .i64 c, .slice (some ⟨g, 0, none⟩) N cap] 26)).heap.size = w1.heap.size + 1) := by show _ = _; simp
  rw [HX.out] at hcap
  have sb := hb.size
  clear hb hi Bx K0 R0 B0 S0 p0 p1 p2
  go_upto_region 2 with fail
  generalize w1.alloc (.cells #[.int .i64 r, .int .i64 c, .slice (some ⟨g, 0, none⟩) N cap] 26) = W at I0 R1 K1 B1 S1 ⊢
  obtain ⟨b, hbb⟩ : ∃ b, w1.heap.size = b := ⟨_, rfl⟩
  rw [hbb] at K1 S1 gl sb ⊢
  have lgb : g < b := gl
  have lrb : w.heap.size + 1 < g := by omega
  have lwg : w.heap.size < g := by omega
  have s1 := S1.out
  clear hbb S1 s0 gl sb hg
  obtain ⟨rb, hrb⟩ : ∃ rb, w.heap.size + 1 = rb := ⟨_, rfl⟩
  rw [hrb] at R1 lrb ⊢
  clear w1
  have lwr : w.heap.size < rb := by omega
  clear hrb
  go_upto_region 3 with fail
  have ST : Hid (EcSt w (b + 1) b rb r c g N cap xs (.slice (some ⟨b + 1, 0, none⟩) 0 0) [] (W.alloc (.cells #[] 3))) := ⟨K1.out.old _, R1.out.old _, I0.out.old _, OwnQ.none_ (Nat.le_refl _) ⟨Nat.zero_le _, [], rfl, by rw [← s1]; exact heap_alloc_new W _⟩, B1.out.alloc B1.out.size _, by simp; omega⟩
  generalize W.alloc (.cells #[] 3) = W2 at ST ⊢
  clear K1 R1 I0 B1 s1
  go_wp2_with fail
  go_loopw [10, 11, 12, 13, 14, 15, 16, 17, 18, 19, 20] (fun v10 v11 v12 _ _ _ _ _ _ _ _ wr => ∃ (j k : Nat) (ys : List Int) (q : Option Addr) (qc : Nat) (pv : List Nat) (d : Int), v10 = .slice q pv.length qc ∧ v11 = .int .i64 d ∧ v12 = .int .i64 j ∧ j + k = n ∧ ys.length = N ∧ CanL p ys ∧ pv.length ≤ r ∧ 0 ≤ d ∧ d < p ∧ elP p r c k j ys pv d = RES ∧ EcSt w (b + 1) b rb r c g N cap ys (.slice q pv.length qc) pv wr) (fun _ _ v12 _ _ _ _ _ _ _ _ _ => n - (intOf v12).toNat)
  case atStart => exact ⟨0, n, xs, _, _, [], 1, rfl, rfl, rfl, by omega, HX.out, CX.out, by simp, by decide, by omega, HR.out, ST.out⟩
  case round =>
    clear ST HR CX
    obtain ⟨j, k, ys, q, qc, pv, d, rfl, rfl, rfl, hjk, hl, hn, hpv, hd0, hd1, hR, hst⟩ := hrel
    have ST := Lib.hid hst
    have HL := Lib.hid hl
    have HY := Lib.hid hn
    have HR := Lib.hid hR
    clear hst hl hn hR
    obtain ⟨t, ht⟩ : ∃ t, pv.length = t := ⟨_, rfl⟩
    have PT := Lib.hid ht
    rw [ht] at ST hpv ⊢
    clear ht
    obtain ⟨p0, p1, p2, -, -, -⟩ := ST.out.blk.all
    by_cases hjn : j < n
    · have hjc : j < c := by omega
      by_cases htr : t < r
      · obtain ⟨k, rfl⟩ : ∃ k', k = k' + 1 := ⟨k - 1, by omega⟩
        go_wp2_with fail
        go_loopw [14] (fun v14 wq => ∃ s : Nat, v14 = .int .i64 s ∧ t ≤ s ∧ s ≤ r ∧ (∀ i, t ≤ i → i < s → mxC c ys i j = 0) ∧ wq = wr) (fun v14 _ => r - (intOf v14).toNat)
        case atStart => exact ⟨t, rfl, Nat.le_refl _, by omega, fun i h1 h2 => by omega, rfl⟩
        case round =>
          obtain ⟨s, rfl, hs1, hs2, hs0, rfl⟩ := hrel
          have P0 := Lib.hid hs0
          clear hs0
          by_cases hsr : s < r
          · obtain ⟨P, hP, hPN, u1, u2⟩ := IX.out s j hsr hjc
            have Pa : (0 : Int) ≤ (P : Int) := by omega
            have Pb : (P : Int) < (N : Int) := by omega
            have hcell := ST.out.ints.cell (i := P) (by rw [HL.out]; exact hPN)
            rw [← hP, show ys.getD (s * c + j) 0 = mxC c ys s j from rfl, hP] at hcell
            obtain ⟨x, hxx⟩ : ∃ x, mxC c ys s j = x := ⟨_, rfl⟩
            have X := Lib.hid hxx
            rw [hxx] at hcell
            clear hxx hP
            by_cases h0 : x = 0
            · have n1 : (x == 0) = true := by simp [h0]
              have P1 : Hid (∀ i, t ≤ i → i < s + 1 → mxC c ys i j = 0) := fun i h1 h2 => by
                rcases Nat.lt_or_ge i s with h3 | h3
                · exact P0.out i h1 h3
                · obtain rfl : i = s := by omega
                  rw [X.out, h0]
              clear h0
              go_wp2_with fail
              go_roundw
              case rel => exact ⟨s + 1, by go_num, by omega, by omega, P1.out, trivial⟩
              case measure => simp [intOf]; omega
            · have n1 : (x == 0) = false := by simpa using h0
              have FS : Hid (fstR c j ys (r - pv.length) pv.length = s) := fstR_eq (by rw [PT.out]; omega) (by rw [PT.out]; omega) (fun i h1 h2 => P0.out i (by rw [← PT.out]; exact h1) h2) (fun _ => by rw [X.out]; exact h0)
              have ZL : Hid ((swC s t c ys).length = N) := by show _ = _; rw [swC_length, HL.out]
              have ZC : Hid (CanL p (swC s t c ys)) := HY.out.sw (by rw [HL.out, HN.out]) hsr htr
              have ZX : Hid (mxC c (swC s t c ys) t j = x) := by
                show _ = _
                rw [swC_at (by rw [HL.out, HN.out]) htr hjc, ← X.out]
                by_cases e : t = s
                · rw [if_pos e, e]
                · rw [if_neg e, if_pos rfl]
              have hx0 : 0 ≤ x ∧ x < p := by rw [← X.out]; exact HY.out.mx (by rw [HL.out, HN.out]) hsr hjc
              have EO : Hid (elP p r c k (j + 1) (clP p r c t j r 0 (rowL r c t (scV p (invF p x) (mxC c (swC s t c ys) t)) (swC s t c ys))) (pv ++ [j]) (((if s = t then d else (-d) % p) * x) % p) = RES) := by
                have h1 := HR.out
                rw [elP_on (s := s) (by rw [PT.out]; exact htr) FS.out (by omega), PT.out, ZX.out] at h1
                exact h1
              have SW : Hid (s ≠ t → opL 0 s t 0 c ys = swC s t c ys) := fun h => by unfold swC; rw [if_neg h]
              have SN : Hid (s = t → ys = swC s t c ys) := fun h => by unfold swC; rw [if_pos h]
              obtain ⟨IV1, IV2, IV3⟩ := PP.out.hasInv.inv PP.out (can_nd hx0 h0)
              have IM := Lib.hid (ivM_can PB.out hx0.1 hx0.2 h0)
              have IVp := Lib.hid IV1
              clear IV1
              generalize swC s t c ys = zs at ZL ZC ZX EO SW SN
              have n3 : ((s : Int) == (r : Int)) = false := by simp; omega
              have hcx := hx0.1
              have hcx2 := hx0.2
              clear hx0
              obtain ⟨d2, hd2⟩ : ∃ d2, (if s = t then d else (-d) % p) = d2 := ⟨_, rfl⟩
              have D2 := Lib.hid hd2
              rw [hd2] at EO
              have d20 : 0 ≤ d2 ∧ d2 < p := by
                rw [← hd2]
                split
                · exact ⟨hd0, hd1⟩
                · exact ⟨Int.emod_nonneg _ (by omega), Int.emod_lt_of_pos _ (by omega)⟩
              obtain ⟨d21, d22⟩ := d20
              clear hd2
              go_upto_if 64 with fail
              go_cut [11] (fun v11 wx => v11 = .int .i64 d2 ∧ EcSt w (b + 1) b rb r c g N cap zs (.slice q t qc) pv wx)
              case first =>
                by_cases hst : s = t
                · have n2 : ((s : Int) != (t : Int)) = false := by simp [hst]
                  have hs := ST.out
                  rw [SN.out hst] at hs
                  have S2 := Lib.hid hs
                  have DD : Hid (d = d2) := by show _ = _; rw [← D2.out, if_pos hst]
                  clear hs hst
                  go_wp2_with fail
                  go_meet
                  exact ⟨by rw [DD.out], S2.out⟩
                · have n2 : ((s : Int) != (t : Int)) = true := by simp; omega
                  have DD : Hid ((-d) % p = d2) := by show _ = _; rw [← D2.out, if_neg hst]
                  have w9 : IntKind.i64.wrap (-d) = -d := IntWalk.i64_in _ (by omega)
                  go_wp2_with fail
                  refine (sDo r c s t g N cap 0 0 ys _ ST.out.ints HL.out HN.out hr hc hsr htr (.inl rfl) (fun _ => hst)).mono ?_
                  rintro e w4 ⟨rfl, hi4, hg4⟩
                  have hs := ST.out.one hi4 hg4 (by omega) (by omega) (by omega) (by omega)
                  rw [SW.out hst] at hs
                  have S2 := Lib.hid hs
                  clear hs hi4 hg4
                  go_wp2_with fail
                  refine (sMod (-d) p _ (by omega) (by omega)).mono ?_
                  rintro e w5 ⟨rfl, rfl⟩
                  go_wp2_with fail
                  go_meet
                  exact ⟨by rw [DD.out], S2.out⟩
              case rest =>
                clear ST SW SN HR FS P0 X HY HL
                obtain ⟨rfl, hst⟩ := hcut
                have ST := Lib.hid hst
                clear hst hcell p0 p1 p2
                obtain ⟨p0, p1, p2, -, -, -⟩ := ST.out.blk.all
                obtain ⟨P', hP', hPN', u1', u2'⟩ := IX.out t j htr hjc
                have Pa' : (0 : Int) ≤ (P' : Int) := by omega
                have Pb' : (P' : Int) < (N : Int) := by omega
                have hcell := ST.out.ints.cell (i := P') (by rw [ZL.out]; exact hPN')
                rw [← hP', show zs.getD (t * c + j) 0 = mxC c zs t j from rfl, ZX.out, hP'] at hcell
                obtain ⟨m1, m2⟩ := mul_bd d21 d22 hcx hcx2 hp2
                obtain ⟨y, hy⟩ : ∃ y, d2 * x = y := ⟨_, rfl⟩
                have w1 : IntKind.i64.wrap (d2 * x) = y := by rw [← hy]; exact IntWalk.i64_in _ (by omega)
                rw [hy] at m1 m2 EO
                clear hP' hy
                go_upto_region 16 with fail
                go_wp2_with fail
                refine (sInvM x p _).mono ?_
                rintro e w4 ⟨rfl, nq, rfl⟩
                rw [IM.out]
                have ST := Lib.hid (ST.out.drewN nq)
                generalize wc.drewN nq = wz at ST ⊢
                have HV : Hid (invF p x = invF p x) := rfl
                obtain ⟨v, hv⟩ : ∃ v, invF p x = v := ⟨_, rfl⟩
                rw [hv] at EO IV2 IV3 ⊢
                clear IM IVp HV hv hcell p0 p1 p2
                obtain ⟨p0, p1, p2, -, -, -⟩ := ST.out.blk.all
                have ZT : Hid (∀ q, q < c → 0 ≤ mxC c zs t q ∧ mxC c zs t q < p) := fun q hq => ZC.out.mx (by rw [ZL.out, HN.out]) htr hq
                have UL : Hid ((rowL r c t (scV p v (mxC c zs t)) zs).length = N) := by show _ = _; rw [rowL_length, HN.out]
                have UC : Hid (CanL p (rowL r c t (scV p v (mxC c zs t)) zs)) := ZC.out.row (by rw [ZL.out, HN.out]) fun q _ => ⟨Int.emod_nonneg _ (by omega), Int.emod_lt_of_pos _ (by omega)⟩
                have RT : Hid (∀ k, k < c → (rowTo r c t (scV p v (mxC c zs t)) zs k).set (t * c + k) ((mxC c zs t k * v) % p) = rowTo r c t (scV p v (mxC c zs t)) zs (k + 1)) := fun k hk => rowTo_step htr hk
                have RX : Hid (∀ k, k < c → (rowTo r c t (scV p v (mxC c zs t)) zs k).getD (t * c + k) 0 = mxC c zs t k) := fun k hk => rowTo_old htr hk (.inr (Nat.le_refl _))
                have RL : Hid (∀ k, (rowTo r c t (scV p v (mxC c zs t)) zs k).length = N) := fun k => by rw [rowTo_length, HN.out]
                have RA : Hid (rowTo r c t (scV p v (mxC c zs t)) zs c = rowL r c t (scV p v (mxC c zs t)) zs) := rowTo_all
                rw [← rowTo_zero (r := r) (c := c) (i := t) (v := scV p v (mxC c zs t)) (xs := zs) (by rw [ZL.out, HN.out])] at ST
                go_wp2_with fail
                clear p0 p1 p2
                go_loopw [17] (fun v17 wv => ∃ h : Nat, v17 = .int .i64 h ∧ h ≤ c ∧ EcSt w (b + 1) b rb r c g N cap (rowTo r c t (scV p v (mxC c zs t)) zs h) (.slice q t qc) pv wv) (fun v17 _ => c - (intOf v17).toNat)
                case atStart => exact ⟨0, rfl, by omega, by first | exact ST.out | (have h := ST.out; rw [rowTo_zero (by rw [rowTo_length])] at h; exact h)⟩
                case round =>
                  clear ST
                  obtain ⟨h, rfl, hh, hst⟩ := hrel
                  have ST := Lib.hid hst
                  clear hst
                  obtain ⟨p0, p1, p2, -, -, -⟩ := ST.out.blk.all
                  by_cases hhc : h < c
                  · obtain ⟨P, hP, hPN, u1, u2⟩ := IX.out t h htr hhc
                    have Pa : (0 : Int) ≤ (P : Int) := by omega
                    have Pb : (P : Int) < (N : Int) := by omega
                    have hcell := ST.out.ints.cell (i := P) (by rw [RL.out]; exact hPN)
                    have hfr := ST.out.ints.free P
                    rw [← hP, RX.out h hhc, hP] at hcell
                    obtain ⟨z1, z2⟩ := ZT.out h hhc
                    have RS := Lib.hid (RT.out h hhc)
                    rw [hP] at RS
                    generalize mxC c zs t h = ea at hcell z1 z2 RS
                    obtain ⟨m3, m4⟩ := mul_bd z1 z2 IV2 IV3 hp2
                    obtain ⟨y2, hy2⟩ : ∃ y2, ea * v = y2 := ⟨_, rfl⟩
                    have w2 : IntKind.i64.wrap (ea * v) = y2 := by rw [← hy2]; exact IntWalk.i64_in _ (by omega)
                    rw [hy2] at m3 m4 RS
                    have e2 : Int.tmod y2 p = y2 % p := Int.tmod_eq_emod_of_nonneg m3
                    clear hy2 hP
                    go_wp2_with fail
                    go_still_tail 23, (by kernel_rfl)
                    go_wp2_with fail
                    go_roundw
                    case rel => exact ⟨h + 1, by go_num, by omega, by rw [← RS.out]; exact (ST.out.drew).put (by omega) (by omega) (by omega) (by omega) P (y2 % p)⟩
                    case measure => simp [intOf]; omega
                  · obtain rfl : c = h := by omega
                    clear hhc
                    rw [RA.out] at ST
                    generalize rowL r c t (scV p v (mxC c zs t)) zs = vs at ST EO UL UC
                    clear RT RX RL RA ZT ZL ZC ZX
                    obtain ⟨E, hE⟩ : ∃ E, clP p r c t j r 0 vs = E := ⟨_, rfl⟩
                    rw [hE] at EO
                    have EE := Lib.hid hE
                    clear hE
                    go_wp2_with fail
                    clear p0 p1 p2
                    go_loopw [18, 19, 20] (fun v18 _ _ wu => ∃ (i l : Nat) (us : List Int), v18 = .int .i64 i ∧ i + l = r ∧ us.length = N ∧ CanL p us ∧ clP p r c t j l i us = E ∧ EcSt w (b + 1) b rb r c g N cap us (.slice q t qc) pv wu) (fun v18 _ _ _ => r - (intOf v18).toNat)
                    case atStart => exact ⟨0, r, vs, rfl, by omega, UL.out, UC.out, EE.out, ST.out⟩
                    case round =>
                      clear ST UL UC EE
                      obtain ⟨i, l, us, rfl, hil, hul, hun, hue, hst⟩ := hrel
                      have ST := Lib.hid hst
                      have UL := Lib.hid hul
                      have UN := Lib.hid hun
                      have UE := Lib.hid hue
                      clear hst hul hun hue
                      obtain ⟨p0, p1, p2, -, -, -⟩ := ST.out.blk.all
                      by_cases hir : i < r
                      · obtain ⟨l, rfl⟩ : ∃ l', l = l' + 1 := ⟨l - 1, by omega⟩
                        obtain ⟨P, hP, hPN, u1, u2⟩ := IX.out i j hir hjc
                        have Pa : (0 : Int) ≤ (P : Int) := by omega
                        have Pb : (P : Int) < (N : Int) := by omega
                        have hcell := ST.out.ints.cell (i := P) (by rw [UL.out]; exact hPN)
                        rw [← hP, show us.getD (i * c + j) 0 = mxC c us i j from rfl, hP] at hcell
                        obtain ⟨x0, x1⟩ := UN.out.mx (by rw [UL.out, HN.out]) hir hjc
                        obtain ⟨z, hxx⟩ : ∃ x, mxC c us i j = x := ⟨_, rfl⟩
                        have X := Lib.hid hxx
                        rw [hxx] at hcell x0 x1
                        clear hxx hP
                        by_cases hs : i = t ∨ z = 0
                        · have UE2 : Hid (clP p r c t j l (i + 1) us = E) := by
                            have h1 := UE.out
                            rw [clP_skip (by rw [X.out]; exact hs)] at h1
                            exact h1
                          by_cases hit : i = t
                          · have n2 : ((i : Int) != (t : Int)) = false := by simp [hit]
                            clear hs hit
                            go_wp2_with fail
                            go_loopw [20] (fun v20 wv => v20 = .int .i64 0 ∧ wv = wr) (fun _ _ => 0)
                            case atStart => exact ⟨rfl, rfl⟩
                            case round =>
                              obtain ⟨rfl, rfl⟩ := hrel
                              go_wp2_with fail
                              all_goals
                                go_roundw
                                case rel => exact ⟨i + 1, l, us, by go_num, by omega, UL.out, UN.out, UE2.out, ST.out⟩
                                case measure => simp [intOf]; omega
                          · have n2 : ((i : Int) != (t : Int)) = true := by simp; omega
                            have n3 : (z != 0) = false := by simp [hs.resolve_left hit]
                            clear hs hit
                            go_wp2_with fail
                            go_loopw [20] (fun v20 wv => v20 = .int .i64 0 ∧ wv = wr) (fun _ _ => 0)
                            case atStart => exact ⟨rfl, rfl⟩
                            case round =>
                              obtain ⟨rfl, rfl⟩ := hrel
                              go_wp2_with fail
                              all_goals
                                go_roundw
                                case rel => exact ⟨i + 1, l, us, by go_num, by omega, UL.out, UN.out, UE2.out, ST.out⟩
                                case measure => simp [intOf]; omega
                        · have hit : i ≠ t := fun e => hs (.inl e)
                          have hx0 : z ≠ 0 := fun e => hs (.inr e)
                          have n2 : ((i : Int) != (t : Int)) = true := by simp; omega
                          have n3 : (z != 0) = true := by simpa using hx0
                          have UO : Hid (clP p r c t j l (i + 1) (rowL r c i (lsV p z (mxC c us i) (mxC c us t)) us) = E) := by
                            have h1 := UE.out
                            rw [clP_on (by rw [X.out]; exact hs), X.out] at h1
                            exact h1
                          have RT : Hid (∀ k, k < c → (rowTo r c i (lsV p z (mxC c us i) (mxC c us t)) us k).set (i * c + k) ((mxC c us i k - z * mxC c us t k) % p) = rowTo r c i (lsV p z (mxC c us i) (mxC c us t)) us (k + 1)) := fun k hk => rowTo_step hir hk
                          have RX : Hid (∀ k, k < c → (rowTo r c i (lsV p z (mxC c us i) (mxC c us t)) us k).getD (i * c + k) 0 = mxC c us i k) := fun k hk => rowTo_old hir hk (.inr (Nat.le_refl _))
                          have RY : Hid (∀ k, k < c → (rowTo r c i (lsV p z (mxC c us i) (mxC c us t)) us k).getD (t * c + k) 0 = mxC c us t k) := fun k hk => rowTo_old htr hk (.inl (fun e => hit e.symm))
                          have RL : Hid (∀ k, (rowTo r c i (lsV p z (mxC c us i) (mxC c us t)) us k).length = N) := fun k => by rw [rowTo_length, HN.out]
                          have RA : Hid (rowTo r c i (lsV p z (mxC c us i) (mxC c us t)) us c = rowL r c i (lsV p z (mxC c us i) (mxC c us t)) us) := rowTo_all
                          have VC : Hid (CanL p (rowL r c i (lsV p z (mxC c us i) (mxC c us t)) us)) := UN.out.row (by rw [UL.out, HN.out]) fun q _ => ⟨Int.emod_nonneg _ (by omega), Int.emod_lt_of_pos _ (by omega)⟩
                          have VL : Hid ((rowL r c i (lsV p z (mxC c us i) (mxC c us t)) us).length = N) := by show _ = _; rw [rowL_length, HN.out]
                          have NI : Hid (∀ k, k < c → 0 ≤ mxC c us i k ∧ mxC c us i k < p) := fun k hk => UN.out.mx (by rw [UL.out, HN.out]) hir hk
                          have NT : Hid (∀ k, k < c → 0 ≤ mxC c us t k ∧ mxC c us t k < p) := fun k hk => UN.out.mx (by rw [UL.out, HN.out]) htr hk
                          rw [← rowTo_zero (r := r) (c := c) (i := i) (v := lsV p z (mxC c us i) (mxC c us t)) (xs := us) (by rw [UL.out, HN.out])] at ST
                          clear hs
                          go_wp2_with fail
                          clear p0 p1 p2 hcell
                          go_loopw [20] (fun v20 wv => ∃ h : Nat, v20 = .int .i64 h ∧ h ≤ c ∧ EcSt w (b + 1) b rb r c g N cap (rowTo r c i (lsV p z (mxC c us i) (mxC c us t)) us h) (.slice q t qc) pv wv) (fun v20 _ => c - (intOf v20).toNat)
                          case atStart => exact ⟨0, rfl, by omega, by first | exact ST.out | (have h := ST.out; rw [rowTo_zero (by rw [rowTo_length])] at h; exact h)⟩
                          case round =>
                            clear ST
                            obtain ⟨h, rfl, hh, hst⟩ := hrel
                            have ST := Lib.hid hst
                            clear hst
                            obtain ⟨p0, p1, p2, -, -, -⟩ := ST.out.blk.all
                            by_cases hhc : h < c
                            · obtain ⟨P, hP, hPN, u1, u2⟩ := IX.out i h hir hhc
                              have Pa : (0 : Int) ≤ (P : Int) := by omega
                              have Pb : (P : Int) < (N : Int) := by omega
                              have hcell := ST.out.ints.cell (i := P) (by rw [RL.out]; exact hPN)
                              have hfr := ST.out.ints.free P
                              rw [← hP, RX.out h hhc, hP] at hcell
                              obtain ⟨Q, hQ, hQN, y1, y2⟩ := IX.out t h htr hhc
                              have Qa : (0 : Int) ≤ (Q : Int) := by omega
                              have Qb : (Q : Int) < (N : Int) := by omega
                              have hcell2 := ST.out.ints.cell (i := Q) (by rw [RL.out]; exact hQN)
                              rw [← hQ, RY.out h hhc, hQ] at hcell2
                              have na := NI.out h hhc
                              have nb := NT.out h hhc
                              have RS := Lib.hid (RT.out h hhc)
                              rw [hP] at RS
                              generalize mxC c us i h = ea at hcell na RS
                              generalize mxC c us t h = eb at hcell2 nb RS
                              obtain ⟨m3, m4⟩ := mul_bd x0 x1 nb.1 nb.2 hp2
                              obtain ⟨o, ho⟩ : ∃ o, z * eb = o := ⟨_, rfl⟩
                              have v2 : IntKind.i64.wrap (z * eb) = o := by rw [← ho]; exact IntWalk.i64_in _ (by omega)
                              rw [ho] at RS m3 m4
                              obtain ⟨f, hf⟩ : ∃ f, ea - o = f := ⟨_, rfl⟩
                              have v3 : IntKind.i64.wrap (ea - o) = f := by rw [← hf]; exact IntWalk.i64_in _ (by omega)
                              rw [hf] at RS
                              have f0 : -200000000 ≤ f ∧ f ≤ 200000000 := by omega
                              obtain ⟨f1, f2⟩ := f0
                              clear na nb hP hQ ho hf
                              go_wp2_with fail
                              refine wp_region_still_tail 34 (by kernel_rfl) (by kernel_rfl) ?_
                              simp only [List.take_succ_cons, List.take_zero, List.drop_succ_cons, List.drop_zero]
                              repeat still_step
                              still_call ((sMod f p _ (by omega) (by omega)).mono fun _ _ h => ⟨h.1, h.2.symm⟩)
                              repeat still_step
                              try refine wpStill_nil ?_
                              go_wp2_with fail
                              go_roundw
                              case rel => exact ⟨h + 1, by go_num, by omega, by rw [← RS.out]; exact (ST.out.drew).put (by omega) (by omega) (by omega) (by omega) P (f % p)⟩
                              case measure => simp [intOf]; omega
                            · obtain rfl : c = h := by omega
                              clear hhc
                              rw [RA.out] at ST
                              go_wp2_with fail
                              go_roundw
                              case rel => exact ⟨i + 1, l, _, by go_num, by omega, VL.out, VC.out, UO.out, ST.out⟩
                              case measure => simp [intOf]; omega
                      · obtain rfl : l = 0 := by omega
                        have UF : Hid (us = E) := UE.out
                        have UR : Hid (elP p r c k (j + 1) us (pv ++ [j]) (y % p) = RES) := by
                          have h1 := EO.out
                          rw [← UF.out] at h1
                          exact h1
                        have y0 : 0 ≤ y % p ∧ y % p < p := ⟨Int.emod_nonneg _ (by omega), Int.emod_lt_of_pos _ (by omega)⟩
                        obtain ⟨fi, hfi, hz0, hz1, hz2⟩ := facts_int
                        have HO : Hid ((wr.alloc (.cells #[.int .i64 j] 3)).ownsRow (b + 1) 3 1 (.slice q t qc) t ((pvI pv).map (Value.int .i64))) := by
                          have h1 := ST.out.own.keep ((Below.refl _ _).alloc (Nat.le_refl _) (.cells #[.int .i64 j] 3))
                          unfold OwnQ at h1
                          rw [pvI_length, PT.out] at h1
                          exact h1
                        have le := ST.out.le
                        go_wp2_with (at_builtin; refine wpList_append_own_at _ rfl _ _ 24 rfl (b + 1) 3 fi (.int .i64 0) 1 8 underlying_ints hfi hz0 hz1 hz2 rfl (by decide) _ _ _ rfl HO.out ⟨wr.heap.size, 0, none⟩ 1 1 [.int .i64 j] ?hx ?hl ?hnews ?h1 ?h63 ?hbytes ?hbase ?hnext)
                        case hx => rfl
                        case hl => rfl
                        case hnews => exact cell_one_new _ _ _
                        case h1 => intro v hv; simp at hv; subst hv; rfl
                        case h63 => unfold maxLen; omega
                        case hbytes => omega
                        case hbase => simp; omega
                        case hnext =>
                          rintro v' w7 ho hg7 - -
                          have O7 : OwnQ (b + 1) w7 v' (pvI (pv ++ [j])) := by
                            unfold OwnQ pvI
                            rw [List.map_append, List.length_append, List.map_append, List.length_map, PT.out]
                            exact ho
                          have hs := ST.out.app hg7 O7 (by omega) (by omega) (by omega) (by omega)
                          obtain ⟨q', qc', rfl⟩ := O7.form
                          rw [pvI_length] at hs ⊢
                          have S7 := Lib.hid hs
                          clear hs O7 ho hg7
                          go_wp2_with fail
                          go_roundw
                          case rel => exact ⟨j + 1, k, us, q', qc', pv ++ [j], y % p, rfl, rfl, by go_num, by omega, UL.out, UN.out, by rw [List.length_append, PT.out]; simp; omega, y0.1, y0.2, UR.out, S7.out⟩
                          case measure => simp [intOf]; omega
          · have hpe : s = r := by omega
            have FS : Hid (fstR c j ys (r - pv.length) pv.length = r) := fstR_eq (by rw [PT.out]; omega) (by rw [PT.out]; omega) (fun i h1 h2 => P0.out i (by rw [← PT.out]; exact h1) (by omega)) (fun h => by rw [PT.out] at h; omega)
            have RN : Hid (elP p r c k (j + 1) ys pv d = RES) := by
              have h1 := HR.out
              rw [elP_skip (by rw [PT.out]; exact htr) FS.out] at h1
              exact h1
            have n1 : decide ((s : Int) < (r : Int)) = false := by simpa using hsr
            have n2 : ((s : Int) == (r : Int)) = true := by simp [hpe]
            clear hpe
            go_wp2_with fail
            go_roundw
            case rel => exact ⟨j + 1, k, ys, q, qc, pv, d, by rw [PT.out], rfl, by go_num, by omega, HL.out, HY.out, by rw [PT.out]; exact hpv, hd0, hd1, RN.out, by rw [PT.out]; exact ST.out⟩
            case measure => simp [intOf]; omega
      · have RF : Hid ((ys, pv, d) = RES) := by
          have h1 := HR.out
          rw [elP_end (by rw [PT.out]; exact htr)] at h1
          exact h1
        obtain ⟨r0, r1, r2, h0, h1, h2⟩ := ST.out.ret.all
        go_wp2_with fail
        obtain ⟨E0, E1, E2, -, -, -⟩ := (((ST.out.ret.set0 (.int .i64 r)).set1 (.int .i64 c)).set2 (.slice (some ⟨g, 0, none⟩) N cap)).all
        exact bodyPost_ret (v := .tuple #[.agg #[.int .i64 r, .int .i64 c, .slice (some ⟨g, 0, none⟩) N cap], .slice q t qc, .int .i64 d]) (by simp [results, Try.results46, go_sem, E0, E1, E2]) rfl (by rw [← RF.out]; exact ST.out.endM HL.out hcap (by omega) (by rw [PT.out]; omega) (by omega) (by omega) (by omega) (by omega) (by omega) d _ _ _)
    · obtain rfl : k = 0 := by omega
      have RF : Hid ((ys, pv, d) = RES) := HR.out
      obtain ⟨r0, r1, r2, h0, h1, h2⟩ := ST.out.ret.all
      go_wp2_with fail
      obtain ⟨E0, E1, E2, -, -, -⟩ := (((ST.out.ret.set0 (.int .i64 r)).set1 (.int .i64 c)).set2 (.slice (some ⟨g, 0, none⟩) N cap)).all
      exact bodyPost_ret (v := .tuple #[.agg #[.int .i64 r, .int .i64 c, .slice (some ⟨g, 0, none⟩) N cap], .slice q t qc, .int .i64 d]) (by simp [results, Try.results46, go_sem, E0, E1, E2]) rfl (by rw [← RF.out]; exact ST.out.endM HL.out hcap (by omega) (by rw [PT.out]; omega) (by omega) (by omega) (by omega) (by omega) (by omega) d _ _ _)
end Go.Proofs.Ytcapddcmnjeloaa
end

section
/-
  Chapter 7, in the model: EchelonOf, RankOf.
-/
namespace Go.Proofs.Ytcapddcmnjeloaa
set_option maxRecDepth 100000
open Go.RowKit

/-- What EchelonOf gives: a matrix, its pivots, whether there is such a form in range. -/
structure ER where
  r : Int
  c : Int
  zs : List Int
  pv : List Int
  ok : Bool
def ER.no : ER := ⟨0, 0, [], [], false⟩
def ER.of (r c : Int) : Option (List Int × List Nat) → ER
  | some (ys, pv) => ⟨r, c, ys, pvI pv, true⟩
  | none => ER.no
def echR (r c : Int) (xs : List Int) : ER := if isMat r c xs = true then ER.of r c (echM r.toNat c.toNat xs) else ER.no
def EchG (w : World) (R : ER) (e : Ending) (w' : World) : Prop :=
  ∃ (va vb : Value), e = .returned (.tuple #[.agg #[.int .i64 R.r, .int .i64 R.c, va], vb, .bool R.ok]) ∧ Own w.heap.size w' va R.zs ∧ Own w.heap.size w' vb R.pv ∧ (∀ k, va.ownBlock = some k → vb.ownBlock ≠ some k) ∧ Below w.heap.size w w'
theorem EchP.g {w : World} {r c : Nat} {o : Option (List Int × List Nat)} {e : Ending} {w' : World} (h : EchP w r c o e w') : EchG w (ER.of r c o) e w' := by
  rcases h with ⟨va, vb, ys, pv, rfl, rfl, h1, h2, h3, h4⟩ | ⟨vb, rfl, rfl, h2, h4⟩
  · exact ⟨va, vb, rfl, h1, h2, h3, h4⟩
  · exact ⟨_, vb, rfl, .inl ⟨rfl, rfl⟩, h2, fun k hk => by simp [Value.ownBlock] at hk, h4⟩
theorem Own.far' {B : Nat} {w : World} {v : Value} {zs : List Int} (h : Own B w v zs) {a : Addr} (ha : a.block < B) (u : Value) : Own B (w.setCell a u) v zs := by
  rcases h with h | ⟨g, cap, hv, hB, hi, hl, hc⟩
  · exact .inl h
  · exact .inr ⟨g, cap, hv, hB, hi.far (by omega) u, hl, hc⟩
theorem Own.far3' {B b : Nat} {w : World} {v : Value} {zs : List Int} (h : Own B w v zs) (hb : b < B) (x y z : Value) : Own B (((w.setCell ⟨b, 0, none⟩ x).setCell ⟨b, 1, none⟩ y).setCell ⟨b, 2, none⟩ z) v zs :=
  ((h.far' (a := ⟨b, 0, none⟩) hb x).far' (a := ⟨b, 1, none⟩) hb y).far' (a := ⟨b, 2, none⟩) hb z
set_option maxHeartbeats 2000000 in
theorem sEchelonOf (r c : Int) (a : Option Addr) (m : Nat) (xs : List Int) (w : World) (h : Rd w a xs) (hn : xs.length ≤ 16777216) (ha : Spot a) :
    Calls Try.prog 74 #[.agg #[.int .i64 r, .int .i64 c, .slice a xs.length m]] w (EchG w (echR r c xs)) := by
  have IM : Hid (∀ w', Below w.heap.size w w' → Calls Try.prog 61 #[.agg #[.int .i64 r, .int .i64 c, .slice a xs.length m]] w' (Gives (.bool (isMat r c xs)) w')) := fun w' hb => sIsMat r c a m xs w' (h.below hb) hn
  have EC : Hid (isMat r c xs = true → ∀ w', Below w.heap.size w w' → Calls Try.prog 107 #[.agg #[.int .i64 r, .int .i64 c, .slice a xs.length m]] w' (EchG w' (echR r c xs))) := fun hm w' hb => by
    obtain ⟨⟨r0, r1⟩, ⟨c0, c1⟩, hl, nx⟩ := isMat_says hm
    unfold echR
    rw [if_pos hm]
    obtain ⟨R, rfl⟩ := Int.eq_ofNat_of_zero_le r0
    obtain ⟨C, rfl⟩ := Int.eq_ofNat_of_zero_le c0
    exact (sEch R C xs.length a m xs w' (h.below hb) ha rfl (by rw [← Int.natCast_mul] at hl; omega) (by omega) (by omega) nx).mono fun _ _ h => h.g
  have NO : Hid (isMat r c xs = false → echR r c xs = ER.no) := fun hm => by unfold echR; rw [if_neg (by rw [hm]; decide)]
  generalize isMat r c xs = ok at IM EC NO
  generalize echR r c xs = RES at EC NO ⊢
  clear h hn ha
  generalize xs.length = L at IM EC ⊢
  go_enter Try.func74, Try.ntmps74
  go_upto_region 1 with fail
  have K0 : Hid (Blk3 ((w.alloc (.cells #[.int .i64 r, .int .i64 c, .slice a L m] 26)).alloc (.cells #[.int .i64 0, .int .i64 0, .slice none 0 0] 26)) w.heap.size 26 (.int .i64 r) (.int .i64 c) (.slice a L m)) := (Blk3.at_ _ _ _ _ rfl).old _
  have R0 : Hid (Blk3 ((w.alloc (.cells #[.int .i64 r, .int .i64 c, .slice a L m] 26)).alloc (.cells #[.int .i64 0, .int .i64 0, .slice none 0 0] 26)) (w.heap.size + 1) 26 (.int .i64 0) (.int .i64 0) (.slice none 0 0)) := Blk3.at_ _ _ _ _ (by simp)
  have B0 : Hid (Below w.heap.size w ((w.alloc (.cells #[.int .i64 r, .int .i64 c, .slice a L m] 26)).alloc (.cells #[.int .i64 0, .int .i64 0, .slice none 0 0] 26))) := ((Below.refl _ _).alloc (Nat.le_refl _) _).alloc (by simp) _
  have S0 : Hid (((w.alloc (.cells #[.int .i64 r, .int .i64 c, .slice a L m] 26)).alloc (.cells #[.int .i64 0, .int .i64 0, .slice none 0 0] 26)).heap.size = w.heap.size + 2) := by show _ = _; simp
  generalize (w.alloc (.cells #[.int .i64 r, .int .i64 c, .slice a L m] 26)).alloc (.cells #[.int .i64 0, .int .i64 0, .slice none 0 0] 26) = W0 at K0 R0 B0 S0 ⊢
  obtain ⟨p0, p1, p2, -, -, -⟩ := K0.out.all
  go_wp2_with fail
  refine (IM.out _ B0.out).mono ?_
  rintro e w1 ⟨rfl, hb⟩
  have s0 := S0.out
  have sb := hb.size
  have K1 := Lib.hid (K0.out.step hb)
  have R1 := Lib.hid (R0.out.step hb)
  have B1 := Lib.hid (B0.out.trans (hb.mono (by omega)))
  clear hb K0 R0 B0 S0 p0 p1 p2
  obtain ⟨p0, p1, p2, -, -, -⟩ := K1.out.all
  cases ok with
  | false =>
    have RN := Lib.hid (NO.out rfl)
    clear p0 p1 p2
    obtain ⟨r0, r1, r2, f0, f1, f2⟩ := R1.out.all
    obtain ⟨e0, e1, e2, l0, l1, l2⟩ := (R1.out.old (.cells #[] 3)).all
    go_wp2_with fail
    obtain ⟨E0, E1, E2, -, -, -⟩ := ((((R1.out.old (.cells #[] 3)).set0 (.int .i64 0)).set1 (.int .i64 0)).set2 (.slice none 0 0)).all
    refine bodyPost_ret (v := .tuple #[.agg #[.int .i64 0, .int .i64 0, .slice none 0 0], .slice (some ⟨w1.heap.size, 0, none⟩) 0 0, .bool false]) (by simp [results, Try.results74, go_sem, E0, E1, E2]) rfl ?_
    rw [RN.out]
    refine ⟨_, _, rfl, .inl ⟨rfl, rfl⟩, ?_, fun k hk => by simp [Value.ownBlock] at hk, ?_⟩
    · exact (((OwnQ.none_ (B := w1.heap.size) (Nat.le_refl _) ⟨Nat.zero_le _, [], rfl, heap_alloc_new w1 _⟩).own (by simp)).far3' (b := w.heap.size + 1) (by omega) _ _ _).le (by omega)
    · exact (((B1.out.alloc B1.out.size _).setCell (by simp) _).setCell (by simp) _).setCell (by simp) _
  | true =>
    go_wp2_with fail
    refine (EC.out trivial _ B1.out).mono ?_
    rintro e w2 ⟨va, vb, rfl, oa, ob, hd, hb⟩
    obtain ⟨qa, ca, hva, -, -⟩ := oa.form
    subst hva
    have sb2 := hb.size
    have R2 := Lib.hid ((R1.out.step hb).old (.cells #[.int .i64 RES.r, .int .i64 RES.c, .slice qa RES.zs.length ca] 26))
    have B2 := Lib.hid (B1.out.trans (hb.mono (by omega)))
    have A2 : Hid (Blk3 (w2.alloc (.cells #[.int .i64 RES.r, .int .i64 RES.c, .slice qa RES.zs.length ca] 26)) w2.heap.size 26 (.int .i64 RES.r) (.int .i64 RES.c) (.slice qa RES.zs.length ca)) := Blk3.at_ _ _ _ _ rfl
    have OA := Lib.hid (oa.keep ((Below.refl _ _).alloc (Nat.le_refl _) (.cells #[.int .i64 RES.r, .int .i64 RES.c, .slice qa RES.zs.length ca] 26)))
    have OB := Lib.hid (ob.keep ((Below.refl _ _).alloc (Nat.le_refl _) (.cells #[.int .i64 RES.r, .int .i64 RES.c, .slice qa RES.zs.length ca] 26)))
    have B3 := Lib.hid (B2.out.alloc B2.out.size (.cells #[.int .i64 RES.r, .int .i64 RES.c, .slice qa RES.zs.length ca] 26))
    have HD := Lib.hid hd
    clear hb oa ob hd p0 p1 p2 K1
    go_upto_region 4 with fail
    generalize w2.alloc (.cells #[.int .i64 RES.r, .int .i64 RES.c, .slice qa RES.zs.length ca] 26) = W3 at R2 A2 OA OB B3 ⊢
    obtain ⟨p0, p1, p2, -, -, -⟩ := A2.out.all
    obtain ⟨r0, r1, r2, f0, f1, f2⟩ := R2.out.all
    go_wp2_with fail
    obtain ⟨E0, E1, E2, -, -, -⟩ := (((R2.out.set0 (.int .i64 RES.r)).set1 (.int .i64 RES.c)).set2 (.slice qa RES.zs.length ca)).all
    refine bodyPost_ret (v := .tuple #[.agg #[.int .i64 RES.r, .int .i64 RES.c, .slice qa RES.zs.length ca], vb, .bool RES.ok]) (by simp [results, Try.results74, go_sem, E0, E1, E2]) rfl ?_
    refine ⟨_, vb, rfl, ?_, ?_, HD.out, ?_⟩
    · exact (OA.out.far3' (b := w.heap.size + 1) (by omega) _ _ _).le (by omega)
    · exact (OB.out.far3' (b := w.heap.size + 1) (by omega) _ _ _).le (by omega)
    · exact ((B3.out.setCell (by simp) _).setCell (by simp) _).setCell (by simp) _
end Go.Proofs.Ytcapddcmnjeloaa
end

section
/-
  Chapter 8, in the model: RankMod, DeterminantMod.
-/
namespace Go.Proofs.Ytcapddcmnjeloaa
set_option maxRecDepth 100000
open Go.RowKit

/-- What RankMod gives. -/
def rkM (r c p : Int) (xs : List Int) : Int × Bool := if (isMat r c xs && prmB p) = true then (((elM p r.toNat c.toNat xs).2.1.length : Int), true) else (0, false)
/-- What DeterminantMod gives. -/
def dtM (r c p : Int) (xs : List Int) : Int × Bool := if (isMat r c xs && prmB p && decide (r = c)) = true then (if (elM p r.toNat c.toNat xs).2.1.length < r.toNat then 0 else (elM p r.toNat c.toNat xs).2.2, true) else (0, false)
theorem rkM_no {r c p : Int} {xs : List Int} (h : (isMat r c xs && prmB p) = false) : rkM r c p xs = (0, false) ∧ redM r c p xs = MR.no ∧ dtM r c p xs = (0, false) := by
  unfold rkM redM dtM
  rw [h]
  exact ⟨rfl, rfl, rfl⟩
theorem rkM_yes {r c p : Int} {xs : List Int} (h : (isMat r c xs && prmB p) = true) : ∃ (R C N : Nat), r = R ∧ c = C ∧ N = R * C ∧ R ≤ 24 ∧ C ≤ 24 ∧ xs.length = N ∧ (resL p xs).length = N ∧ prmB p = true ∧ CanL p (resL p xs) ∧ redM r c p xs = ⟨true, R, C, resL p xs⟩ ∧ rkM r c p xs = (((elM p R C xs).2.1.length : Int), true) ∧ dtM r c p xs = (if R = C then (if (elM p R C xs).2.1.length < R then 0 else (elM p R C xs).2.2, true) else (0, false)) := by
  have h0 := h
  rw [Bool.and_eq_true] at h
  obtain ⟨hm, hp⟩ := h
  obtain ⟨⟨r0, r1⟩, ⟨c0, c1⟩, hl, nx⟩ := isMat_says hm
  obtain ⟨R, rfl⟩ := Int.eq_ofNat_of_zero_le r0
  obtain ⟨C, rfl⟩ := Int.eq_ofNat_of_zero_le c0
  have hx : xs.length = R * C := by rw [← Int.natCast_mul] at hl; omega
  refine ⟨R, C, R * C, rfl, rfl, rfl, by omega, by omega, hx, by rw [resL_length, hx], hp, resL_can (by have := (prmB_says hp).1.1; omega) xs, ?_, ?_, ?_⟩
  · unfold redM; rw [if_pos h0]
  · unfold rkM; rw [if_pos h0]; rfl
  · unfold dtM
    rw [h0, Bool.true_and]
    by_cases e : R = C
    · rw [if_pos e, if_pos (by simp [e])]; rfl
    · rw [if_neg e, if_neg (by simp; omega)]
/-- Own cells as the elimination wants them. -/
theorem Own.elim {B N cap : Nat} {w : World} {q : Option Addr} {zs : List Int} (h : Own B w (.slice q N cap) zs) : Rd w q zs ∧ Spot q := by
  rcases h with ⟨hv, rfl⟩ | ⟨g, cap, hv, _, hi, _⟩
  · injection hv with e
    exact ⟨Rd.nil _ _, .inl e⟩
  · injection hv with e
    exact ⟨by rw [e]; exact hi.rd, .inr ⟨g, 0, e⟩⟩
end Go.Proofs.Ytcapddcmnjeloaa
end

section
/-
  Plain mathematics of chapter 8: the matrix beside the unit matrix, made cell by cell; what InverseMod gives.
-/
namespace Go.Proofs.Ytcapddcmnjeloaa

/-- The cell of the wide matrix. -/
def wdF (p : Int) (n : Nat) (xs : List Int) (i j : Nat) : Int := if j < n then (resL p xs).getD (i * n + j) 0 else if j = n + i then 1 else 0
/-- The rows ahead of row i, and the first j cells of that row, are made. -/
def wdTo (p : Int) (n : Nat) (xs : List Int) (i j : Nat) : List Int := tab n (2 * n) fun a b => if a < i ∨ (a = i ∧ b < j) then wdF p n xs a b else 0
theorem wdTo_length (p : Int) (n : Nat) (xs : List Int) (i j : Nat) : (wdTo p n xs i j).length = n * (2 * n) := tab_length _ _ _
theorem wdTo_zero (p : Int) (n : Nat) (xs : List Int) : wdTo p n xs 0 0 = List.replicate (n * (2 * n)) 0 := by
  symm
  refine tab_ext (by simp) fun a b ha hb => ?_
  rw [if_neg (by omega)]
  have := idx_lt (c := 2 * n) ha hb
  simp [List.getD, this]
theorem wdTo_all (p : Int) (n : Nat) (xs : List Int) : wdTo p n xs n 0 = wideL p n xs := by
  refine tab_ext (tab_length _ _ _) fun a b ha hb => ?_
  unfold wdTo
  rw [tab_at n (2 * n) _ ha hb, if_pos (.inl ha)]
  rfl
theorem set_tab {r c i j : Nat} {f g : Nat → Nat → Int} {x : Int} (hi : i < r) (hj : j < c) (hx : g i j = x) (h : ∀ a b, a < r → b < c → ¬ (a = i ∧ b = j) → f a b = g a b) : (tab r c f).set (i * c + j) x = tab r c g := by
  refine tab_ext (by rw [List.length_set, tab_length]) fun a b ha hb => ?_
  by_cases e : a = i ∧ b = j
  · obtain ⟨rfl, rfl⟩ := e
    rw [hx]
    have := idx_lt (c := c) ha hb
    simp [List.getD, tab_length, this]
  · rw [← h a b ha hb e, ← tab_at r c f ha hb]
    have hne : a * c + b ≠ i * c + j := fun h2 => by
      have h3 := congrArg (· / c) h2
      have h4 := congrArg (· % c) h2
      simp only [idx_div hb, idx_div hj, idx_mod hb, idx_mod hj] at h3 h4
      exact e ⟨h3, h4⟩
    simp [List.getD, Ne.symm hne]
theorem wdTo_cell {p : Int} {n : Nat} {xs : List Int} {i j : Nat} (hi : i < n) (hj : j < n) : (wdTo p n xs i j).set (i * (2 * n) + j) ((resL p xs).getD (i * n + j) 0) = wdTo p n xs i (j + 1) := by
  refine set_tab hi (by omega) ?_ fun a b ha hb h => ?_
  · rw [if_pos (by omega)]
    unfold wdF
    rw [if_pos hj]
  · by_cases h1 : a < i ∨ (a = i ∧ b < j)
    · rw [if_pos h1, if_pos (by omega)]
    · rw [if_neg h1, if_neg (by omega)]
theorem wdTo_row {p : Int} {n : Nat} {xs : List Int} {i : Nat} (hi : i < n) : (wdTo p n xs i n).set (i * (2 * n) + (n + i)) 1 = wdTo p n xs (i + 1) 0 := by
  refine set_tab hi (by omega) ?_ fun a b ha hb h => ?_
  · rw [if_pos (by omega)]
    unfold wdF
    rw [if_neg (by omega), if_pos rfl]
  · by_cases h1 : a < i ∨ (a = i ∧ b < n)
    · rw [if_pos h1, if_pos (by omega)]
    · rw [if_neg h1]
      by_cases h2 : a < i + 1 ∨ (a = i + 1 ∧ b < 0)
      · rw [if_pos h2]
        unfold wdF
        rw [if_neg (by omega), if_neg (by omega)]
      · rw [if_neg h2]
/-- The right half, cell by cell. -/
def hfTo (n : Nat) (ys : List Int) (i j : Nat) : List Int := tab n n fun a b => if a < i ∨ (a = i ∧ b < j) then ys.getD (a * (2 * n) + (n + b)) 0 else 0
theorem hfTo_length (n : Nat) (ys : List Int) (i j : Nat) : (hfTo n ys i j).length = n * n := tab_length _ _ _
theorem hfTo_zero (n : Nat) (ys : List Int) : hfTo n ys 0 0 = List.replicate (n * n) 0 := by
  symm
  refine tab_ext (by simp) fun a b ha hb => ?_
  rw [if_neg (by omega)]
  have := idx_lt (c := n) ha hb
  simp [List.getD, this]
theorem hfTo_cell {n : Nat} {ys : List Int} {i j : Nat} (hi : i < n) (hj : j < n) : (hfTo n ys i j).set (i * n + j) (ys.getD (i * (2 * n) + (n + j)) 0) = hfTo n ys i (j + 1) := by
  refine set_tab hi hj ?_ fun a b ha hb h => ?_
  · rw [if_pos (by omega)]
  · by_cases h1 : a < i ∨ (a = i ∧ b < j)
    · rw [if_pos h1, if_pos (by omega)]
    · rw [if_neg h1, if_neg (by omega)]
theorem hfTo_row {n : Nat} {ys : List Int} {i : Nat} : hfTo n ys i n = hfTo n ys (i + 1) 0 := by
  refine tab_ext (hfTo_length _ _ _ _) fun a b ha hb => ?_
  unfold hfTo
  rw [tab_at n n _ ha hb]
  by_cases h1 : a < i ∨ (a = i ∧ b < n)
  · rw [if_pos h1, if_pos (by omega)]
  · rw [if_neg h1, if_neg (by omega)]
theorem hfTo_all (n : Nat) (p : Int) (xs : List Int) : hfTo n (elW p n xs).1 n 0 = ivL p n xs := by
  refine tab_ext (tab_length _ _ _) fun a b ha hb => ?_
  unfold hfTo
  rw [tab_at n n _ ha hb, if_pos (.inl ha)]
theorem clP_len {p : Int} {r c t j : Nat} : ∀ (k i : Nat) (xs : List Int), xs.length = r * c → (clP p r c t j k i xs).length = r * c := by
  intro k
  induction k with
  | zero => intro i xs h; exact h
  | succ k ih =>
    intro i xs h
    by_cases hs : i = t ∨ mxC c xs i j = 0
    · rw [clP_skip hs]; exact ih _ _ h
    · rw [clP_on hs]; exact ih _ _ (rowL_length _ _ _ _ _)
theorem elP_len {p : Int} {r c : Nat} : ∀ (k j : Nat) (xs : List Int) (pv : List Nat) (d : Int), xs.length = r * c → (elP p r c k j xs pv d).1.length = r * c := by
  intro k
  induction k with
  | zero => intro j xs pv d h; exact h
  | succ k ih =>
    intro j xs pv d h
    by_cases ht : pv.length < r
    · by_cases hf : fstR c j xs (r - pv.length) pv.length = r
      · rw [elP_skip ht hf]; exact ih _ _ _ _ h
      · rw [elP_on ht rfl hf]
        exact ih _ _ _ _ (clP_len _ _ _ (rowL_length _ _ _ _ _))
    · rw [elP_end ht]; exact h
theorem elW_len (p : Int) (n : Nat) (xs : List Int) : (elW p n xs).1.length = n * (2 * n) := elP_len _ _ _ _ _ (tab_length _ _ _)
/-- What InverseMod gives. -/
def ivX (r c p : Int) (xs : List Int) : MR := if (isMat r c xs && prmB p && decide (r = c) && decide (r ≤ 12)) = true then (if (elW p r.toNat xs).2.1.length < r.toNat then MR.no else ⟨true, r, r, ivL p r.toNat xs⟩) else MR.no
theorem ivX_no1 {r c p : Int} {xs : List Int} (h : (isMat r c xs && prmB p) = false) : ivX r c p xs = MR.no := by
  unfold ivX; rw [h]; rfl
theorem ivX_no2 {r c p : Int} {xs : List Int} (h : r ≠ c) : ivX r c p xs = MR.no := by
  unfold ivX; rw [decide_eq_false h, Bool.and_false, Bool.false_and]; rfl
theorem ivX_no3 {r c p : Int} {xs : List Int} (h : ¬ r ≤ 12) : ivX r c p xs = MR.no := by
  unfold ivX; rw [decide_eq_false h, Bool.and_false]; rfl
theorem ivX_at {n : Nat} {p : Int} {xs : List Int} (h : (isMat n n xs && prmB p) = true) (hn : n ≤ 12) : ivX n n p xs = if (elW p n xs).2.1.length < n then MR.no else ⟨true, n, n, ivL p n xs⟩ := by
  unfold ivX; rw [h, decide_eq_true rfl, decide_eq_true (by omega)]; rfl
end Go.Proofs.Ytcapddcmnjeloaa
end

section
/-
  Plain mathematics of chapter 8: what SolveMod gives, and how it is made cell by cell.
-/
namespace Go.Proofs.Ytcapddcmnjeloaa

/-- What SolveMod gives. -/
def svX (r c p : Int) (xs bs : List Int) : List Int × Bool := if ((ivX r c p xs).ok && decide ((bs.length : Int) = r) && nums bs) = true then (solL p r.toNat (ivX r c p xs).zs bs, true) else ([], false)
theorem svX_no {r c p : Int} {xs bs : List Int} (h : (ivX r c p xs).ok = false ∨ (bs.length : Int) ≠ r ∨ nums bs = false) : svX r c p xs bs = ([], false) := by
  unfold svX
  rcases h with h | h | h
  · rw [h]; rfl
  · rw [decide_eq_false h, Bool.and_false, Bool.false_and]; rfl
  · rw [h, Bool.and_false]; rfl
theorem svX_yes {n : Nat} {r c p : Int} {xs bs : List Int} (hr : r = n) (h1 : (ivX r c p xs).ok = true) (h2 : bs.length = n) (h3 : nums bs = true) : svX r c p xs bs = (solL p n (ivX r c p xs).zs bs, true) := by
  subst hr
  unfold svX
  rw [h1, h2, decide_eq_true rfl, h3]; rfl
/-- What an inverse is. -/
theorem ivX_says {r c p : Int} {xs : List Int} (h : (ivX r c p xs).ok = true) : ∃ n : Nat, r = n ∧ c = n ∧ n ≤ 12 ∧ prmB p = true ∧ xs.length = n * n ∧ (isMat r c xs && prmB p) = true ∧ (elW p n xs).2.1.length ≥ n ∧ ivX r c p xs = ⟨true, n, n, ivL p n xs⟩ ∧ (ivL p n xs).length = n * n ∧ CanL p (ivL p n xs) := by
  rcases Bool.eq_false_or_eq_true (isMat r c xs && prmB p) with hh | hh
  · by_cases h1 : r = c
    · by_cases h2 : r ≤ 12
      · obtain ⟨R, C, N, rfl, rfl, hN, hR, hC, hx, -, hp, -, -, -, -⟩ := rkM_yes hh
        have e : R = C := by omega
        subst e
        have hx2 : xs.length = R * R := by rw [hx, hN]
        have e1 := ivX_at (p := p) hh (by omega : R ≤ 12)
        obtain ⟨-, -, hc, hl⟩ := elW_inv (prmB_says hp).1 hx2
        by_cases h3 : (elW p R xs).2.1.length < R
        · rw [e1, if_pos h3] at h; cases h
        · rw [if_neg h3] at e1
          exact ⟨R, rfl, rfl, by omega, hp, hx2, hh, by omega, e1, hl, hc⟩
      · rw [ivX_no3 h2] at h; cases h
    · rw [ivX_no2 h1] at h; cases h
  · rw [ivX_no1 hh] at h; cases h
theorem ivX_zs (r c p : Int) (xs : List Int) : (ivX r c p xs).zs.length ≤ 144 := by
  rcases Bool.eq_false_or_eq_true (ivX r c p xs).ok with h | h
  · obtain ⟨n, -, -, hn, -, -, -, -, e, hl, -⟩ := ivX_says h
    rw [e]
    show (ivL p n xs).length ≤ 144
    rw [hl]
    exact Nat.mul_le_mul hn hn
  · unfold ivX at h ⊢
    split
    · rename_i h2
      rw [if_pos h2] at h
      split
      · exact Nat.zero_le _
      · rename_i h3
        rw [if_neg h3] at h; cases h
    · exact Nat.zero_le _
/-- The sum of one row, so far. -/
def svF (p : Int) (n : Nat) (vs bs : List Int) (i j : Nat) : Int := slF p (fun k => vs.getD (i * n + k) 0) (fun k => bs.getD k 0) j
theorem svF_zero (p : Int) (n : Nat) (vs bs : List Int) (i : Nat) : svF p n vs bs i 0 = 0 := rfl
theorem svF_step (p : Int) (n : Nat) (vs bs : List Int) (i j : Nat) : svF p n vs bs i (j + 1) = (svF p n vs bs i j + vs.getD (i * n + j) 0 * (bs.getD j 0 % p)) % p := rfl
theorem svF_can {p : Int} (hp : 0 < p) (n : Nat) (vs bs : List Int) (i j : Nat) : 0 ≤ svF p n vs bs i j ∧ svF p n vs bs i j < p := slF_can hp _ _ _
/-- The rows ahead of row i are done; of row i, j summands. -/
def svTo (p : Int) (n : Nat) (vs bs : List Int) (i j : Nat) : List Int := (List.range n).map fun a => if a < i then svF p n vs bs a n else if a = i then svF p n vs bs i j else 0
theorem svTo_length (p : Int) (n : Nat) (vs bs : List Int) (i j : Nat) : (svTo p n vs bs i j).length = n := by simp [svTo]
theorem svTo_zero (p : Int) (n : Nat) (vs bs : List Int) : svTo p n vs bs 0 0 = List.replicate n 0 := by
  apply List.ext_getElem (by simp [svTo])
  intro k h1 h2
  simp [svTo, svF_zero]
theorem svTo_at {p : Int} {n : Nat} {vs bs : List Int} {i j : Nat} (hi : i < n) : (svTo p n vs bs i j).getD i 0 = svF p n vs bs i j := by
  unfold svTo
  simp [List.getD, hi]
theorem svTo_set {p : Int} {n : Nat} {vs bs : List Int} {i j : Nat} : (svTo p n vs bs i j).set i (svF p n vs bs i (j + 1)) = svTo p n vs bs i (j + 1) := by
  apply List.ext_getElem (by simp [svTo])
  intro k h1 h2
  rw [List.getElem_set]
  by_cases e : i = k
  · subst e; simp [svTo]
  · rw [if_neg e]
    simp [svTo, show ¬ k = i from fun h => e h.symm]
theorem svTo_row {p : Int} {n : Nat} {vs bs : List Int} {i : Nat} : svTo p n vs bs i n = svTo p n vs bs (i + 1) 0 := by
  apply List.ext_getElem (by simp [svTo])
  intro k h1 h2
  simp only [svTo, List.getElem_map, List.getElem_range]
  by_cases h3 : k < i
  · rw [if_pos h3, if_pos (by omega)]
  · rw [if_neg h3]
    by_cases h4 : k = i
    · rw [if_pos h4, if_pos (by omega), h4]
    · rw [if_neg h4, if_neg (by omega)]
      split
      · rfl
      · rfl
theorem svTo_all (p : Int) (n : Nat) (vs bs : List Int) : svTo p n vs bs n 0 = solL p n vs bs := by
  apply List.ext_getElem (by simp [svTo, solL])
  intro k h1 h2
  have : k < n := by simpa [svTo] using h1
  simp [svTo, solL, svF, this]
/-- The first i unknowns. -/
def svUp (p : Int) (n : Nat) (vs bs : List Int) (i : Nat) : List Int := (List.range i).map fun a => svF p n vs bs a n
theorem svUp_length (p : Int) (n : Nat) (vs bs : List Int) (i : Nat) : (svUp p n vs bs i).length = i := by simp [svUp]
theorem svUp_succ (p : Int) (n : Nat) (vs bs : List Int) (i : Nat) : svUp p n vs bs (i + 1) = svUp p n vs bs i ++ [svF p n vs bs i n] := by simp [svUp, List.range_succ]
theorem svUp_all (p : Int) (n : Nat) (vs bs : List Int) : svUp p n vs bs n = solL p n vs bs := rfl
theorem nums_bad {bs : List Int} {j : Nat} (hj : j < bs.length) (h : ¬ NumP (bs.getD j 0)) : nums bs = false := by
  cases hb : nums bs with
  | false => rfl
  | true => exact absurd (nums_at hb hj) h
theorem nums_all {bs : List Int} (h : ∀ j, j < bs.length → NumP (bs.getD j 0)) : nums bs = true := nums_true h
end Go.Proofs.Ytcapddcmnjeloaa
end

section
/-
  Plain mathematics of chapter 10: ratios and their residues, the ratio with small parts that has a residue. Nothing of a program is used.
-/
namespace Go.Proofs.Ytcapddcmnjeloaa

/-! ### The residue of a ratio -/
/-- n / d has the residue y by m. -/
def ImgP (n d y m : Int) : Prop := Cg m (y * d) n
theorem cop_cancel {m d a b : Int} (h : d.gcd m = 1) (hc : Cg m (a * d) (b * d)) : Cg m a b := by
  unfold Cg at *
  rw [← Int.sub_mul] at hc
  rw [← Int.natAbs_dvd_natAbs, Int.natAbs_mul] at hc
  rw [← Int.natAbs_dvd_natAbs]
  have h' : Nat.Coprime m.natAbs d.natAbs := by
    show Nat.gcd m.natAbs d.natAbs = 1
    rw [Nat.gcd_comm]; exact h
  exact Nat.Coprime.dvd_of_dvd_mul_right h' hc
theorem ImgP.uniq {n d y z m : Int} (h : d.gcd m = 1) (hy : 0 ≤ y ∧ y < m) (hz : 0 ≤ z ∧ z < m) (h1 : ImgP n d y m) (h2 : ImgP n d z m) : y = z := Cg.eq hy hz (cop_cancel h (h1.trans h2.symm))
/-- The residue as ResidueOf finds it. -/
theorem img_of {n d m x y g : Int} (h : d % m * x + m * y = g) (hg : g = 1) : ImgP n d (x % m * (n % m) % m) m := by
  have e1 : Cg m (x * d) 1 := by
    refine ((Cg.refl m x).mul (Cg.emod m d).symm).trans ⟨-y, ?_⟩
    rw [Int.mul_neg, Int.mul_comm x]
    omega
  have e2 : Cg m (x % m * (n % m) % m) (x * n) := (Cg.emod m _).trans ((Cg.emod m x).mul (Cg.emod m n))
  have e3 : Cg m (x % m * (n % m) % m * d) (n * (x * d)) := (e2.mul (Cg.refl m d)).trans (Cg.of_eq (by grind))
  exact e3.trans ((Cg.mul_left n e1).trans (Cg.of_eq (Int.mul_one n)))
/-- The check of IsImage. -/
theorem img_iff {n d y m : Int} (hm : 0 < m) : (y % m * (d % m) - n) % m = 0 ↔ ImgP n d y m := by
  have e : Cg m (y % m * (d % m) - n) (y * d - n) := ((Cg.emod m y).mul (Cg.emod m d)).sub (Cg.refl m n)
  rw [Cg.emod_eq hm e]
  unfold ImgP Cg
  exact ⟨fun h => Int.dvd_of_emod_eq_zero h, fun h => Int.emod_eq_zero_of_dvd h⟩

/-! ### The ratio of a residue -/
/-- The steps of RatioFrom: two numbers g > h and their multipliers x, u of a by m; the multipliers' signs are different. -/
structure RInv (m a g x h u : Int) : Prop where
  low : 0 ≤ h
  less : h < g
  gx : Cg m g (x * a)
  hu : Cg m h (u * a)
  sg : (0 < u ∧ x ≤ 0 ∧ g * u - h * x = m) ∨ (u < 0 ∧ 0 ≤ x ∧ g * u - h * x = -m)
theorem RInv.start {m a : Int} (hm : 0 < m) : RInv m a m 0 (a % m) 1 where
  low := Int.emod_nonneg _ (by omega)
  less := Int.emod_lt_of_pos _ hm
  gx := by rw [Int.zero_mul]; exact Cg.zero.mpr (Int.dvd_refl m)
  hu := by rw [Int.one_mul]; exact Cg.emod m a
  sg := .inl ⟨by decide, by decide, by omega⟩
theorem RInv.step {m a g x h u : Int} (I : RInv m a g x h u) (hp : 0 < h) : RInv m a h u (g - g / h * h) (x - g / h * u) := by
  have hq : 1 ≤ g / h := by
    have := Int.ediv_mul_le g (show h ≠ 0 by omega)
    rw [Int.le_ediv_iff_mul_le hp]
    have := I.less
    omega
  have e : g - g / h * h = g % h := by rw [Int.emod_def, Int.mul_comm h]
  have e2 : h * (x - g / h * u) - (g - g / h * h) * u = -(g * u - h * x) := by generalize g / h = q; grind
  refine ⟨?_, ?_, I.hu, ?_, ?_⟩
  · rw [e]; exact Int.emod_nonneg _ (by omega)
  · rw [e]; exact Int.emod_lt_of_pos _ hp
  · have := I.gx.sub (Cg.mul_left (g / h) I.hu)
    refine this.trans (Cg.of_eq ?_)
    rw [Int.sub_mul, Int.mul_assoc]
  · rw [e2]
    generalize g / h = q at hq ⊢
    rcases I.sg with ⟨h1, h2, h3⟩ | ⟨h1, h2, h3⟩
    · right
      have := Int.mul_le_mul_of_nonneg_right hq (show 0 ≤ u by omega)
      refine ⟨by omega, by omega, by omega⟩
    · left
      have := Int.mul_le_mul_of_nonneg_right hq (show 0 ≤ -u by omega)
      simp only [Int.mul_neg, Int.one_mul] at this
      refine ⟨by omega, by omega, by omega⟩
/-- The multipliers stay small. -/
theorem RInv.small {m a g x h u : Int} (I : RInv m a g x h u) : (-m ≤ u ∧ u ≤ m) ∧ (0 < h → -m ≤ x ∧ x ≤ m) := by
  have l := I.low
  have hg : 1 ≤ g := by have := I.less; omega
  rcases I.sg with ⟨h1, h2, h3⟩ | ⟨h1, h2, h3⟩
  · have a1 := Int.mul_le_mul_of_nonneg_right hg (show 0 ≤ u by omega)
    have a2 := Int.mul_nonneg l (show 0 ≤ -x by omega)
    simp only [Int.mul_neg] at a2
    refine ⟨by omega, fun h0 => ?_⟩
    have a3 := Int.mul_le_mul_of_nonneg_right (show 1 ≤ h from h0) (show 0 ≤ -x by omega)
    simp only [Int.mul_neg, Int.one_mul] at a3
    omega
  · have a1 := Int.mul_le_mul_of_nonneg_right hg (show 0 ≤ -u by omega)
    have a2 := Int.mul_nonneg l h2
    simp only [Int.mul_neg, Int.one_mul] at a1
    refine ⟨by omega, fun h0 => ?_⟩
    have a3 := Int.mul_le_mul_of_nonneg_right (show 1 ≤ h from h0) h2
    omega
/-- Nothing overflows in a step. -/
theorem RInv.parts {m a g x h u : Int} (I : RInv m a g x h u) (hp : 0 < h) : (0 ≤ g / h ∧ g / h ≤ g) ∧ (0 ≤ g / h * h ∧ g / h * h ≤ g) ∧ (-m ≤ g / h * u ∧ g / h * u ≤ m) := by
  have hg : 0 ≤ g := by have := I.less; omega
  have hq : 0 ≤ g / h := Int.ediv_nonneg hg (by omega)
  have hs := I.step hp
  refine ⟨⟨hq, Int.ediv_le_self h hg⟩, ⟨Int.mul_nonneg hq (by omega), Int.ediv_mul_le g (by omega)⟩, ?_⟩
  have h4 := hs.small.1
  generalize g / h = q at hq h4 ⊢
  rcases I.sg with ⟨h1, h2, -⟩ | ⟨h1, h2, -⟩
  · have := Int.mul_nonneg hq (show 0 ≤ u by omega)
    omega
  · have := Int.mul_nonneg hq (show 0 ≤ -u by omega)
    rw [Int.mul_neg] at this
    omega
theorem mul_abs {a b A B : Int} (ha : -A ≤ a ∧ a ≤ A) (hb : -B ≤ b ∧ b ≤ B) : -(A * B) ≤ a * b ∧ a * b ≤ A * B := by
  have h : (a * b).natAbs ≤ A.natAbs * B.natAbs := by
    rw [Int.natAbs_mul]
    exact Nat.mul_le_mul (by omega) (by omega)
  have e : ((A.natAbs * B.natAbs : Nat) : Int) = A * B := by
    rw [Int.natCast_mul, Int.natAbs_of_nonneg (by omega), Int.natAbs_of_nonneg (by omega)]
  omega
theorem pos_of_mul {u b : Int} (h : 0 < u * b) (hu : 0 < u) : 0 < b := by
  rcases Int.lt_or_le 0 b with h1 | h1
  · exact h1
  · have := Int.mul_nonneg (show 0 ≤ u by omega) (show 0 ≤ -b by omega)
    rw [Int.mul_neg] at this
    omega
/-- A ratio with the residue a and small parts is what the steps come to: where the multiplier is above 0. -/
theorem ratio_pos {m a g x h u B n d : Int} (hh : 0 ≤ h) (gx : Cg m g (x * a)) (hu : Cg m h (u * a)) (up : 0 < u) (xn : x ≤ 0) (dt : g * u - h * x = m) (hB : h ≤ B) (gB : B < g) (hm : 2 * (B * B) < m) (hn : -B ≤ n ∧ n ≤ B) (hd : 0 < d ∧ d ≤ B) (hg : n.gcd d = 1) (hi : Cg m (a * d) n) : h = n ∧ u = d := by
  have hmp : 0 < m := by have := Int.mul_nonneg (show 0 ≤ B by omega) (show 0 ≤ B by omega); omega
  obtain ⟨k, hk⟩ : m ∣ n * u - d * h := by
    have e1 : Cg m (n * u) (a * d * u) := hi.symm.mul (Cg.refl m u)
    have e2 : Cg m (d * h) (d * (u * a)) := Cg.mul_left d hu
    exact e1.trans ((Cg.of_eq (by grind)).trans e2.symm)
  obtain ⟨l, hl⟩ : m ∣ g * d - x * n := by
    have e1 : Cg m (g * d) (x * a * d) := gx.mul (Cg.refl m d)
    have e2 : Cg m (x * n) (x * (a * d)) := Cg.mul_left x hi.symm
    exact e1.trans ((Cg.of_eq (by grind)).trans e2.symm)
  have en : n = g * k + h * l := by
    refine Int.eq_of_mul_eq_mul_left (show m ≠ 0 by omega) ?_
    have e1 : (g * u - h * x) * n = g * (n * u - d * h) + h * (g * d - x * n) := by grind
    rw [dt, hk, hl] at e1
    rw [e1]
    grind
  have ed : d = x * k + u * l := by
    refine Int.eq_of_mul_eq_mul_left (show m ≠ 0 by omega) ?_
    have e1 : (g * u - h * x) * d = x * (n * u - d * h) + u * (g * d - x * n) := by grind
    rw [dt, hk, hl] at e1
    rw [e1]
    grind
  have hk0 : k = 0 := by
    rcases Int.lt_trichotomy k 0 with h1 | h1 | h1
    · exfalso
      have b1 := Int.mul_le_mul_of_nonneg_left (show 1 ≤ -k by omega) (show 0 ≤ g by omega)
      have b3 := Int.mul_le_mul_of_nonneg_left (show 1 ≤ -k by omega) (show 0 ≤ m by omega)
      have b2 := Int.mul_nonneg (show 0 ≤ -x by omega) (show 0 ≤ -k by omega)
      simp only [Int.mul_neg, Int.neg_mul, Int.mul_one] at b1 b2 b3
      rcases Int.lt_or_le 0 l with h2 | h2
      · have c1 := Int.mul_le_mul_of_nonneg_left (show 1 ≤ l from h2) (show 0 ≤ u by omega)
        have c2 := mul_abs (a := n) (b := u) (A := B) (B := B) (by omega) (by omega)
        have c3 := mul_abs (a := d) (b := h) (A := B) (B := B) (by omega) (by omega)
        omega
      · have c1 := Int.mul_nonneg hh (show 0 ≤ -l by omega)
        simp only [Int.mul_neg] at c1
        omega
    · exact h1
    · exfalso
      have b1 := Int.mul_le_mul_of_nonneg_left (show 1 ≤ k from h1) (show 0 ≤ g by omega)
      have b2 := Int.mul_nonneg (show 0 ≤ -x by omega) (show 0 ≤ k by omega)
      simp only [Int.neg_mul, Int.mul_one] at b1 b2
      rcases Int.lt_or_le l 0 with h2 | h2
      · have c1 := Int.mul_le_mul_of_nonneg_left (show 1 ≤ -l by omega) (show 0 ≤ u by omega)
        simp only [Int.mul_neg, Int.mul_one] at c1
        omega
      · have c1 := Int.mul_nonneg hh h2
        omega
  subst hk0
  rw [Int.mul_zero, Int.zero_add] at en ed
  have hl0 : 0 < l := pos_of_mul (by omega) up
  have hl1 : l = 1 := by
    have g1 : l ∣ n := ⟨h, by rw [en, Int.mul_comm]⟩
    have g2 : l ∣ d := ⟨u, by rw [ed, Int.mul_comm]⟩
    have := Int.dvd_coe_gcd g1 g2
    rw [hg] at this
    have := Int.le_of_dvd (by decide) this
    omega
  rw [hl1, Int.mul_one] at en ed
  exact ⟨en.symm, ed.symm⟩
/-- A ratio with the residue a and small parts is what the steps come to. -/
theorem RInv.found {m a g x h u B n d : Int} (I : RInv m a g x h u) (hB : h ≤ B) (gB : B < g) (hm : 2 * (B * B) < m) (hn : -B ≤ n ∧ n ≤ B) (hd : 0 < d ∧ d ≤ B) (hg : n.gcd d = 1) (hi : Cg m (a * d) n) : (0 < u ∧ h = n ∧ u = d) ∨ (u < 0 ∧ -h = n ∧ -u = d) := by
  rcases I.sg with ⟨h1, h2, h3⟩ | ⟨h1, h2, h3⟩
  · exact .inl ⟨h1, ratio_pos I.low I.gx I.hu h1 h2 h3 hB gB hm hn hd hg hi⟩
  · have := ratio_pos (a := -a) (x := -x) (u := -u) (n := -n) I.low (by rw [Int.neg_mul_neg]; exact I.gx) (by rw [Int.neg_mul_neg]; exact I.hu) (by omega) (by omega) (by rw [Int.mul_neg, Int.mul_neg]; omega) hB gB hm (by omega) hd (by rw [Int.neg_gcd]; exact hg) (by rw [Int.neg_mul]; exact hi.neg)
    exact .inr ⟨h1, by omega, this.2⟩
/-- A ratio with small parts that has the residue a by m. -/
def RatP (a m B n d : Int) : Prop := (-B ≤ n ∧ n ≤ B) ∧ (0 < d ∧ d ≤ B) ∧ n.gcd d = 1 ∧ d.gcd m = 1 ∧ Cg m (a * d) n
open Classical in
/-- What RatioFrom gives. -/
noncomputable def ratM (a m B : Int) : Int × Int × Bool := if h : ∃ z : Int × Int, RatP a m B z.1 z.2 then (h.choose.1, h.choose.2, true) else (0, 0, false)
/-- The end of the steps, its multiplier above 0. -/
theorem RInv.end_ {m a g x h u B n d : Int} (I : RInv m a g x h u) (hB : h ≤ B) (gB : B < g) (hm : 2 * (B * B) < m) (hr : RatP a m B n d) : (if u < 0 then -h else h) = n ∧ (if u < 0 then -u else u) = d := by
  rcases I.found hB gB hm hr.1 hr.2.1 hr.2.2.1 hr.2.2.2.2 with ⟨h1, h2, h3⟩ | ⟨h1, h2, h3⟩
  · rw [if_neg (by omega), if_neg (by omega)]; exact ⟨h2, h3⟩
  · rw [if_pos h1, if_pos h1]; exact ⟨h2, h3⟩
theorem RInv.yes {m a g x h u B s t : Int} (I : RInv m a g x h u) (hB : h ≤ B) (gB : B < g) (hm : 2 * (B * B) < m) (hs : (if u < 0 then -h else h) = s) (ht : (if u < 0 then -u else u) = t) (hr : RatP a m B s t) : ratM a m B = (s, t, true) := by
  have hx : ∃ z : Int × Int, RatP a m B z.1 z.2 := ⟨(s, t), hr⟩
  unfold ratM
  rw [dif_pos hx]
  have := I.end_ hB gB hm hx.choose_spec
  rw [hs, ht] at this
  rw [← this.1, ← this.2]
theorem RInv.no {m a g x h u B s t : Int} (I : RInv m a g x h u) (hB : h ≤ B) (gB : B < g) (hm : 2 * (B * B) < m) (hs : (if u < 0 then -h else h) = s) (ht : (if u < 0 then -u else u) = t) (hr : ¬ RatP a m B s t) : ratM a m B = (0, 0, false) := by
  unfold ratM
  rw [dif_neg]
  rintro ⟨z, hz⟩
  have := I.end_ hB gB hm hz
  rw [hs, ht] at this
  rw [← this.1, ← this.2] at hz
  exact hr hz
end Go.Proofs.Ytcapddcmnjeloaa
end

section
/-
  Plain mathematics of chapter 10: what its functions answer. Nothing of a program is used.
-/
namespace Go.Proofs.Ytcapddcmnjeloaa

/-! ### IsImage -/
/-- The arguments of IsImage and ResidueOf but for the residue: a ratio, a modulus, no common divisor. -/
def imA (n d m : Int) : Bool := isRat n d && decide (1 ≤ m ∧ m ≤ 400000000) && decide (d.gcd m = 1)
theorem imA_says {n d m : Int} (h : imA n d m = true) : IsRatP n d ∧ (1 ≤ m ∧ m ≤ 400000000) ∧ d.gcd m = 1 := by
  unfold imA isRat at h
  simp only [Bool.and_eq_true, decide_eq_true_eq] at h
  exact ⟨h.1.1, h.1.2, h.2⟩
theorem imA_true {n d m : Int} (h1 : isRat n d = true) (h2 : 1 ≤ m ∧ m ≤ 400000000) (h3 : d.gcd m = 1) : imA n d m = true := by
  unfold imA; rw [h1, decide_eq_true h2, decide_eq_true h3]; rfl
theorem imA_rat {n d m : Int} (h : isRat n d = false) : imA n d m = false := by unfold imA; rw [h]; rfl
theorem imA_mod {n d m : Int} (h : ¬ (1 ≤ m ∧ m ≤ 400000000)) : imA n d m = false := by unfold imA; rw [decide_eq_false h, Bool.and_false]; rfl
theorem imA_gcd {n d m : Int} (h : d.gcd m ≠ 1) : imA n d m = false := by unfold imA; rw [decide_eq_false h, Bool.and_false]
/-- The sizes of what IsImage and ResidueOf calculate. -/
theorem imA_size {n d m : Int} (h : imA n d m = true) : (1 ≤ d ∧ d ≤ 400000000) ∧ NumP n ∧ NumP d ∧ NumP m := by
  obtain ⟨h1, h2, -⟩ := imA_says h
  exact ⟨⟨h1.1, h1.2.1⟩, ⟨h1.2.2.1, h1.2.2.2.1⟩, ⟨by have := h1.1; omega, h1.2.1⟩, ⟨by omega, h2.2⟩⟩
/-- What IsImage answers. -/
def imB (n d a m : Int) : Bool := imA n d m && decide (NumP a) && decide ((a * d - n) % m = 0)
theorem imB_iff {n d a m : Int} : imB n d a m = true ↔ imA n d m = true ∧ NumP a ∧ ImgP n d a m := by
  unfold imB
  simp only [Bool.and_eq_true, decide_eq_true_eq, and_assoc]
  refine and_congr_right fun h => and_congr_right fun _ => ?_
  unfold ImgP Cg
  exact ⟨fun h => Int.dvd_of_emod_eq_zero h, fun h => Int.emod_eq_zero_of_dvd h⟩
theorem imB_no {n d a m : Int} (h : imA n d m = false ∨ ¬ NumP a) : imB n d a m = false := by
  unfold imB
  rcases h with h | h
  · rw [h]; rfl
  · rw [decide_eq_false h, Bool.and_false]; rfl
/-- With the residues multiplied, as the program may do it. -/
theorem imB_eq {n d a m : Int} (h : imA n d m = true) (ha : NumP a) {b : Bool} (hb : b = decide ((a % m * (d % m) - n) % m = 0)) : imB n d a m = b := by
  have hm : 0 < m := by have := (imA_says h).2.1.1; omega
  cases hB : imB n d a m with
  | true => rw [hb, decide_eq_true ((img_iff hm).mpr (imB_iff.mp hB).2.2)]
  | false =>
    rw [hb, decide_eq_false]
    intro hz
    rw [imB_iff.mpr ⟨h, ha, (img_iff hm).mp hz⟩] at hB; cases hB
/-- With the numbers themselves multiplied. -/
theorem imB_eq2 {n d a m : Int} (h : imA n d m = true) (ha : NumP a) {b : Bool} (hb : b = decide ((a * d - n) % m = 0)) : imB n d a m = b := by
  unfold imB; rw [h, decide_eq_true ha, hb]; rfl

/-! ### ResidueOf -/
open Classical in
/-- The residue of a ratio. -/
noncomputable def resV (n d m : Int) : Int := if h : ∃ y : Int, (0 ≤ y ∧ y < m) ∧ ImgP n d y m then h.choose else 0
theorem resV_eq {n d m y : Int} (hg : d.gcd m = 1) (hy : 0 ≤ y ∧ y < m) (h : ImgP n d y m) : resV n d m = y := by
  have hx : ∃ y : Int, (0 ≤ y ∧ y < m) ∧ ImgP n d y m := ⟨y, hy, h⟩
  unfold resV
  rw [dif_pos hx]
  exact ImgP.uniq hg hx.choose_spec.1 hy hx.choose_spec.2 h
/-- What ResidueOf answers. -/
noncomputable def rsX (n d m : Int) : Int × Bool := if imA n d m = true then (resV n d m, true) else (0, false)
theorem rsX_no {n d m : Int} (h : imA n d m = false) : rsX n d m = (0, false) := by
  unfold rsX; rw [h]; rfl
theorem rsX_yes {n d m y : Int} (h : imA n d m = true) (hy : 0 ≤ y ∧ y < m) (hi : ImgP n d y m) : rsX n d m = (y, true) := by
  unfold rsX; rw [if_pos h, resV_eq (imA_says h).2.2 hy hi]
/-- As the extended divisor finds it. -/
theorem rsX_ext {n d m x y g : Int} (h : imA n d m = true) (he : d % m * x + m * y = g) (hg : g = ((d % m).gcd m : Nat)) : rsX n d m = (x % m * (n % m) % m, true) := by
  obtain ⟨-, h2, h3⟩ := imA_says h
  refine rsX_yes h ⟨Int.emod_nonneg _ (by omega), Int.emod_lt_of_pos _ (by omega)⟩ (img_of he ?_)
  rw [hg, gcd_emod, h3]; rfl
/-- There is a residue. -/
theorem rsX_ex {n d m : Int} (h : imA n d m = true) : ∃ y : Int, rsX n d m = (y, true) ∧ (0 ≤ y ∧ y < m) ∧ ImgP n d y m := by
  obtain ⟨h1, h2, h3⟩ := imA_says h
  obtain ⟨x, y, hb⟩ := bez m.toNat d.toNat
  have e1 : (d.toNat : Int) = d := Int.toNat_of_nonneg (by have := h1.1; omega)
  have e2 : (m.toNat : Int) = m := Int.toNat_of_nonneg (by omega)
  have e3 : Nat.gcd d.toNat m.toNat = 1 := by
    rw [← h3, Int.gcd, show d.natAbs = d.toNat by have := h1.1; omega, show m.natAbs = m.toNat by omega]
  rw [e1, e2, e3] at hb
  have hi : ImgP n d (x % m * (n % m) % m) m := by
    refine img_of (y := y + d / m * x) (g := 1) ?_ rfl
    rw [Int.emod_def]
    have : d * x + m * y = 1 := hb
    generalize d / m = q
    grind
  exact ⟨_, rsX_yes h ⟨Int.emod_nonneg _ (by omega), Int.emod_lt_of_pos _ (by omega)⟩ hi, ⟨Int.emod_nonneg _ (by omega), Int.emod_lt_of_pos _ (by omega)⟩, hi⟩
theorem rsX_says {n d m : Int} (h : (rsX n d m).2 = true) : imA n d m = true ∧ (0 ≤ (rsX n d m).1 ∧ (rsX n d m).1 < m) ∧ ImgP n d (rsX n d m).1 m := by
  cases hA : imA n d m with
  | false => rw [rsX_no hA] at h; cases h
  | true =>
    obtain ⟨y, e, h1, h2⟩ := rsX_ex hA
    rw [e]; exact ⟨rfl, h1, h2⟩
theorem rsX_none {n d m : Int} (h : (rsX n d m).2 = false) : rsX n d m = (0, false) := by
  cases hA : imA n d m with
  | false => exact rsX_no hA
  | true =>
    obtain ⟨y, e, -, -⟩ := rsX_ex hA
    rw [e] at h; cases h
/-- The residue of 0. -/
theorem rsX_zero {m : Int} (h : 1 ≤ m ∧ m ≤ 400000000) : rsX 0 1 m = (0, true) := rsX_yes (imA_true (decide_eq_true (by decide)) h (Int.one_gcd ..)) ⟨by omega, by omega⟩ ⟨0, by omega⟩

/-! ### RatioFrom -/
/-- The arguments of RatioFrom. -/
def RtA (a m B : Int) : Prop := NumP a ∧ (1 ≤ m ∧ m ≤ 400000000) ∧ (1 ≤ B ∧ B ≤ 20000) ∧ 2 * B * B < m
instance (a m B : Int) : Decidable (RtA a m B) := by unfold RtA; exact inferInstance
theorem RtA.sq {a m B : Int} (h : RtA a m B) : 2 * (B * B) < m := by rw [← Int.mul_assoc]; exact h.2.2.2
/-- Two ratios with small parts and one residue are one. -/
theorem RatP.uniq {a m B n d n' d' : Int} (hm : 2 * (B * B) < m) (h : RatP a m B n d) (h' : RatP a m B n' d') : n = n' ∧ d = d' := by
  obtain ⟨a1, a2, a3, -, a5⟩ := h
  obtain ⟨b1, b2, b3, -, b5⟩ := h'
  have hc : Cg m (n * d' - n' * d) 0 := by
    have e1 : Cg m (n * d') (a * d * d') := a5.symm.mul (Cg.refl m d')
    have e2 : Cg m (n' * d) (a * d' * d) := b5.symm.mul (Cg.refl m d)
    exact (e1.sub e2).trans (Cg.of_eq (by grind))
  have c1 := mul_abs (a := n) (b := d') (A := B) (B := B) a1 (by omega)
  have c2 := mul_abs (a := n') (b := d) (A := B) (B := B) b1 (by omega)
  have e : n * d' = n' * d := by
    obtain ⟨k, hk⟩ := Cg.zero.mp hc
    have hk0 : k = 0 := by
      rcases Int.lt_trichotomy k 0 with h1 | h1 | h1
      · have := Int.mul_le_mul_of_nonneg_left (show k ≤ -1 by omega) (show 0 ≤ m by omega)
        omega
      · exact h1
      · have := Int.mul_le_mul_of_nonneg_left (show 1 ≤ k from h1) (show 0 ≤ m by omega)
        omega
    rw [hk0, Int.mul_zero] at hk
    omega
  have d1 : d ∣ d' := dvd_of_coprime (b := n) (by rw [e]; exact ⟨n', Int.mul_comm ..⟩) (by rw [Int.gcd_comm]; exact a3)
  have d2 : d' ∣ d := dvd_of_coprime (b := n') (by rw [← e]; exact ⟨n, Int.mul_comm ..⟩) (by rw [Int.gcd_comm]; exact b3)
  have e2 : d = d' := Int.le_antisymm (Int.le_of_dvd b2.1 d1) (Int.le_of_dvd a2.1 d2)
  subst e2
  exact ⟨Int.eq_of_mul_eq_mul_right (by omega) e, rfl⟩
/-- What RatioFrom answers. -/
noncomputable def rtX (a m B : Int) : Int × Int × Bool := if RtA a m B then ratM a m B else (0, 0, false)
theorem rtX_no {a m B : Int} (h : ¬ RtA a m B) : rtX a m B = (0, 0, false) := if_neg h
/-- The start of the steps. -/
theorem RtA.start {a m B : Int} (h : RtA a m B) : RInv m a m 0 (a % m) 1 ∧ B < m := by
  refine ⟨RInv.start (by have := h.2.1.1; omega), ?_⟩
  have h1 := h.sq
  have h2 := Int.mul_le_mul_of_nonneg_right h.2.2.1.1 (show 0 ≤ B by have := h.2.2.1.1; omega)
  have := h.2.2.1.1
  omega
/-- What the steps lead to, checked by IsImage. -/
theorem RatP_iff {a m B n d : Int} (h : RtA a m B) (hn : -B ≤ n ∧ n ≤ B) : RatP a m B n d ↔ d ≤ B ∧ imB n d a m = true := by
  rw [imB_iff]
  have hB := h.2.2.1.2
  constructor
  · rintro ⟨-, h2, h3, h4, h5⟩
    exact ⟨h2.2, imA_true (decide_eq_true ⟨by omega, by omega, by omega, by omega, h3⟩) h.2.1 h4, h.1, h5⟩
  · rintro ⟨h1, h2, -, h4⟩
    obtain ⟨r1, -, r3⟩ := imA_says h2
    exact ⟨hn, ⟨by have := r1.1; omega, h1⟩, r1.2.2.2.2, r3, h4⟩
theorem RInv.ans {m a g x h u B s t : Int} (A : RtA a m B) (I : RInv m a g x h u) (hB : h ≤ B) (gB : B < g) (hs : (if u < 0 then -h else h) = s) (ht : (if u < 0 then -u else u) = t) : rtX a m B = if t ≤ B ∧ imB s t a m = true then (s, t, true) else (0, 0, false) := by
  have hl := I.low
  have hb : -B ≤ s ∧ s ≤ B := by rw [← hs]; split <;> omega
  unfold rtX
  rw [if_pos A]
  split
  · next h1 => exact I.yes hB gB A.sq hs ht ((RatP_iff A hb).mpr h1)
  · next h1 => exact I.no hB gB A.sq hs ht fun h2 => h1 ((RatP_iff A hb).mp h2)
theorem RInv.ans_yes {m a g x h u B s t : Int} (A : RtA a m B) (I : RInv m a g x h u) (hB : h ≤ B) (gB : B < g) (hs : (if u < 0 then -h else h) = s) (ht : (if u < 0 then -u else u) = t) (h1 : t ≤ B) (h2 : imB s t a m = true) : rtX a m B = (s, t, true) := by
  rw [I.ans A hB gB hs ht, if_pos ⟨h1, h2⟩]
theorem RInv.ans_no {m a g x h u B s t : Int} (A : RtA a m B) (I : RInv m a g x h u) (hB : h ≤ B) (gB : B < g) (hs : (if u < 0 then -h else h) = s) (ht : (if u < 0 then -u else u) = t) (h1 : B < t ∨ imB s t a m = false) : rtX a m B = (0, 0, false) := by
  rw [I.ans A hB gB hs ht, if_neg]
  rintro ⟨h2, h3⟩
  rcases h1 with h1 | h1
  · omega
  · rw [h1] at h3; cases h3
/-- A ratio with these parts is what is found. -/
theorem rtX_found {a m B n d : Int} (A : RtA a m B) (h : RatP a m B n d) : rtX a m B = (n, d, true) := by
  have hx : ∃ z : Int × Int, RatP a m B z.1 z.2 := ⟨(n, d), h⟩
  have hB := A.sq
  unfold rtX
  rw [if_pos A]
  unfold ratM
  rw [dif_pos hx]
  have h1 := hx.choose_spec
  have e := RatP.uniq hB h1 h
  rw [e.1, e.2]
theorem rtX_says {a m B : Int} (h : (rtX a m B).2.2 = true) : RtA a m B ∧ RatP a m B (rtX a m B).1 (rtX a m B).2.1 := by
  by_cases A : RtA a m B
  · by_cases hx : ∃ z : Int × Int, RatP a m B z.1 z.2
    · obtain ⟨z, hz⟩ := hx
      rw [rtX_found A hz]; exact ⟨A, hz⟩
    · unfold rtX ratM at h
      rw [if_pos A, dif_neg hx] at h; cases h
  · rw [rtX_no A] at h; cases h

/-! ### What the law of chapter 10 asks -/
theorem re_law {n d m : Int} (h : (rsX n d m).2 = true) : imB n d (rsX n d m).1 m = true ∧ 0 ≤ (rsX n d m).1 ∧ (rsX n d m).1 < m := by
  obtain ⟨h1, h2, h3⟩ := rsX_says h
  have := (imA_says h1).2.1
  exact ⟨imB_iff.mpr ⟨h1, ⟨by omega, by omega⟩, h3⟩, h2⟩
theorem re_back {n d m B : Int} (h : (rsX n d m).2 = true) (hB : B ≤ 20000) (h1 : 1 ≤ B) (hn : (n.natAbs : Int) ≤ B) (hd : d ≤ B) (hm : 2 * B * B < m) : rtX (rsX n d m).1 m B = (n, d, true) := by
  obtain ⟨g1, g2, g3⟩ := rsX_says h
  obtain ⟨r1, r2, r3⟩ := imA_says g1
  exact rtX_found ⟨⟨by omega, by omega⟩, r2, ⟨h1, hB⟩, hm⟩ ⟨⟨by omega, by omega⟩, ⟨by have := r1.1; omega, hd⟩, r1.2.2.2.2, r3, g3⟩
end Go.Proofs.Ytcapddcmnjeloaa
end

section
/-
  Plain mathematics of chapter 11: what SolveByLifting answers, step by step.
-/
namespace Go.Proofs.Ytcapddcmnjeloaa

/-! ### The prime -/
/-- The first number from 101 to 199 for which there is an inverse. -/
structure LfP (r c : Int) (xs : List Int) (p : Int) : Prop where
  low : 101 ≤ p
  up : p ≤ 199
  inv : (ivX r c p xs).ok = true
  first : ∀ q, 101 ≤ q → q < p → (ivX r c q xs).ok = false
theorem LfP.uniq {r c p q : Int} {xs : List Int} (h : LfP r c xs p) (h' : LfP r c xs q) : p = q := by
  rcases Int.lt_trichotomy p q with h1 | h1 | h1
  · have := h'.first p h.low h1
    rw [h.inv] at this; cases this
  · exact h1
  · have := h.first q h'.low h1
    rw [h'.inv] at this; cases this

/-! ### The steps -/
/-- The next of the unknowns, what is left. -/
def nxX (n : Nat) (P : Int) (dg us : List Int) : List Int := (List.range n).map fun i => us.getD i 0 + P * dg.getD i 0
def nxR (p : Int) (n : Nat) (xs dg rs : List Int) : List Int := (List.range n).map fun i => (rs.getD i 0 - sumN n fun j => mxC n xs i j * dg.getD j 0) / p
theorem nxX_length (n : Nat) (P : Int) (dg us : List Int) : (nxX n P dg us).length = n := by simp [nxX]
theorem nxR_length (p : Int) (n : Nat) (xs dg rs : List Int) : (nxR p n xs dg rs).length = n := by simp [nxR]
theorem nxX_at {n i : Nat} {P : Int} {dg us : List Int} (hi : i < n) : (nxX n P dg us).getD i 0 = us.getD i 0 + P * dg.getD i 0 := by simp [nxX, List.getD, hi]
theorem nxR_at {p : Int} {n i : Nat} {xs dg rs : List Int} (hi : i < n) : (nxR p n xs dg rs).getD i 0 = (rs.getD i 0 - sumN n fun j => mxC n xs i j * dg.getD j 0) / p := by simp [nxR, List.getD, hi]
/-- The unknowns and what is left after some steps. -/
def lfS (p : Int) (n : Nat) (xs vs bs : List Int) : Nat → List Int × List Int
  | 0 => (List.replicate n 0, bs)
  | k + 1 => (nxX n (p ^ k) (solL p n vs (lfS p n xs vs bs k).2) (lfS p n xs vs bs k).1, nxR p n xs (solL p n vs (lfS p n xs vs bs k).2) (lfS p n xs vs bs k).2)
section
variable {p : Int} {n : Nat} {xs vs bs : List Int}
theorem lfS_zero : lfS p n xs vs bs 0 = (List.replicate n 0, bs) := rfl
theorem lfS_x (k : Nat) : (lfS p n xs vs bs (k + 1)).1 = nxX n (p ^ k) (solL p n vs (lfS p n xs vs bs k).2) (lfS p n xs vs bs k).1 := rfl
theorem lfS_r (k : Nat) : (lfS p n xs vs bs (k + 1)).2 = nxR p n xs (solL p n vs (lfS p n xs vs bs k).2) (lfS p n xs vs bs k).2 := rfl
theorem lfS_xl (k : Nat) : (lfS p n xs vs bs k).1.length = n := by
  cases k with
  | zero => exact List.length_replicate ..
  | succ k => exact nxX_length _ _ _ _
theorem lfS_rl (hb : bs.length = n) (k : Nat) : (lfS p n xs vs bs k).2.length = n := by
  cases k with
  | zero => exact hb
  | succ k => exact nxR_length _ _ _ _ _
/-- What is left can be divided by p. -/
theorem lf_dvd (h : InvX p n (mxC n xs) (mxC n vs)) (rs : List Int) {i : Nat} (hi : i < n) : p ∣ rs.getD i 0 - sumN n fun j => mxC n xs i j * (solL p n vs rs).getD j 0 :=
  dig_dvd (rest := fun i => rs.getD i 0) (dg := fun j => (solL p n vs rs).getD j 0) h (fun j hj => by
    show Cg p ((solL p n vs rs).getD j 0) _
    rw [solL_at hj]; exact slF_cg _ _ _) hi
theorem lf_tdiv (h : InvX p n (mxC n xs) (mxC n vs)) (rs : List Int) {i : Nat} (hi : i < n) : (rs.getD i 0 - sumN n fun j => mxC n xs i j * (solL p n vs rs).getD j 0).tdiv p = (nxR p n xs (solL p n vs rs) rs).getD i 0 := by
  rw [nxR_at hi]; exact Int.tdiv_eq_ediv_of_dvd (lf_dvd h rs hi)
theorem lf_inv (hp : 0 < p) (h : InvX p n (mxC n xs) (mxC n vs)) : ∀ k, LInv n (mxC n xs) (fun i => bs.getD i 0) (fun j => (lfS p n xs vs bs k).1.getD j 0) (fun i => (lfS p n xs vs bs k).2.getD i 0) (p ^ k)
  | 0 => by
    have e : (fun j => (lfS p n xs vs bs 0).1.getD j 0) = fun _ => 0 := by
      funext j
      show (List.replicate n (0 : Int)).getD j 0 = 0
      rcases Nat.lt_or_ge j n with hj | hj
      · simp [List.getD, hj]
      · simp [List.getD, hj]
    rw [e, Int.pow_zero]
    exact LInv.start
  | k + 1 => by
    have I := (lf_inv hp h k).step (Int.pow_pos hp) (dg := fun j => (solL p n vs (lfS p n xs vs bs k).2).getD j 0) (r' := fun i => (lfS p n xs vs bs (k + 1)).2.getD i 0) (p := p) (fun j hj => solL_can hp hj) fun i hi => by
      show _ = p * (lfS p n xs vs bs (k + 1)).2.getD i 0
      rw [lfS_r, nxR_at hi]
      exact (Int.mul_ediv_cancel' (lf_dvd h _ hi)).symm
    rw [← Int.pow_succ] at I
    refine ⟨fun i hi => ?_, fun j hj => ?_⟩
    · rw [← I.sum i hi]
      refine congrArg (· + _) (sumN_congr fun j hj => ?_)
      show mxC n xs i j * (lfS p n xs vs bs (k + 1)).1.getD j 0 = _
      rw [lfS_x, nxX_at hj]
    · show 0 ≤ (lfS p n xs vs bs (k + 1)).1.getD j 0 ∧ (lfS p n xs vs bs (k + 1)).1.getD j 0 < _
      rw [lfS_x, nxX_at hj]
      exact I.can j hj
/-- The unknowns are residues by the power. -/
theorem lf_can (hp : 0 < p) (h : InvX p n (mxC n xs) (mxC n vs)) (k : Nat) {j : Nat} (hj : j < n) : 0 ≤ (lfS p n xs vs bs k).1.getD j 0 ∧ (lfS p n xs vs bs k).1.getD j 0 < p ^ k := (lf_inv hp h k).can j hj
theorem sum_bd {f : Nat → Int} {K : Int} : ∀ {m : Nat}, (∀ j, j < m → -K ≤ f j ∧ f j ≤ K) → -((m : Int) * K) ≤ sumN m f ∧ sumN m f ≤ (m : Int) * K
  | 0, _ => by show -(((0 : Nat) : Int) * K) ≤ 0 ∧ 0 ≤ ((0 : Nat) : Int) * K; simp
  | m + 1, h => by
    have h1 := sum_bd (m := m) fun j hj => h j (by omega)
    have h2 := h m (by omega)
    have e : ((m + 1 : Nat) : Int) * K = (m : Int) * K + K := by rw [Int.natCast_add, Int.add_mul]; simp
    rw [e]
    show _ ≤ sumN m f + f m ∧ sumN m f + f m ≤ _
    omega
/-- The sums in a step. -/
theorem lf_sum (hp : 1 < p) (hx : xs.length = n * n) (hn : nums xs = true) (rs : List Int) {i m : Nat} (hi : i < n) (hm : m ≤ n) : -((m : Int) * (400000000 * (p - 1))) ≤ (sumN m fun j => mxC n xs i j * (solL p n vs rs).getD j 0) ∧ (sumN m fun j => mxC n xs i j * (solL p n vs rs).getD j 0) ≤ (m : Int) * (400000000 * (p - 1)) := sum_bd fun j hj => by
  have h1 := mx_nums hx hn hi (show j < n by omega)
  have h2 := solL_can (p := p) (by omega) (n := n) (vs := vs) (bs := rs) (show j < n by omega)
  exact mul_abs (A := 400000000) (B := p - 1) h1 ⟨by omega, by omega⟩
/-- What is left stays small. -/
theorem lf_small (hp : 1 < p) (h6 : n ≤ 6) (hx : xs.length = n * n) (hn : nums xs = true) (hb : bs.length = n) (hm : nums bs = true) (h : InvX p n (mxC n xs) (mxC n vs)) : ∀ k, ∀ i, i < n → -2400000000 ≤ (lfS p n xs vs bs k).2.getD i 0 ∧ (lfS p n xs vs bs k).2.getD i 0 ≤ 2400000000
  | 0, i, hi => by
    have := nums_at hm (j := i) (by omega)
    unfold NumP at this
    show -2400000000 ≤ bs.getD i 0 ∧ bs.getD i 0 ≤ 2400000000
    omega
  | k + 1, i, hi => by
    have h1 := lf_small hp h6 hx hn hb hm h k i hi
    have h2 := lf_sum (vs := vs) hp hx hn (lfS p n xs vs bs k).2 hi (Nat.le_refl n)
    have h3 := lf_dvd h (lfS p n xs vs bs k).2 hi
    rw [lfS_r, nxR_at hi]
    obtain ⟨q, hq⟩ := h3
    rw [hq, Int.mul_ediv_cancel_left q (by omega)]
    have h4 : (n : Int) * (400000000 * (p - 1)) ≤ 6 * (400000000 * (p - 1)) := Int.mul_le_mul_of_nonneg_right (by omega) (by omega)
    generalize (n : Int) * (400000000 * (p - 1)) = N at h2 h4
    have h5 : -(p * 2400000000) ≤ p * q ∧ p * q ≤ p * 2400000000 := by omega
    constructor
    · refine Int.le_of_mul_le_mul_left (a := p) ?_ (by omega)
      have : p * -2400000000 = -(p * 2400000000) := by omega
      omega
    · exact Int.le_of_mul_le_mul_left h5.2 (by omega)
end

/-! ### How many steps, and the bound -/
/-- The steps for a prime. -/
def lfK (p : Int) : Nat := if p ≤ 141 then 4 else 3
/-- A step is made at a power. -/
def LfGo (p P : Int) : Prop := P ≤ 200000000 ∧ P ≤ 400000000 / p
instance (p P : Int) : Decidable (LfGo p P) := by unfold LfGo; exact inferInstance
theorem lfK_go {p : Int} (h1 : 101 ≤ p) (h2 : p ≤ 199) : (∀ k, k < lfK p → LfGo p (p ^ k)) ∧ ¬ LfGo p (p ^ lfK p) ∧ 1000000 ≤ p ^ lfK p ∧ p ^ lfK p ≤ 400000000 := by
  have key : (List.range 99).all (fun i => decide ((∀ k, k < lfK (((101 + i : Nat)) : Int) → LfGo ((101 + i : Nat) : Int) (((101 + i : Nat) : Int) ^ k)) ∧ ¬ LfGo ((101 + i : Nat) : Int) (((101 + i : Nat) : Int) ^ lfK ((101 + i : Nat) : Int)) ∧ 1000000 ≤ ((101 + i : Nat) : Int) ^ lfK ((101 + i : Nat) : Int) ∧ ((101 + i : Nat) : Int) ^ lfK ((101 + i : Nat) : Int) ≤ 400000000)) = true := by decide +kernel
  obtain ⟨q, rfl⟩ := Int.eq_ofNat_of_zero_le (show 0 ≤ p by omega)
  have := List.all_eq_true.mp key (q - 101) (List.mem_range.mpr (by omega))
  rw [show 101 + (q - 101) = q by omega] at this
  exact of_decide_eq_true this
theorem lfK_more {p : Int} {k : Nat} (h1 : 101 ≤ p) (h2 : p ≤ 199) (hk : k ≤ lfK p) (hg : LfGo p (p ^ k)) : k < lfK p := by
  rcases Nat.lt_or_ge k (lfK p) with h | h
  · exact h
  · obtain rfl : k = lfK p := by omega
    exact absurd hg (lfK_go h1 h2).2.1
theorem lfK_end {p : Int} {k : Nat} (h1 : 101 ≤ p) (h2 : p ≤ 199) (hk : k ≤ lfK p) (hg : ¬ LfGo p (p ^ k)) : k = lfK p := by
  rcases Nat.lt_or_ge k (lfK p) with h | h
  · exact absurd ((lfK_go h1 h2).1 k h) hg
  · omega
/-- The powers up to the last are numbers. -/
theorem lfK_num {p : Int} {k : Nat} (h1 : 101 ≤ p) (h2 : p ≤ 199) (hk : k ≤ lfK p) : 1 ≤ p ^ k ∧ p ^ k ≤ 400000000 := by
  refine ⟨by have : 0 < p ^ k := Int.pow_pos (show 0 < p by omega); omega, ?_⟩
  rcases Nat.lt_or_ge k (lfK p) with h | h
  · have := ((lfK_go h1 h2).1 k h).1
    omega
  · obtain rfl : k = lfK p := by omega
    exact (lfK_go h1 h2).2.2.2
/-- The largest number up to a limit, twice its square less than P. -/
def lfBs (P : Int) : Nat → Nat
  | 0 => 0
  | k + 1 => if 2 * ((k + 1 : Nat) : Int) * ((k + 1 : Nat) : Int) < P then k + 1 else lfBs P k
def lfB (P : Int) : Int := lfBs P 10000
theorem lfBs_yes {P : Int} {k : Nat} (h : 2 * (k : Int) * (k : Int) < P) : lfBs P k = k := by
  cases k with
  | zero => rfl
  | succ k => exact if_pos h
theorem lfBs_no {P : Int} {k : Nat} (h : ¬ 2 * ((k + 1 : Nat) : Int) * ((k + 1 : Nat) : Int) < P) : lfBs P (k + 1) = lfBs P k := if_neg h
theorem lfBs_says {P : Int} (hP : 2 < P) : ∀ {k : Nat}, 1 ≤ k → 1 ≤ lfBs P k ∧ lfBs P k ≤ k ∧ 2 * (lfBs P k : Int) * (lfBs P k : Int) < P
  | 1, _ => by
    have : lfBs P 1 = 1 := lfBs_yes (by show 2 * (1 : Int) * 1 < P; omega)
    rw [this]
    exact ⟨Nat.le_refl _, Nat.le_refl _, by show 2 * (1 : Int) * 1 < P; omega⟩
  | k + 2, _ => by
    by_cases h : 2 * ((k + 1 + 1 : Nat) : Int) * ((k + 1 + 1 : Nat) : Int) < P
    · rw [lfBs_yes h]; exact ⟨by omega, Nat.le_refl _, h⟩
    · rw [lfBs_no h]
      obtain ⟨a, b, c⟩ := lfBs_says hP (k := k + 1) (by omega)
      exact ⟨a, by omega, c⟩
theorem lfB_says {P : Int} (hP : 2 < P) : 1 ≤ lfB P ∧ lfB P ≤ 10000 ∧ 2 * lfB P * lfB P < P := by
  obtain ⟨a, b, c⟩ := lfBs_says hP (k := 10000) (by decide)
  unfold lfB
  exact ⟨by omega, by omega, c⟩
/-- Which one it is. -/
theorem lfBs_eq {P : Int} {B : Nat} (h1 : 2 * (B : Int) * (B : Int) < P) : ∀ {k : Nat}, B ≤ k → (B = k ∨ P ≤ 2 * ((B + 1 : Nat) : Int) * ((B + 1 : Nat) : Int)) → lfBs P k = B
  | 0, h2, _ => by
    obtain rfl : B = 0 := by omega
    rfl
  | k + 1, h2, h3 => by
    rcases Nat.lt_or_ge B (k + 1) with h4 | h4
    · have h5 : P ≤ 2 * ((B + 1 : Nat) : Int) * ((B + 1 : Nat) : Int) := by
        rcases h3 with h3 | h3
        · omega
        · exact h3
      have h6 : 2 * ((B + 1 : Nat) : Int) * ((B + 1 : Nat) : Int) ≤ 2 * ((k + 1 : Nat) : Int) * ((k + 1 : Nat) : Int) := Int.mul_le_mul (by omega) (by omega) (by omega) (by omega)
      rw [lfBs_no (by omega)]
      exact lfBs_eq h1 (by omega) (.inr h5)
    · obtain rfl : B = k + 1 := by omega
      exact lfBs_yes h1
theorem lfB_eq {P B : Int} (h0 : 0 ≤ B) (h1 : 2 * B * B < P) (h2 : B ≤ 10000) (h3 : B = 10000 ∨ P ≤ 2 * (B + 1) * (B + 1)) : lfB P = B := by
  obtain ⟨b, rfl⟩ := Int.eq_ofNat_of_zero_le h0
  unfold lfB
  rw [lfBs_eq h1 (by omega) (by
    rcases h3 with h3 | h3
    · exact .inl (by omega)
    · exact .inr h3)]

/-! ### What SolveByLifting answers -/
/-- The ratio for an unknown, and whether there is one. -/
noncomputable def slR (p : Int) (n : Nat) (xs bs : List Int) (i : Nat) : Int × Int × Bool := rtX ((lfS p n xs (ivX n n p xs).zs bs (lfK p)).1.getD i 0) (p ^ lfK p) (lfB (p ^ lfK p))
/-- The first ratios. -/
noncomputable def slZ (p : Int) (n : Nat) (xs bs : List Int) (i : Nat) : List (Int × Int) := (List.range i).map fun k => ((slR p n xs bs k).1, (slR p n xs bs k).2.1)
theorem slZ_length (p : Int) (n : Nat) (xs bs : List Int) (i : Nat) : (slZ p n xs bs i).length = i := by simp [slZ]
theorem slZ_succ (p : Int) (n : Nat) (xs bs : List Int) (i : Nat) : slZ p n xs bs (i + 1) = slZ p n xs bs i ++ [((slR p n xs bs i).1, (slR p n xs bs i).2.1)] := by simp [slZ, List.range_succ]
noncomputable def slQ (p : Int) (n : Nat) (xs bs : List Int) : List (Int × Int) × Bool := if ((List.range n).all (fun i => (slR p n xs bs i).2.2) && irB n n xs bs (slZ p n xs bs n)) = true then (slZ p n xs bs n, true) else ([], false)
theorem slQ_bad {p : Int} {n i : Nat} {xs bs : List Int} (hi : i < n) (h : (slR p n xs bs i).2.2 = false) : slQ p n xs bs = ([], false) := by
  unfold slQ
  refine if_neg fun h2 => ?_
  rw [Bool.and_eq_true, List.all_eq_true] at h2
  have := h2.1 i (List.mem_range.mpr hi)
  rw [h] at this; cases this
theorem slQ_ir {p : Int} {n : Nat} {xs bs : List Int} (h : irB n n xs bs (slZ p n xs bs n) = false) : slQ p n xs bs = ([], false) := by
  unfold slQ
  rw [h, Bool.and_false]; rfl
theorem slQ_yes {p : Int} {n : Nat} {xs bs : List Int} (h : ∀ i, i < n → (slR p n xs bs i).2.2 = true) (h2 : irB n n xs bs (slZ p n xs bs n) = true) : slQ p n xs bs = (slZ p n xs bs n, true) := by
  unfold slQ
  refine if_pos ?_
  rw [h2, Bool.and_true]
  exact List.all_eq_true.mpr fun i hi => h i (List.mem_range.mp hi)
theorem slQ_says {p : Int} {n : Nat} {xs bs : List Int} (h : (slQ p n xs bs).2 = true) : irB n n xs bs (slQ p n xs bs).1 = true := by
  by_cases hh : ((List.range n).all (fun i => (slR p n xs bs i).2.2) && irB n n xs bs (slZ p n xs bs n)) = true
  · unfold slQ
    rw [if_pos hh]
    rw [Bool.and_eq_true] at hh
    exact hh.2
  · unfold slQ at h; rw [if_neg hh] at h; cases h
open Classical in
/-- What SolveByLifting answers. -/
noncomputable def slX (r c : Int) (xs bs : List Int) : List (Int × Int) × Bool := if h : sysB r c xs bs = true ∧ ∃ p, LfP r c xs p then slQ h.2.choose r.toNat xs bs else ([], false)
theorem slX_sys {r c : Int} {xs bs : List Int} (h : sysB r c xs bs = false) : slX r c xs bs = ([], false) := by
  unfold slX
  exact dif_neg fun h2 => by rw [h] at h2; cases h2.1
theorem slX_none {r c : Int} {xs bs : List Int} (h : ∀ q, 101 ≤ q → q ≤ 199 → (ivX r c q xs).ok = false) : slX r c xs bs = ([], false) := by
  unfold slX
  refine dif_neg ?_
  rintro ⟨-, p, hp⟩
  have := h p hp.low hp.up
  rw [hp.inv] at this; cases this
theorem slX_at {n : Nat} {p : Int} {xs bs : List Int} (h : sysB n n xs bs = true) (hp : LfP n n xs p) : slX n n xs bs = slQ p n xs bs := by
  have hx : sysB n n xs bs = true ∧ ∃ p, LfP n n xs p := ⟨h, p, hp⟩
  unfold slX
  rw [dif_pos hx, hx.2.choose_spec.uniq hp]; rfl
theorem slX_says {r c : Int} {xs bs : List Int} (h : (slX r c xs bs).2 = true) : ∃ n : Nat, r = n ∧ c = n ∧ n ≤ 6 ∧ sysB r c xs bs = true ∧ det n (mxL n xs) ≠ 0 ∧ (slX r c xs bs).1.length = n ∧ irB r c xs bs (slX r c xs bs).1 = true := by
  cases hs : sysB r c xs bs with
  | false => rw [slX_sys hs] at h; cases h
  | true =>
    obtain ⟨n, rfl, rfl, h6, hl, hn, hb, hm⟩ := sysB_says hs
    by_cases hx : ∃ p, LfP n n xs p
    rotate_left
    · unfold slX at h
      rw [dif_neg fun h2 => hx h2.2] at h; cases h
    obtain ⟨p, hp⟩ := hx
    rw [slX_at hs hp] at h ⊢
    have hi := slQ_says h
    have hI : InvX p n (mxC n xs) (mxC n (ivL p n xs)) := by
      obtain ⟨m, hm, -, -, hpr, hl2, -, hge, -⟩ := ivX_says hp.inv
      obtain rfl : n = m := by omega
      exact (elW_inv (prmB_says hpr).1 hl2).2.1 (by omega)
    have hpr : Prm p := by
      obtain ⟨m, -, -, -, hpr, -⟩ := ivX_says hp.inv
      exact (prmB_says hpr).1
    refine ⟨n, rfl, rfl, h6, rfl, fun h0 => ?_, (irB_sol hi).1, hi⟩
    refine hI.ne hpr ?_
    show p ∣ det n (mxL n xs)
    rw [h0]; exact Int.dvd_zero p

/-! ### How long the lists are -/
theorem sd_max (r c : Int) (xs bs : List Int) : (sdX r c xs bs).1.length ≤ 6 := by
  cases h : (sdX r c xs bs).2 with
  | true =>
    obtain ⟨n, -, -, h6, -, -, -, l, -⟩ := sdX_says h
    omega
  | false =>
    unfold sdX at h ⊢
    split at h
    · cases h
    · rename_i h2
      rw [if_neg h2]; exact Nat.zero_le _
theorem se_max (r c : Int) (xs bs : List Int) : (seX r c xs bs).1.length ≤ 6 := by
  cases h : (seX r c xs bs).2 with
  | true =>
    obtain ⟨n, -, -, h6, -, l, -⟩ := seX_says h
    omega
  | false =>
    cases hs : sysB r c xs bs with
    | false => rw [seX_sys hs]; exact Nat.zero_le _
    | true =>
      obtain ⟨n, rfl, rfl, -⟩ := sysB_says hs
      cases he : echM n (n + 1) (wdL n xs bs) with
      | none => rw [seX_none hs he]; exact Nat.zero_le _
      | some p =>
        obtain ⟨ys, pv⟩ := p
        rw [seX_some hs he] at h ⊢
        by_cases hf : fullB n pv = true
        · rw [if_pos hf] at h; cases h
        · rw [if_neg hf]; exact Nat.zero_le _
theorem sl_max (r c : Int) (xs bs : List Int) : (slX r c xs bs).1.length ≤ 6 := by
  cases h : (slX r c xs bs).2 with
  | true =>
    obtain ⟨n, -, -, h6, -, -, l, -⟩ := slX_says h
    omega
  | false =>
    unfold slX at h ⊢
    split at h
    · rename_i h2
      rw [dif_pos h2]
      unfold slQ at h ⊢
      split at h
      · cases h
      · rename_i h3
        rw [if_neg h3]; exact Nat.zero_le _
    · rename_i h2
      rw [dif_neg h2]; exact Nat.zero_le _

/-! ### What the laws of chapter 11 ask -/
theorem sd_sl {r c : Int} {xs bs : List Int} (h1 : (sdX r c xs bs).2 = true) (h2 : (slX r c xs bs).2 = true) : (sdX r c xs bs).1 = (slX r c xs bs).1 := by
  obtain ⟨n, -, -, -, -, -, -, h3⟩ := slX_says h2
  exact sd_ir h1 h3
theorem se_sl {r c : Int} {xs bs : List Int} (h1 : (seX r c xs bs).2 = true) (h2 : (slX r c xs bs).2 = true) : (seX r c xs bs).1 = (slX r c xs bs).1 := by
  obtain ⟨n, rfl, rfl, -, -, hd, -, h3⟩ := slX_says h2
  exact se_ir hd h1 h3
end Go.Proofs.Ytcapddcmnjeloaa
end

section
/-
  Chapter 11: what a walk of SolveByLifting needs of its steps. Nothing of a program is used.
-/
namespace Go.Proofs.Ytcapddcmnjeloaa

/-- The first i of f, then those of g. -/
def twL (n : Nat) (f g : List Int) (i : Nat) : List Int := (List.range n).map fun a => if a < i then f.getD a 0 else g.getD a 0
theorem twL_length (n : Nat) (f g : List Int) (i : Nat) : (twL n f g i).length = n := by simp [twL]
theorem twL_at {n i a : Nat} {f g : List Int} (h : a < n) : (twL n f g i).getD a 0 = if a < i then f.getD a 0 else g.getD a 0 := by simp [twL, List.getD, h]
theorem twL_zero {n : Nat} {f g : List Int} (h : g.length = n) : twL n f g 0 = g := by
  refine List.ext_getElem (by rw [twL_length, h]) fun a h1 h2 => ?_
  simp [twL, List.getD, h2]
theorem twL_all {n : Nat} {f g : List Int} (h : f.length = n) : twL n f g n = f := by
  refine List.ext_getElem (by rw [twL_length, h]) fun a h1 h2 => ?_
  rw [twL_length] at h1
  simp [twL, List.getD, h1, h2]
theorem twL_set {n i : Nat} {f g : List Int} : (twL n f g i).set i (f.getD i 0) = twL n f g (i + 1) := by
  refine List.ext_getElem (by simp [twL]) fun a h1 h2 => ?_
  rw [twL_length] at h2
  by_cases hai : i = a
  · subst hai
    simp [twL]
  · rw [List.getElem_set_ne hai]
    simp only [twL, List.getElem_map, List.getElem_range]
    by_cases h3 : a < i
    · rw [if_pos h3, if_pos (by omega)]
    · rw [if_neg h3, if_neg (by omega)]
/-- What is subtracted from the rest, one product after the other. -/
def sF (n : Nat) (xs ds rs : List Int) (i j : Nat) : Int := rs.getD i 0 - sumN j fun k => mxC n xs i k * ds.getD k 0
theorem sF_zero (n : Nat) (xs ds rs : List Int) (i : Nat) : sF n xs ds rs i 0 = rs.getD i 0 := by
  show rs.getD i 0 - 0 = _
  omega
theorem sF_succ (n : Nat) (xs ds rs : List Int) (i j : Nat) : sF n xs ds rs i (j + 1) = sF n xs ds rs i j - xs.getD (i * n + j) 0 * ds.getD j 0 := by
  unfold sF
  show rs.getD i 0 - (sumN j _ + mxC n xs i j * ds.getD j 0) = _
  unfold mxC
  omega
/-- What all steps share. -/
structure LfH (p : Int) (n : Nat) (xs vs bs : List Int) : Prop where
  lo : 101 ≤ p
  hi : p ≤ 199
  h6 : n ≤ 6
  hx : xs.length = n * n
  nx : nums xs = true
  hb : bs.length = n
  nb : nums bs = true
  hv : vs.length = n * n
  can : CanL p vs
  inv : InvX p n (mxC n xs) (mxC n vs)
section
variable {p : Int} {n : Nat} {xs vs bs : List Int}
theorem LfH.of (hp : LfP n n xs p) (h6 : n ≤ 6) (hx : xs.length = n * n) (nx : nums xs = true) (hb : bs.length = n) (nb : nums bs = true) : LfH p n xs (ivL p n xs) bs ∧ ivX n n p xs = ⟨true, n, n, ivL p n xs⟩ := by
  obtain ⟨n', e1, e2, -, hp2, hx2, -, hl, e3, hv, hc⟩ := ivX_says hp.inv
  have : n' = n := by omega
  subst this
  refine ⟨⟨hp.low, hp.up, h6, hx, nx, hb, nb, hv, hc, ?_⟩, e3⟩
  obtain ⟨m, hm, -, -, hpr, hl2, -, hge, -⟩ := ivX_says hp.inv
  obtain rfl : n' = m := by omega
  exact (elW_inv (prmB_says hpr).1 hl2).2.1 (by omega)
theorem LfH.rest (H : LfH p n xs vs bs) (k : Nat) : (lfS p n xs vs bs k).2.length = n ∧ ∀ i, i < n → -2400000000 ≤ (lfS p n xs vs bs k).2.getD i 0 ∧ (lfS p n xs vs bs k).2.getD i 0 ≤ 2400000000 :=
  ⟨lfS_rl H.hb k, fun i hi => lf_small (by have := H.lo; omega) H.h6 H.hx H.nx H.hb H.nb H.inv k i hi⟩
theorem LfH.sums (H : LfH p n xs vs bs) (k : Nat) {i j : Nat} (hi : i < n) (hj : j ≤ n) : -1000000000000 ≤ sF n xs (solL p n vs (lfS p n xs vs bs k).2) (lfS p n xs vs bs k).2 i j ∧ sF n xs (solL p n vs (lfS p n xs vs bs k).2) (lfS p n xs vs bs k).2 i j ≤ 1000000000000 := by
  have h1 := (H.rest k).2 i hi
  have h2 := lf_sum (p := p) (vs := vs) (by have := H.lo; omega) H.hx H.nx (lfS p n xs vs bs k).2 hi hj
  have h3 : (j : Int) * (400000000 * (p - 1)) ≤ 6 * (400000000 * (p - 1)) := Int.mul_le_mul_of_nonneg_right (by have := H.h6; omega) (by have := H.lo; omega)
  have := H.hi
  unfold sF
  omega
theorem LfH.prod (H : LfH p n xs vs bs) (k : Nat) {i j : Nat} (hi : i < n) (hj : j < n) : -80000000000 ≤ xs.getD (i * n + j) 0 * (solL p n vs (lfS p n xs vs bs k).2).getD j 0 ∧ xs.getD (i * n + j) 0 * (solL p n vs (lfS p n xs vs bs k).2).getD j 0 ≤ 80000000000 := by
  have h1 := mx_nums H.hx H.nx hi hj
  have h2 := solL_can (p := p) (by have := H.lo; omega) (n := n) (vs := vs) (bs := (lfS p n xs vs bs k).2) hj
  have := H.hi
  have h3 := mul_abs (A := 400000000) (B := 200) h1 (show -200 ≤ (solL p n vs (lfS p n xs vs bs k).2).getD j 0 ∧ _ ≤ 200 by omega)
  unfold mxC at h3
  omega
theorem LfH.quo (H : LfH p n xs vs bs) (k : Nat) {i : Nat} (hi : i < n) : (sF n xs (solL p n vs (lfS p n xs vs bs k).2) (lfS p n xs vs bs k).2 i n).tdiv p = (lfS p n xs vs bs (k + 1)).2.getD i 0 := by
  rw [lfS_r]
  exact lf_tdiv H.inv _ hi
theorem LfH.next (H : LfH p n xs vs bs) {k : Nat} (hk : k < lfK p) {i : Nat} (hi : i < n) : (lfS p n xs vs bs (k + 1)).1.getD i 0 = (lfS p n xs vs bs k).1.getD i 0 + p ^ k * (solL p n vs (lfS p n xs vs bs k).2).getD i 0 ∧ (0 ≤ (lfS p n xs vs bs k).1.getD i 0 ∧ (lfS p n xs vs bs k).1.getD i 0 ≤ 400000000) ∧ (0 ≤ p ^ k * (solL p n vs (lfS p n xs vs bs k).2).getD i 0 ∧ p ^ k * (solL p n vs (lfS p n xs vs bs k).2).getD i 0 ≤ 400000000) ∧ (lfS p n xs vs bs (k + 1)).1.getD i 0 ≤ 400000000 := by
  have hp : 0 < p := by have := H.lo; omega
  have c0 := lf_can (bs := bs) hp H.inv k hi
  have c1 := lf_can (bs := bs) hp H.inv (k + 1) hi
  have n0 := lfK_num H.lo H.hi (k := k) (by omega)
  have n1 := lfK_num H.lo H.hi (k := k + 1) (by omega)
  have s := solL_can (p := p) hp (n := n) (vs := vs) (bs := (lfS p n xs vs bs k).2) hi
  have e : (lfS p n xs vs bs (k + 1)).1.getD i 0 = (lfS p n xs vs bs k).1.getD i 0 + p ^ k * (solL p n vs (lfS p n xs vs bs k).2).getD i 0 := by rw [lfS_x, nxX_at hi]
  have h0 := Int.mul_nonneg (show 0 ≤ p ^ k by omega) s.1
  exact ⟨e, ⟨c0.1, by omega⟩, ⟨h0, by omega⟩, by omega⟩
theorem LfH.pow (H : LfH p n xs vs bs) {k : Nat} (hk : k < lfK p) : p ^ k * p = p ^ (k + 1) ∧ 1 ≤ p ^ (k + 1) ∧ p ^ (k + 1) ≤ 400000000 := ⟨(Int.pow_succ p k).symm, lfK_num H.lo H.hi (by omega)⟩
end
end Go.Proofs.Ytcapddcmnjeloaa
end

section
/-
  Plain mathematics of chapter 11: a product modulo p and the steps of lifting, as the program makes them.
-/
namespace Go.Proofs.Ytcapddcmnjeloaa

/-- One summand of a product modulo p, where the column is no residue. -/
theorem svF_go {p : Int} (hp : 0 < p) (n : Nat) (vs bs : List Int) (i j : Nat) : Int.tmod (svF p n vs bs i j + Int.tmod (vs.getD (i * n + j) 0 * bs.getD j 0) p + p) p = svF p n vs bs i (j + 1) := by
  obtain ⟨h1, h2⟩ := svF_can hp n vs bs i j
  rw [svF_step]
  have e := Int.mul_tdiv_add_tmod (vs.getD (i * n + j) 0 * bs.getD j 0) p
  have l1 : -p < Int.tmod (vs.getD (i * n + j) 0 * bs.getD j 0) p ∧ Int.tmod (vs.getD (i * n + j) 0 * bs.getD j 0) p < p := ⟨Int.lt_tmod_of_pos _ hp, Int.tmod_lt_of_pos _ hp⟩
  rw [Int.tmod_eq_emod_of_nonneg (by omega)]
  refine Cg.emod_eq hp ?_
  have c1 : Cg p (Int.tmod (vs.getD (i * n + j) 0 * bs.getD j 0) p) (vs.getD (i * n + j) 0 * bs.getD j 0) := ⟨-(Int.tdiv (vs.getD (i * n + j) 0 * bs.getD j 0) p), by rw [Int.mul_neg]; omega⟩
  have c2 : Cg p (vs.getD (i * n + j) 0 * (bs.getD j 0 % p)) (vs.getD (i * n + j) 0 * bs.getD j 0) := (Cg.emod p _).mul_left _
  have c3 : Cg p (svF p n vs bs i j + Int.tmod (vs.getD (i * n + j) 0 * bs.getD j 0) p + p) (svF p n vs bs i j + Int.tmod (vs.getD (i * n + j) 0 * bs.getD j 0) p) := ⟨1, by omega⟩
  exact c3.trans ((Cg.refl p _).add (c1.trans c2.symm))
/-- The rests: the rows ahead of row i are done, of row i j products are subtracted. -/
def rtL (n : Nat) (xs ds rs new : List Int) (i j : Nat) : List Int := (twL n new rs i).set i (sF n xs ds rs i j)
section
variable {n i j : Nat} {xs ds rs new : List Int}
theorem rtL_length : (rtL n xs ds rs new i j).length = n := by simp [rtL, twL_length]
theorem rtL_at (hi : i < n) : (rtL n xs ds rs new i j).getD i 0 = sF n xs ds rs i j := by
  simp [rtL, List.getD, twL_length, hi]
theorem rtL_zero : rtL n xs ds rs new i 0 = twL n new rs i := by
  unfold rtL
  rw [sF_zero]
  refine List.ext_getElem (by simp) fun a h1 h2 => ?_
  by_cases e : i = a
  · subst e
    rw [List.getElem_set_self]
    simp [twL]
  · rw [List.getElem_set_ne e]
theorem rtL_set : (rtL n xs ds rs new i j).set i (sF n xs ds rs i (j + 1)) = rtL n xs ds rs new i (j + 1) := by
  unfold rtL
  rw [List.set_set]
theorem rtL_end : (rtL n xs ds rs new i j).set i (new.getD i 0) = twL n new rs (i + 1) := by
  unfold rtL
  rw [List.set_set]
  exact twL_set
end
/-- The power is at most the quotient: a step is made. -/
theorem lf_goP {p P : Int} (h1 : 101 ≤ p) (h2 : p ≤ 199) : P ≤ Int.tdiv 400000000 p ↔ LfGo p P := by
  have e : Int.tdiv 400000000 p = 400000000 / p := Int.tdiv_eq_ediv_of_nonneg (by decide)
  have b : 400000000 / p ≤ 200000000 := by
    have : 400000000 / p < 200000001 := Int.ediv_lt_of_lt_mul (by omega) (by omega)
    omega
  rw [e]
  unfold LfGo
  constructor
  · intro h; exact ⟨by omega, h⟩
  · intro h; exact h.2
end Go.Proofs.Ytcapddcmnjeloaa
end

section
/-
  The builtin copy over ints in memory; rows laid over rows. No function of the program is named.
-/
namespace Go.Proofs.Ytcapddcmnjeloaa
set_option maxRecDepth 100000
open Go.RowKit

theorem getD_three {A B C : List Int} {s m k : Nat} (ha : A.length = s) (hb : B.length = m) : (A ++ B ++ C).getD k 0 = if k < s then A.getD k 0 else if k < s + m then B.getD (k - s) 0 else C.getD (k - s - m) 0 := by
  subst ha hb
  simp only [List.getD, List.getElem?_append, List.length_append]
  by_cases h1 : k < A.length
  · rw [if_pos h1, if_pos (by omega), if_pos h1]
  · rw [if_neg h1]
    by_cases h2 : k < A.length + B.length
    · rw [if_pos h2, if_pos h2, if_neg h1]
    · rw [if_neg h2, if_neg h2, if_neg h1]; try rw [Nat.sub_add_eq]
/-- A row laid over a part of row i of a table. -/
theorem splice_tab {r c i o m : Nat} {f g : Nat → Nat → Int} {ys : List Int} (hi : i < r) (ho : o + m ≤ c) (hy : ys.length = m) (h1 : ∀ b, o ≤ b → b < o + m → g i b = ys.getD (b - o) 0) (h2 : ∀ a b, a < r → b < c → ¬ (a = i ∧ o ≤ b ∧ b < o + m) → g a b = f a b) :
    (tab r c f).take (i * c + o) ++ ys ++ (tab r c f).drop (i * c + o + m) = tab r c g := by
  have hic : i * c + c ≤ r * c := by rw [← Nat.succ_mul]; exact Nat.mul_le_mul_right _ hi
  have lt : ((tab r c f).take (i * c + o)).length = i * c + o := by rw [List.length_take, tab_length]; omega
  refine tab_ext (by rw [List.length_append, List.length_append, lt, hy, List.length_drop, tab_length]; omega) fun a b ha hb => ?_
  rw [getD_three lt hy]
  have hk := idx_lt (r := r) ha hb
  by_cases e : a = i
  · subst e
    by_cases hb1 : b < o
    · rw [if_pos (by omega), h2 a b ha hb (by omega), ← tab_at r c f ha hb]
      simp only [List.getD]
      rw [List.getElem?_take, if_pos (by omega)]
    · by_cases hb2 : b < o + m
      · rw [if_neg (by omega), if_pos (by omega), h1 b (by omega) hb2]
        congr 1; omega
      · rw [if_neg (by omega), if_neg (by omega), h2 a b ha hb (by omega), ← tab_at r c f ha hb]
        simp only [List.getD]
        rw [List.getElem?_drop]
        congr 2; omega
  · rw [h2 a b ha hb (by omega), ← tab_at r c f ha hb]
    rcases Nat.lt_or_ge a i with h3 | h3
    · have : a * c + c ≤ i * c := by rw [← Nat.succ_mul]; exact Nat.mul_le_mul_right _ h3
      rw [if_pos (by omega)]
      simp only [List.getD]
      rw [List.getElem?_take, if_pos (by omega)]
    · have : i * c + c ≤ a * c := by rw [← Nat.succ_mul]; exact Nat.mul_le_mul_right _ (by omega)
      rw [if_neg (by omega), if_neg (by omega)]
      simp only [List.getD]
      rw [List.getElem?_drop]
      congr 2; omega
theorem wdTo_lay {p : Int} {n : Nat} {xs ys : List Int} {i : Nat} (hi : i < n) (hy : ys.length = n) (h : ∀ b, b < n → ys.getD b 0 = (resL p xs).getD (i * n + b) 0) : (wdTo p n xs i 0).take (i * (2 * n)) ++ ys ++ (wdTo p n xs i 0).drop (i * (2 * n) + n) = wdTo p n xs i n := by
  refine splice_tab (o := 0) hi (by omega) hy (fun b _ hb => ?_) fun a b ha hb hn => ?_
  · rw [if_pos (by omega), h (b - 0) (by omega)]
    unfold wdF
    rw [if_pos (by omega)]; rfl
  · by_cases h1 : a < i ∨ (a = i ∧ b < 0)
    · rw [if_pos h1, if_pos (by omega)]
    · rw [if_neg h1, if_neg (by omega)]
theorem hfTo_lay {n : Nat} {zs ys : List Int} {i : Nat} (hi : i < n) (hy : ys.length = n) (h : ∀ b, b < n → ys.getD b 0 = zs.getD (i * (2 * n) + (n + b)) 0) : (hfTo n zs i 0).take (i * n) ++ ys ++ (hfTo n zs i 0).drop (i * n + n) = hfTo n zs (i + 1) 0 := by
  refine splice_tab (o := 0) hi (by omega) hy (fun b _ hb => ?_) fun a b ha hb hn => ?_
  · rw [if_pos (by omega), h (b - 0) (by omega)]; rfl
  · by_cases h1 : a < i ∨ (a = i ∧ b < 0)
    · rw [if_pos h1, if_pos (by omega)]
    · rw [if_neg h1, if_neg (by omega)]
/-- copy of ints that are read onto ints of a known block. -/
theorem copyInts (w : World) (g off dLen dCap m sCap : Nat) (sp : Option Addr) (zs ys : List Int) (hi : Ints w g zs) (h : Rd w sp ys) (hy : ys.length = m) (hm : 0 < m) (hd : m ≤ dLen) (hfit : off + m ≤ zs.length) (ty : TypeId) :
    ∃ w', (Builtin.copy_ #[24, 24] ty #[.slice (some ⟨g, off, none⟩) dLen dCap, .slice sp m sCap]).run Try.prog w = .ok (goInt m) w' ∧ Ints w' g (zs.take off ++ ys ++ zs.drop (off + m)) ∧ w.grownBy w' (some g) := by
  obtain ⟨gs, os, rfl⟩ := h.addr (by omega)
  obtain ⟨rest, hg⟩ := hi
  obtain ⟨fi, hfi, hz0, hz1, hz2⟩ := facts_int
  have hsz : (Try.prog.info? 3).map (·.size) = some 1 := by rw [hfi]; simp [hz1]
  have hl : (ys.map (Value.int .i64)).length = m := by rw [List.length_map, hy]
  have news : ∀ (j : Nat) v, (ys.map (Value.int .i64))[j]? = some v → w.cell? ((⟨gs, os, none⟩ : Addr).add j) = some v := by
    intro j u hu
    rw [List.getElem?_map] at hu
    obtain ⟨z, hz, rfl⟩ := Option.map_eq_some_iff.mp hu
    obtain ⟨h1, h2⟩ := List.getElem?_eq_some_iff.mp hz
    obtain ⟨b', o', e, hc⟩ := h j h1
    injection e with e
    injection e with e1 e2
    subst e1 e2
    rw [show (⟨gs, os, none⟩ : Addr).add j = ⟨gs, os + j, none⟩ by simp only [Addr.add]; split <;> simp_all, hc]
    simp [List.getD, hz]
  have hrun := run_copy_row (P := Try.prog) w 24 24 ty 3 g off dLen dCap ⟨gs, os, none⟩ m sCap _ 3 (ys.map (Value.int .i64)) Try.underlying24 hsz hg (by rw [hl]; show m = min m dLen; omega) news (by rw [hl]; simp; omega) (fun v hv => by
    obtain ⟨z, -, rfl⟩ := List.mem_map.mp hv
    rfl)
  rw [hl] at hrun
  refine ⟨_, hrun, ⟨rest, ?_⟩, ⟨rfl, rfl, rfl, by simp [World.setRow], fun k hk hne => setRow_other w g k _ (fun e => hne (by rw [e]))⟩⟩
  rw [setRow_heap w g _ _ 3 _ hg]
  congr 2
  simp only [List.map_append, List.map_take, List.map_drop, List.append_assoc]
  rw [List.take_append_of_le_length (by rw [List.length_map]; omega), List.drop_append_of_le_length (by rw [List.length_map]; omega)]
theorem step_copy {P : Program} {ops : Array Oper} {o : Oper} {a : Act} {w : World} {K : Act → World → Prop} {Q : Exit → Act → World → Prop} {E : Prop}
    (hg : o.guard = none) (s x : Operand) (t : TypeId) (hop : o.op = Op.call { callee := Callee.builtin Builtin.copy, args := #[s, x], argTypes := #[t, t] }) (v1 v2 : Value) (hs : a.eval s = v1) (hx : a.eval x = v2) (v' : Value) (w' : World)
    (hr : (Builtin.copy_ #[t, t] o.type #[v1, v2]).run P w = .ok v' w') (hK : K (a.put o.dst v') w') : if Region.wanted o (yielded ops a.tmps) = true then Oper.wp P o a w K Q else E := by
  have hw : Region.wanted o (yielded ops a.tmps) = true := by simp [Region.wanted, hg]
  rw [if_pos hw]
  unfold Oper.wp
  simp [execOp, hop, resolve, invoke, builtin, hs, hx, hr, Result.andThen]
  exact hK
theorem wpList_copyR {P : Program} {w : World} {ops : Array Oper} {rest : List Oper} {o : Oper} {a : Act} {Q : Exit → Act → World → Prop} (hgd : o.guard = none) (d s : Operand) (t : TypeId)
    (ho : o.op = .call { callee := .builtin .copy, args := #[d, s], argTypes := #[t, t] }) (v1 v2 : Value) (hd : a.eval d = v1) (hs : a.eval s = v2) (v' : Value) (w' : World) (hr : (Builtin.copy_ #[t, t] o.type #[v1, v2]).run P w = .ok v' w')
    (h : wpList P ops Q rest (a.put o.dst v') w') : wpList P ops Q (o :: rest) a w := by
  refine wpList_plain hgd fun K hK => ?_
  unfold Oper.wp
  simp [execOp, ho, resolve, invoke, builtin, hd, hs, hr, Result.andThen]
  exact hK _ _ h
end Go.Proofs.Ytcapddcmnjeloaa
end
