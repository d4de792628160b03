/-
  Texts of this seat, joined: ZASmS2 · ZASmS1 · ZANumFloor · ZANumDiv · ZASmW · ZASmS3 · ZASmS4 · ZAHmV · ZAFr · ZADraw3 · ZADraw4 · ZAAnyM · ZADraw9 · ZAHmX
-/
import Derived.Test.YtpelnfenfeoeeaaRows
import Derived.WalkKit
import Derived.BigQuiet
import Derived.Deep.QuietTactic
import Derived.Lib.Hide
import Derived.Deep.LoopGhost
import Derived.Deep.CutBlock
import Derived.Deep.DeepCutAuto
import Derived.Deep.RegionHeld3
import Derived.StillTailTactics
import Derived.IntWalk
import Derived.Test.YtpelnfenfeoeeaaPk24
import Derived.Test.YtpelnfenfeoeeaaPk25
import Derived.Test.YtpelnfenfeoeeaaPk27
import Derived.Test.YtpelnfenfeoeeaaPk28

section
/-
  Chapter 13, in the model: the least place.
-/
namespace Go.Proofs.Ytpelnfenfeoeeaa
set_option maxRecDepth 100000
open Go.RowKit
set_option maxHeartbeats 4000000 in
theorem sLeast2 (R C : Nat) (a : Option Addr) (n m t : Nat) (s : SSt) (w : World) (h : Rd w a s.1) (hx : s.1.length = n) (hn : n = R * C) (hR : R ≤ 24) (hC : C ≤ 24) (htR : t < R) (htC : t < C) (ho : nums s.1 = true) :
    Calls Try.prog 107 #[.agg #[.int .i64 R, .int .i64 C, .slice a n m], .int .i64 t] w (Gives (.tuple #[.int .i64 (plR C t (plL C t s ((R - t) * (C - t)))), .int .i64 (plC C t (plL C t s ((R - t) * (C - t))))]) w) := by
  have K0 : Hid (Blk3 (w.alloc (.cells #[.int .i64 R, .int .i64 C, .slice a n m] 26)) w.heap.size 26 (.int .i64 R) (.int .i64 C) (.slice a n m)) := Blk3.at_ _ _ _ _ rfl
  have B0 : Hid (Below w.heap.size w (w.alloc (.cells #[.int .i64 R, .int .i64 C, .slice a n m] 26))) := (Below.refl _ _).alloc (Nat.le_refl _) _
  have CE : Hid (∀ i j w', i < R → j < C → Below w.heap.size w w' → Calls Try.prog 63 #[.agg #[.int .i64 R, .int .i64 C, .slice a n m], .int .i64 i, .int .i64 j] w' (Gives (.int .i64 (cel3S C s i j)) w')) := fun i j w' hi hj hb => sCel R C a n m i j s.1 w' (h.below hb) hx hn hR hC hi hj
  have NU : Hid (∀ i j, NumP (cel3S C s i j)) := fun i j => nums_def ho _
  have KEEP : Hid (∀ a b, b < C - t → (cel3S C s (t + a) (t + b) = 0 ∨ (¬ plL C t s (a * (C - t) + b) < 0 ∧ ¬ (cel3S C s (t + a) (t + b)).natAbs < (plF C t s (plL C t s (a * (C - t) + b)).toNat).natAbs)) → plL C t s (a * (C - t) + (b + 1)) = plL C t s (a * (C - t) + b)) := fun a b hb h => pl_keep hb h
  have NEW : Hid (∀ a b, b < C - t → cel3S C s (t + a) (t + b) ≠ 0 → (plL C t s (a * (C - t) + b) < 0 ∨ (cel3S C s (t + a) (t + b)).natAbs < (plF C t s (plL C t s (a * (C - t) + b)).toNat).natAbs) → plR C t (plL C t s (a * (C - t) + (b + 1))) = ((t + a : Nat) : Int) ∧ plC C t (plL C t s (a * (C - t) + (b + 1))) = ((t + b : Nat) : Int)) := fun a b hb h0 h => by
    obtain ⟨e1, e2, e3⟩ := pl_new hb h0 h
    rw [e1]; exact ⟨e2, e3⟩
  have PIN : Hid (∀ a b, a < R - t → b ≤ C - t → ¬ plL C t s (a * (C - t) + b) < 0 → ∃ i j : Nat, plR C t (plL C t s (a * (C - t) + b)) = i ∧ plC C t (plL C t s (a * (C - t) + b)) = j ∧ i < R ∧ j < C ∧ cel3S C s i j = plF C t s (plL C t s (a * (C - t) + b)).toNat) := fun a b ha hb h => by
    obtain ⟨i, j, h1, h2, -, h4, -, h6, h7⟩ := pl_in (R := R) ha hb rfl h
    exact ⟨i, j, h1, h2, h4, h6, h7⟩
  have NEG : Hid (∀ m, plL C t s m < 0 → plR C t (plL C t s m) = -1) := fun m h => by unfold plR; rw [if_pos h]
  have ZR : Hid (plR C t (plL C t s (0 * (C - t))) = -1 ∧ plC C t (plL C t s (0 * (C - t))) = -1) := by rw [Nat.zero_mul]; exact plR_none C t
  obtain ⟨W, hW⟩ : ∃ W, C - t = W := ⟨_, rfl⟩
  obtain ⟨f, hf⟩ : ∃ f : Nat → Int, plL C t s = f := ⟨_, rfl⟩
  obtain ⟨r, hr⟩ : ∃ r : Int → Int, plR C t = r := ⟨_, rfl⟩
  obtain ⟨c, hc⟩ : ∃ c : Int → Int, plC C t = c := ⟨_, rfl⟩
  obtain ⟨y, hy⟩ : ∃ y : Nat → Int, plF C t s = y := ⟨_, rfl⟩
  obtain ⟨g, hg⟩ : ∃ g : Nat → Nat → Int, cel3S C s = g := ⟨_, rfl⟩
  rw [hW, hf, hr, hc] at ZR ⊢
  rw [hf, hr] at NEG
  rw [hW, hf, hy, hg] at KEEP
  rw [hW, hf, hy, hr, hc, hg] at NEW
  rw [hW, hf, hy, hr, hc, hg] at PIN
  rw [hg] at CE NU
  have WC := Lib.hid hW
  clear h hx hn ho hf hr hc hy hg hW
  go_enter Try.func107, Try.ntmps107
  go_wp2_with fail
  go_loopw [6, 7, 8, 9, 10] (fun v6 v7 v8 _ _ wr => ∃ a0 : Nat, v6 = .int .i64 (r (f (a0 * W))) ∧ v7 = .int .i64 (c (f (a0 * W))) ∧ v8 = .int .i64 ((t + a0 : Nat) : Int) ∧ t + a0 ≤ R ∧ Blk3 wr w.heap.size 26 (.int .i64 R) (.int .i64 C) (.slice a n m) ∧ Below w.heap.size w wr) (fun _ _ v8 _ _ _ => R - (intOf v8).toNat)
  case atStart => exact ⟨0, by rw [ZR.out.1], by rw [ZR.out.2], rfl, by omega, K0.out, B0.out⟩
  case round =>
    clear K0 B0 ZR
    obtain ⟨a', rfl, rfl, rfl, ha, hK, hB⟩ := hrel
    have K := Lib.hid hK
    have B := Lib.hid hB
    clear hK hB
    obtain ⟨p0, p1, p2, -, -, -⟩ := K.out.all
    by_cases hlt : t + a' < R
    · obtain ⟨T, hT⟩ : ∃ T, t + a' = T := ⟨_, rfl⟩
      have ET := Lib.hid hT
      rw [hT] at hlt ⊢
      clear hT
      go_wp2_with fail
      clear p0 p1 p2
      go_loopw [6, 7, 9, 10] (fun v6 v7 v9 _ wr => ∃ b : Nat, v6 = .int .i64 (r (f (a' * W + b))) ∧ v7 = .int .i64 (c (f (a' * W + b))) ∧ v9 = .int .i64 ((t + b : Nat) : Int) ∧ t + b ≤ C ∧ Blk3 wr w.heap.size 26 (.int .i64 R) (.int .i64 C) (.slice a n m) ∧ Below w.heap.size w wr) (fun _ _ v9 _ _ => C - (intOf v9).toNat)
      case atStart => exact ⟨0, rfl, rfl, rfl, by omega, K.out, B.out⟩
      case round =>
        clear K B
        obtain ⟨b, rfl, rfl, rfl, hb, hK, hB⟩ := hrel
        have K := Lib.hid hK
        have B := Lib.hid hB
        clear hK hB
        obtain ⟨p0, p1, p2, -, -, -⟩ := K.out.all
        by_cases hltC : t + b < C
        · have hbW : b < W := by have := WC.out; omega
          have haR : a' < R - t := by have := ET.out; omega
          have KE := Lib.hid (KEEP.out a' b hbW)
          have NE := Lib.hid (NEW.out a' b hbW)
          have PI := Lib.hid (PIN.out a' b haR (by omega))
          have NG := Lib.hid (NEG.out (a' * W + b))
          rw [ET.out] at KE NE
          have NX := NU.out T (t + b)
          have CX := Lib.hid (CE.out T (t + b) wr hlt hltC B.out)
          obtain ⟨U, hU⟩ : ∃ U, t + b = U := ⟨_, rfl⟩
          have EU := Lib.hid hU
          rw [hU] at KE NE NX CX hltC ⊢
          obtain ⟨L, hL⟩ : ∃ L, f (a' * W + b) = L := ⟨_, rfl⟩
          rw [hL] at KE NE PI NG ⊢
          have EL := Lib.hid hL
          obtain ⟨x, hx⟩ : ∃ x, g T U = x := ⟨_, rfl⟩
          rw [hx] at KE NE NX CX
          clear hL hx hU hbW haR
          obtain ⟨x1, x2⟩ := NX
          have AX : Hid (∀ w', Calls Try.prog 100 #[.int .i64 x] w' (Gives (.int .i64 (x.natAbs : Int)) w')) := fun w' => sAbsN x w' (by omega) (by omega)
          obtain ⟨ax, hax⟩ : ∃ z : Int, (x.natAbs : Int) = z := ⟨_, rfl⟩
          rw [hax] at AX
          go_wp2_with fail
          refine CX.out.mono ?_
          rintro e w3 ⟨rfl, hb3⟩
          have K3 := Lib.hid (K.out.step hb3)
          have B3 := Lib.hid (B.out.trans (hb3.mono B.out.size))
          clear hb3 CX p0 p1 p2 K B
          go_wp2_with fail
          refine (AX.out _).mono ?_
          rintro e w4 ⟨rfl, hb4⟩
          have K := Lib.hid (K3.out.step hb4)
          have B := Lib.hid (B3.out.trans (hb4.mono B3.out.size))
          clear hb4 AX K3 B3
          obtain ⟨p0, p1, p2, -, -, -⟩ := K.out.all
          by_cases hx0 : x = 0
          · have n1 : (ax != 0) = false := by simp; omega
            have LE := Lib.hid (KE.out (.inl hx0))
            clear hx0 hax
            go_wp2_with fail
            go_roundw
            case rel => exact ⟨b + 1, by rw [LE.out], by rw [LE.out], by rw [← Nat.add_assoc, EU.out]; go_num, by have := EU.out; omega, K.out, B.out⟩
            case measure => simp [intOf]; omega
          have n1 : (ax != 0) = true := by simp; omega
          by_cases hL0 : L < 0
          · have LE := Lib.hid (NE.out hx0 (.inl hL0))
            rw [NG.out hL0]
            clear hx0 hax hL0
            go_wp2_with fail
            go_roundw
            case rel => exact ⟨b + 1, by rw [LE.out.1], by rw [LE.out.2], by rw [← Nat.add_assoc, EU.out]; go_num, by have := EU.out; omega, K.out, B.out⟩
            case measure => simp [intOf]; omega
          obtain ⟨i, j, h1, h2, hi, hj, hv⟩ := PI.out (by omega)
          have NY := NU.out i j
          have CY := Lib.hid (CE.out i j w4 hi hj B.out)
          rw [hv] at NY CY
          have E1 := Lib.hid h1
          have E2 := Lib.hid h2
          rw [h1, h2]
          obtain ⟨z, hz⟩ : ∃ z, y L.toNat = z := ⟨_, rfl⟩
          rw [hz] at NY CY KE NE
          obtain ⟨y1, y2⟩ := NY
          have AY : Hid (∀ w', Calls Try.prog 100 #[.int .i64 z] w' (Gives (.int .i64 (z.natAbs : Int)) w')) := fun w' => sAbsN z w' (by omega) (by omega)
          obtain ⟨az, haz⟩ : ∃ u : Int, (z.natAbs : Int) = u := ⟨_, rfl⟩
          rw [haz] at AY
          have n2 : ¬ (i : Int) < 0 := by omega
          by_cases hlt2 : x.natAbs < z.natAbs
          · have LE := Lib.hid (NE.out hx0 (.inr hlt2))
            have n3 : ax < az := by omega
            clear hx0 hax haz hL0 hlt2 h1 h2 hv hz
            go_wp2_with fail
            refine CY.out.mono ?_
            rintro e w5 ⟨rfl, hb5⟩
            have K5 := Lib.hid (K.out.step hb5)
            have B5 := Lib.hid (B.out.trans (hb5.mono B.out.size))
            clear hb5 CY p0 p1 p2 K B
            go_wp2_with fail
            refine (AY.out _).mono ?_
            rintro e w6 ⟨rfl, hb6⟩
            have K := Lib.hid (K5.out.step hb6)
            have B := Lib.hid (B5.out.trans (hb6.mono B5.out.size))
            clear hb6 AY K5 B5
            go_wp2_with fail
            go_roundw
            case rel => exact ⟨b + 1, by rw [LE.out.1], by rw [LE.out.2], by rw [← Nat.add_assoc, EU.out]; go_num, by have := EU.out; omega, K.out, B.out⟩
            case measure => simp [intOf]; omega
          · have LE := Lib.hid (KE.out (.inr ⟨by omega, by omega⟩))
            have n3 : ¬ ax < az := by omega
            clear hx0 hax haz hL0 hlt2 h1 h2 hv hz
            go_wp2_with fail
            refine CY.out.mono ?_
            rintro e w5 ⟨rfl, hb5⟩
            have K5 := Lib.hid (K.out.step hb5)
            have B5 := Lib.hid (B.out.trans (hb5.mono B.out.size))
            clear hb5 CY p0 p1 p2 K B
            go_wp2_with fail
            refine (AY.out _).mono ?_
            rintro e w6 ⟨rfl, hb6⟩
            have K := Lib.hid (K5.out.step hb6)
            have B := Lib.hid (B5.out.trans (hb6.mono B5.out.size))
            clear hb6 AY K5 B5
            go_wp2_with fail
            go_roundw
            case rel => exact ⟨b + 1, by rw [LE.out, E1.out], by rw [LE.out, E2.out], by rw [← Nat.add_assoc, EU.out]; go_num, by have := EU.out; omega, K.out, B.out⟩
            case measure => simp [intOf]; omega
        · have hbe : b = W := by have := WC.out; omega
          have SE : Hid (a' * W + b = (a' + 1) * W) := by refine Lib.hid ?_; rw [hbe, Nat.succ_mul]
          clear hbe
          go_wp2_with fail
          go_roundw
          case rel => exact ⟨a' + 1, by rw [SE.out], by rw [SE.out], by rw [← Nat.add_assoc, ET.out]; go_num, by have := ET.out; omega, K.out, B.out⟩
          case measure => simp [intOf]; omega
    · have SE : Hid (a' = R - t) := by show _ = _; omega
      go_wp2_with fail
      refine bodyPost_ret (v := .tuple #[.int .i64 (r (f (a' * W))), .int .i64 (c (f (a' * W)))]) (by simp [results, Try.results107, go_sem]) rfl ⟨?_, B.out⟩
      rw [SE.out]
end Go.Proofs.Ytpelnfenfeoeeaa
end

section
/-
  Chapter 13, in the model: an operation on columns, in place.
-/
namespace Go.Proofs.Ytpelnfenfeoeeaa
set_option maxRecDepth 100000
open Go.RowKit
set_option maxHeartbeats 4000000 in
theorem sColZ (S R C Iq J g n cap : Nat) (k t : Int) (xs : List Int) (w : World) (hi : IntsZ S w g xs) (hx : xs.length = n) (hn : n = R * C) (hR : R ≤ 24) (hC : C ≤ 24) (hI : Iq < C) (hJ : J < C) (hk : k = 0 ∨ k = 2) (hIJ : k = 0 → Iq ≠ J) :
    Calls Try.prog 109 #[.agg #[.int .i64 R, .int .i64 C, .slice (some ⟨g, 0, none⟩) n cap], .agg #[.int .i64 k, .int .i64 Iq, .int .i64 J, .int .i64 t]] w (fun e w' => Void e ∧ IntsZ S w' g (colL k Iq J t C xs) ∧ w.grownBy w' (some g)) := by
  have hle : R * C ≤ 24 * 24 := Nat.mul_le_mul hR hC
  have I0 := Lib.hid hi
  have HX := Lib.hid hx
  have HN := Lib.hid hn
  have HIJ := Lib.hid hIJ
  have gl := hi.lt
  rw [← hn] at hle
  have K0 : Hid (Blk3 ((w.alloc (.cells #[.int .i64 R, .int .i64 C, .slice (some ⟨g, 0, none⟩) n cap] 26)).alloc (.cells #[.int .i64 k, .int .i64 Iq, .int .i64 J, .int .i64 t] 97)) w.heap.size 26 (.int .i64 R) (.int .i64 C) (.slice (some ⟨g, 0, none⟩) n cap)) := (Blk3.at_ _ _ _ _ rfl).old _
  have K1 : Hid (Blk4 ((w.alloc (.cells #[.int .i64 R, .int .i64 C, .slice (some ⟨g, 0, none⟩) n cap] 26)).alloc (.cells #[.int .i64 k, .int .i64 Iq, .int .i64 J, .int .i64 t] 97)) (w.heap.size + 1) 97 (.int .i64 k) (.int .i64 Iq) (.int .i64 J) (.int .i64 t)) := Blk4.at_ _ _ _ _ _ (by simp)
  have I1 : Hid (IntsZ S ((w.alloc (.cells #[.int .i64 R, .int .i64 C, .slice (some ⟨g, 0, none⟩) n cap] 26)).alloc (.cells #[.int .i64 k, .int .i64 Iq, .int .i64 J, .int .i64 t] 97)) g xs) := (hi.old _).old _
  have G0 : Hid (w.grownBy ((w.alloc (.cells #[.int .i64 R, .int .i64 C, .slice (some ⟨g, 0, none⟩) n cap] 26)).alloc (.cells #[.int .i64 k, .int .i64 Iq, .int .i64 J, .int .i64 t] 97)) (some g)) := (World.grownBy_alloc w _ _).trans (World.grownBy_alloc _ _ _)
  clear hi hx hn hIJ
  go_enter Try.func109, Try.ntmps109
  go_wp2_with fail
  go_loopw [4, 5, 6] (fun i _ _ wr => ∃ q : Nat, i = .int .i64 q ∧ q ≤ R ∧ IntsZ S wr g (clTo k Iq J t C xs q) ∧ ((w.alloc (.cells #[.int .i64 R, .int .i64 C, .slice (some ⟨g, 0, none⟩) n cap] 26)).alloc (.cells #[.int .i64 k, .int .i64 Iq, .int .i64 J, .int .i64 t] 97)).grownBy wr (some g)) (fun i _ _ _ => R - (intOf i).toNat)
  case atStart => exact ⟨0, rfl, by omega, by rw [clTo_zero]; exact I1.out, World.grownBy.refl _ _⟩
  case round =>
    obtain ⟨q, rfl, hq, hi, hgr⟩ := hrel
    have I := Lib.hid hi
    have G := Lib.hid hgr
    have GW := Lib.hid (G0.out.trans hgr)
    clear hi hgr
    have R0 := Lib.hid (K0.out.keepOne G.out (by omega))
    have R1 := Lib.hid (K1.out.keepOne G.out (by omega))
    obtain ⟨r0, r1, r2, -, -, -⟩ := R0.out.all
    obtain ⟨o0, o1, o2, o3⟩ := R1.out.all
    by_cases hlt : q < R
    · have a1 : q * C + Iq < n := by rw [HN.out]; exact idx_lt hlt hI
      have a2 : q * C + J < n := by rw [HN.out]; exact idx_lt hlt hJ
      have c1 : (q : Int) * (C : Int) = ((q * C : Nat) : Int) := (Int.natCast_mul _ _).symm
      have c2 : (q : Int) * (C : Int) = ((q * C : Nat) : Int) := (Int.natCast_mul _ _).symm
      have d1 : 0 ≤ (q : Int) * (C : Int) ∧ (q : Int) * (C : Int) ≤ 600 := by rw [c1]; omega
      have d2 : 0 ≤ (q : Int) * (C : Int) ∧ (q : Int) * (C : Int) ≤ 600 := by rw [c2]; omega
      have e1 : 0 ≤ (q : Int) * (C : Int) + (Iq : Int) := by omega
      have e2 : (q : Int) * (C : Int) + (Iq : Int) < (n : Int) := by rw [c1]; omega
      have e3 : ((q : Int) * (C : Int) + (Iq : Int)).toNat = q * C + Iq := by rw [c1]; omega
      have f1 : 0 ≤ (q : Int) * (C : Int) + (J : Int) := by omega
      have f2 : (q : Int) * (C : Int) + (J : Int) < (n : Int) := by rw [c2]; omega
      have f3 : ((q : Int) * (C : Int) + (J : Int)).toNat = q * C + J := by rw [c2]; omega
      obtain ⟨d11, d12⟩ := d1
      obtain ⟨d21, d22⟩ := d2
      have v1 : IntKind.i64.wrap ((q : Int) * (C : Int)) = (q : Int) * (C : Int) := IntWalk.i64_in _ (by omega)
      have v2 : IntKind.i64.wrap ((q : Int) * (C : Int) + (Iq : Int)) = (q : Int) * (C : Int) + (Iq : Int) := IntWalk.i64_in _ (by omega)
      have v3 : IntKind.i64.wrap ((q : Int) * (C : Int)) = (q : Int) * (C : Int) := IntWalk.i64_in _ (by omega)
      have v4 : IntKind.i64.wrap ((q : Int) * (C : Int) + (J : Int)) = (q : Int) * (C : Int) + (J : Int) := IntWalk.i64_in _ (by omega)
      have h1 := I.out.cell (i := q * C + Iq) (by rw [clTo_length, HX.out]; exact a1)
      have h2 := I.out.cell (i := q * C + J) (by rw [clTo_length, HX.out]; exact a2)
      rw [clTo_at hI (by rw [HX.out]; exact a1)] at h1
      rw [clTo_at hJ (by rw [HX.out]; exact a2)] at h2
      have fr1 := I.out.free (q * C + Iq)
      have fr2 := I.out.free (q * C + J)
      have hlen : xs.length = R * C := by rw [HX.out, HN.out]
      obtain ⟨x, hxx⟩ : ∃ x, xs.getD (q * C + Iq) 0 = x := ⟨_, rfl⟩
      obtain ⟨y, hyy⟩ : ∃ y, xs.getD (q * C + J) 0 = y := ⟨_, rfl⟩
      have s0 : k = 0 → ((clTo 0 Iq J t C xs q).set (q * C + Iq) (xs.getD (q * C + J) 0)).set (q * C + J) (xs.getD (q * C + Iq) 0) = clTo 0 Iq J t C xs (q + 1) := fun h0 => clTo_swap hI hJ (HIJ.out h0) (by rw [HX.out]; exact a1) (by rw [HX.out]; exact a2)
      have s2 : (clTo 2 Iq J t C xs q).set (q * C + Iq) (addB (xs.getD (q * C + Iq) 0) (mulB (xs.getD (q * C + J) 0) t)) = clTo 2 Iq J t C xs (q + 1) := clTo_add hI (by rw [HX.out]; exact a1)
      rw [hxx, hyy] at s0 s2
      rw [hxx] at h1
      rw [hyy] at h2
      have S0 := Lib.hid s0
      have S2 := Lib.hid s2
      have A1 := Lib.hid a1
      have A2 := Lib.hid a2
      clear c1 c2 hxx hyy s0 s2 hlen a1 a2
      rcases hk with e0 | e0
      · have n0 : (k == 0) = true := by simpa using e0
        have KE := Lib.hid e0
        clear e0
        have IS := I.out.set (q * C + Iq) y
        have fr2 := IS.free (q * C + J)
        have hold := IS.cell (i := q * C + J) (by rw [List.length_set, clTo_length, HX.out]; exact A2.out)
        have rr0 : Blk3 (wr.setCell ⟨g, q * C + Iq, none⟩ (.int .i64 y)) w.heap.size 26 (.int .i64 R) (.int .i64 C) (.slice (some ⟨g, 0, none⟩) n cap) := R0.out.far (by simp; omega) _
        have rr1 : Blk4 (wr.setCell ⟨g, q * C + Iq, none⟩ (.int .i64 y)) (w.heap.size + 1) 97 (.int .i64 k) (.int .i64 Iq) (.int .i64 J) (.int .i64 t) := (Below.heap_setCell wr ⟨g, q * C + Iq, none⟩ (.int .i64 y) (w.heap.size + 1) (by simp; omega)).trans R1.out
        obtain ⟨z0, z1, z2, -, -, -⟩ := rr0.all
        obtain ⟨y0, y1, y2, y3⟩ := rr1.all
        have IS2 := Lib.hid (IS.set (q * C + J) x)
        clear IS rr0 rr1
        go_wp2_with fail
        go_roundw
        case rel =>
          refine ⟨q + 1, by go_num, by omega, ?_, ?_⟩
          · have z := IS2.out; rw [KE.out] at z ⊢; rw [← S0.out KE.out]; exact z
          · exact grown_set_one (a := ⟨g, q * C + J, none⟩) (grown_set_one (a := ⟨g, q * C + Iq, none⟩) G.out rfl _) rfl _
        case measure => simp [intOf]; omega
      · have n0 : (k == 0) = false := by rw [e0]; rfl
        have KE := Lib.hid e0
        clear e0
        go_upto_region 9 with fail
        refine wp_region_held_drew (S := fun w' => FrS (fun k => k = g) wr w') (by kernel_rfl) (FrS.refl _ _).drew (fun hH => ?_)
        refine wpAnyH_take (i := 0) (v := ?_) (by simp only [List.getElem?_toArray, List.getElem?_cons_zero]; rfl) (by kernel_rfl) (by kernel_rfl) (by kernel_rfl) (by exact fun _ _ _ h => h) (Or.inl ⟨by rfl, ?_⟩) hH ?_
        rotate_left
        · (intro wS hS; clear hS; go_simp; try rfl)
        try simp only [Act.put, List.setIfInBounds_toArray, List.set_cons_zero, List.set_cons_succ]
        refine wpAnyH_take (i := 1) (v := ?_) (by simp only [List.getElem?_toArray, List.getElem?_cons_succ, List.getElem?_cons_zero]; rfl) (by kernel_rfl) (by kernel_rfl) (by kernel_rfl) (by exact fun _ _ _ h => h) (Or.inl ⟨by rfl, ?_⟩) hH ?_
        rotate_left
        · (intro wS hS; (try dsimp only at hS); obtain ⟨k1, k2, k3, k4, k5, k6, k7⟩ := tenF R0.out R1.out hS (by omega) (by omega); go_simp; try rfl)
        try simp only [Act.put, List.setIfInBounds_toArray, List.set_cons_zero, List.set_cons_succ]
        refine wpAnyH_take (i := 2) (v := ?_) (by simp only [List.getElem?_toArray, List.getElem?_cons_succ, List.getElem?_cons_zero]; rfl) (by kernel_rfl) (by kernel_rfl) (by kernel_rfl) (by exact fun _ _ _ h => h) (Or.inl ⟨by rfl, ?_⟩) hH ?_
        rotate_left
        · (intro wS hS; clear hS; go_simp; try rfl)
        try simp only [Act.put, List.setIfInBounds_toArray, List.set_cons_zero, List.set_cons_succ]
        refine wpAnyH_take (i := 3) (v := ?_) (by simp only [List.getElem?_toArray, List.getElem?_cons_succ, List.getElem?_cons_zero]; rfl) (by kernel_rfl) (by kernel_rfl) (by kernel_rfl) (by exact fun _ _ _ h => h) (Or.inl ⟨by rfl, ?_⟩) hH ?_
        rotate_left
        · (intro wS hS; clear hS; go_simp; try rfl)
        try simp only [Act.put, List.setIfInBounds_toArray, List.set_cons_zero, List.set_cons_succ]
        refine wpAnyH_take (i := 4) (v := ?_) (by simp only [List.getElem?_toArray, List.getElem?_cons_succ, List.getElem?_cons_zero]; rfl) (by kernel_rfl) (by kernel_rfl) (by kernel_rfl) (by exact fun _ _ _ h => h) (Or.inl ⟨by rfl, ?_⟩) hH ?_
        rotate_left
        · (intro wS hS; (try dsimp only at hS); obtain ⟨k1, k2, k3, k4, k5, k6, k7⟩ := tenF R0.out R1.out hS (by omega) (by omega); go_simp; try rfl)
        try simp only [Act.put, List.setIfInBounds_toArray, List.set_cons_zero, List.set_cons_succ]
        refine wpAnyH_take (i := 5) (v := ?_) (by simp only [List.getElem?_toArray, List.getElem?_cons_succ, List.getElem?_cons_zero]; rfl) (by kernel_rfl) (by kernel_rfl) (by kernel_rfl) (by exact fun _ _ _ h => h) (Or.inl ⟨by rfl, ?_⟩) hH ?_
        rotate_left
        · (intro wS hS; clear hS; go_simp; try rfl)
        try simp only [Act.put, List.setIfInBounds_toArray, List.set_cons_zero, List.set_cons_succ]
        refine wpAnyH_take (i := 6) (v := ?_) (by simp only [List.getElem?_toArray, List.getElem?_cons_succ, List.getElem?_cons_zero]; rfl) (by kernel_rfl) (by kernel_rfl) (by kernel_rfl) (by exact fun _ _ _ h => h) (Or.inl ⟨by rfl, ?_⟩) hH ?_
        rotate_left
        · (intro wS hS; clear hS; go_simp; try rfl)
        try simp only [Act.put, List.setIfInBounds_toArray, List.set_cons_zero, List.set_cons_succ]
        refine wpAnyH_take (i := 7) (v := ?_) (by simp only [List.getElem?_toArray, List.getElem?_cons_succ, List.getElem?_cons_zero]; rfl) (by kernel_rfl) (by kernel_rfl) (by kernel_rfl) (by exact fun _ _ _ h => h) (Or.inl ⟨by rfl, ?_⟩) hH ?_
        rotate_left
        · (intro wS hS; (try dsimp only at hS); obtain ⟨k1, k2, k3, k4, k5, k6, k7⟩ := tenF R0.out R1.out hS (by omega) (by omega); go_simp; try rfl)
        try simp only [Act.put, List.setIfInBounds_toArray, List.set_cons_zero, List.set_cons_succ]
        refine wpAnyH_take (i := 8) (v := ?_) (by simp only [List.getElem?_toArray, List.getElem?_cons_succ, List.getElem?_cons_zero]; rfl) (by kernel_rfl) (by kernel_rfl) (by kernel_rfl) (by exact fun _ _ _ h => h) (Or.inl ⟨by rfl, ?_⟩) hH ?_
        rotate_left
        · (intro wS hS; clear hS; go_simp; try rfl)
        try simp only [Act.put, List.setIfInBounds_toArray, List.set_cons_zero, List.set_cons_succ]
        refine wpAnyH_take (i := 9) (v := ?_) (by simp only [List.getElem?_toArray, List.getElem?_cons_succ, List.getElem?_cons_zero]; rfl) (by kernel_rfl) (by kernel_rfl) (by kernel_rfl) (by exact fun _ _ _ h => h) (Or.inl ⟨by rfl, ?_⟩) hH ?_
        rotate_left
        · (intro wS hS; clear hS; go_simp; try rfl)
        try simp only [Act.put, List.setIfInBounds_toArray, List.set_cons_zero, List.set_cons_succ]
        refine wpAnyH_take (i := 10) (v := ?_) (by simp only [List.getElem?_toArray, List.getElem?_cons_succ, List.getElem?_cons_zero]; rfl) (by kernel_rfl) (by kernel_rfl) (by kernel_rfl) (by exact fun _ _ _ h => h) (Or.inl ⟨by rfl, ?_⟩) hH ?_
        rotate_left
        · (intro wS hS; clear hS; go_simp; try rfl)
        try simp only [Act.put, List.setIfInBounds_toArray, List.set_cons_zero, List.set_cons_succ]
        refine wpAnyH_take (i := 11) (v := ?_) (by simp only [List.getElem?_toArray, List.getElem?_cons_succ, List.getElem?_cons_zero]; rfl) (by kernel_rfl) (by kernel_rfl) (by kernel_rfl) (by exact fun _ _ _ h => h) (Or.inl ⟨by rfl, ?_⟩) hH ?_
        rotate_left
        · (intro wS hS; clear hS; go_simp; try rfl)
        try simp only [Act.put, List.setIfInBounds_toArray, List.set_cons_zero, List.set_cons_succ]
        refine wpAnyH_take (i := 12) (v := ?_) (by simp only [List.getElem?_toArray, List.getElem?_cons_succ, List.getElem?_cons_zero]; rfl) (by kernel_rfl) (by kernel_rfl) (by kernel_rfl) (by exact fun _ _ _ h => h) (Or.inl ⟨by rfl, ?_⟩) hH ?_
        rotate_left
        · (intro wS hS; (try dsimp only at hS); obtain ⟨k1, k2, k3, k4, k5, k6, k7⟩ := tenF R0.out R1.out hS (by omega) (by omega); go_simp; try rfl)
        try simp only [Act.put, List.setIfInBounds_toArray, List.set_cons_zero, List.set_cons_succ]
        refine wpAnyH_ready (rs := [13]) (by kernel_rfl) (by simp) ?_
        refine AllReadyH.cons (by simp only [List.getElem?_toArray, List.getElem?_cons_succ, List.getElem?_cons_zero]; rfl) (fun KK hKK => ?_) AllReadyH.nil
        go_simp
        refine (sMulB y t _).mono ?_
        rintro e w' ⟨rfl, rfl⟩
        try dsimp only
        refine hKK.out _ _ ?_ (fun hH2 => ?_)
        · exact (FrS.refl _ wr).drew
        clear hKK KK
        have hO := hH
        clear hH
        have hH := hH2
        clear hH2
        try simp only [Act.put, List.setIfInBounds_toArray, List.set_cons_zero, List.set_cons_succ]
        refine wpAnyH_ready (rs := [14]) (by kernel_rfl) (by simp) ?_
        refine AllReadyH.cons (by simp only [List.getElem?_toArray, List.getElem?_cons_succ, List.getElem?_cons_zero]; rfl) (fun KK hKK => ?_) AllReadyH.nil
        go_simp
        refine (sAddB x _ _).mono ?_
        rintro e w' ⟨rfl, rfl⟩
        try dsimp only
        refine hKK.out _ _ ?_ (fun hH2 => ?_)
        · exact (FrS.refl _ wr).drew
        clear hKK KK
        have hO := hH
        clear hH
        have hH := hH2
        clear hH2
        try simp only [Act.put, List.setIfInBounds_toArray, List.set_cons_zero, List.set_cons_succ]
        refine wpAnyH_take (i := 15) (v := ?_) (by simp only [List.getElem?_toArray, List.getElem?_cons_succ, List.getElem?_cons_zero]; rfl) (by kernel_rfl) (by kernel_rfl) (by kernel_rfl) (by exact fun _ _ _ h => h) (Or.inl ⟨by rfl, ?_⟩) hH ?_
        rotate_left
        · (intro wS hS; clear hS; go_simp; try rfl)
        try simp only [Act.put, List.setIfInBounds_toArray, List.set_cons_zero, List.set_cons_succ]
        have IX := Lib.hid (I.out.set (q * C + Iq) (addB x (mulB y t))).drew
        refine wpAnyH_ready (rs := [16]) (by kernel_rfl) (by simp) ?_
        refine AllReadyH.cons (by simp only [List.getElem?_toArray, List.getElem?_cons_succ, List.getElem?_cons_zero]; rfl) (fun KK hKK => ?_) AllReadyH.nil
        go_simp
        try dsimp only
        refine hKK.out _ _ ?_ (fun hH2 => ?_)
        · exact ((FrS.refl (fun k => k = g) wr).set (a := ⟨g, q * C + Iq, none⟩) (.inl rfl) _).drew
        clear hKK KK
        have hO := hH
        clear hH
        have hH := hH2
        clear hH2
        try simp only [Act.put, List.setIfInBounds_toArray, List.set_cons_zero, List.set_cons_succ]
        refine wpAnyH_done (by kernel_rfl) ?_ _
        go_wp2_with fail
        go_roundw
        case rel => exact ⟨q + 1, by go_num, by omega, by have z := IX.out; rw [KE.out] at z ⊢; rw [← S2.out]; exact z, grown_drew_one (grown_set_one (a := ⟨g, q * C + Iq, none⟩) G.out rfl _)⟩
        case measure => simp [intOf]; omega
    · have hq2 : decide (q < R) = false := by simpa using hlt
      have hqC : q = R := by omega
      have EQ : Hid (clTo k Iq J t C xs q = colL k Iq J t C xs) := by
        show clTo k Iq J t C xs q = colL k Iq J t C xs
        rw [hqC]
        exact clTo_all (by rw [HX.out, HN.out])
      clear hqC
      go_wp2_with fail
      have II : IntsZ S wr g (colL k Iq J t C xs) := by rw [← EQ.out]; exact I.out
      go_end0
      exact ⟨rfl, II, GW.out⟩
theorem sCol (R C Iq J g n cap : Nat) (k t : Int) (xs : List Int) (w : World) (hi : Ints w g xs) (hx : xs.length = n) (hn : n = R * C) (hR : R ≤ 24) (hC : C ≤ 24) (hI : Iq < C) (hJ : J < C) (hk : k = 0 ∨ k = 2) (hIJ : k = 0 → Iq ≠ J) :
    Calls Try.prog 109 #[.agg #[.int .i64 R, .int .i64 C, .slice (some ⟨g, 0, none⟩) n cap], .agg #[.int .i64 k, .int .i64 Iq, .int .i64 J, .int .i64 t]] w (fun e w' => Void e ∧ Ints w' g (colL k Iq J t C xs) ∧ w.grownBy w' (some g)) := by
  obtain ⟨S, h⟩ := IntsZ.of hi
  exact (sColZ S R C Iq J g n cap k t xs w h hx hn hR hC hI hJ hk hIJ).mono fun _ _ ⟨h1, h2, h3⟩ => ⟨h1, h2.1, h3⟩
end Go.Proofs.Ytpelnfenfeoeeaa
end

section
/-
  The model's quotient rounded down.
-/
namespace Go.Proofs.Ytpelnfenfeoeeaa
open Go.RowKit
theorem sFloor (n d : Int) (w : World) (hn1 : -4000000000000000000 ≤ n) (hn2 : n ≤ 4000000000000000000) (hd1 : 0 < d) (hd2 : d ≤ 4000000000000000000) :
    Calls Try.prog 160 #[.int .i64 n, .int .i64 d] w fun e w' => e = .returned (.int .i64 (n / d)) ∧ w = w' := by
  obtain ⟨b1, b2⟩ := tdiv_bdw n d hn1 hn2
  have hd0 : (d == 0) = false := by simp; omega
  by_cases h : n.tmod d < 0
  · have E := Lib.hid (tdiv_down n d hd1 h).1
    have hn : n < 0 := by
      rcases Int.lt_or_le n 0 with h' | h'
      · exact h'
      · have := Int.tmod_nonneg d h'; omega
    go_enter Try.func160, Try.ntmps160
    go_wp2
    go_ret
    exact ⟨ret_int E.out.symm, rfl⟩
  · have E := Lib.hid (tdiv_up n d hd1 (by omega)).1
    by_cases hn : 0 ≤ n
    · have e1 := Int.emod_nonneg n (show d ≠ 0 by omega)
      have e2 : decide (n % d < 0) = false := by simp; omega
      clear h
      go_enter Try.func160, Try.ntmps160
      go_wp2
      go_ret
      exact ⟨ret_int E.out.symm, rfl⟩
    · go_enter Try.func160, Try.ntmps160
      go_wp2
      go_ret
      exact ⟨ret_int E.out.symm, rfl⟩
end Go.Proofs.Ytpelnfenfeoeeaa
end

section
/-
  Chapter 1, in the model: DivideFloor.
-/
namespace Go.Proofs.Ytpelnfenfeoeeaa
open Go.RowKit
set_option maxHeartbeats 400000 in
theorem sDiv (n d : Int) (w : World) (hn1 : -400000000 ≤ n) (hn2 : n ≤ 400000000) (hd1 : -400000000 ≤ d) (hd2 : d ≤ 400000000) (hd0 : d ≠ 0) :
    Calls Try.prog 139 #[.int .i64 n, .int .i64 d] w fun e w' => e = .returned (.tuple #[.int .i64 (n / d), .int .i64 (n % d), .bool true]) ∧ w = w' := by
  have hz : (d == 0) = false := by simpa using hd0
  by_cases hd : 0 < d
  · obtain ⟨m1, m2⟩ := mul_ediv_bd n d hd
    have E := Lib.hid (Int.emod_def n d)
    go_enter Try.func139, Try.ntmps139
    go_wp2_with (first | (go_at_call 105; refine (sIsNum_t _ _ (by omega) (by omega)).mono ?_; rintro e w' ⟨rfl, rfl⟩) | (go_at_call 100; refine (sAbs_p _ _ (by omega) (by omega)).mono ?_; rintro e w' ⟨rfl, rfl⟩) | (go_at_call 160; refine (sFloor _ _ _ (by omega) (by omega) (by omega) (by omega)).mono ?_; rintro e w' ⟨rfl, rfl⟩))
    go_ret3
    exact ⟨by rw [E.out]; rfl, rfl⟩
  · obtain ⟨c, rfl⟩ : ∃ c, d = -c := ⟨-d, by omega⟩
    have hc : 0 < c := by omega
    obtain ⟨m1, m2⟩ := mul_ediv_bd n c hc
    obtain ⟨m3, m4⟩ := ediv_bd n c hc hn1 hn2
    have E := Lib.hid (Int.emod_def n c)
    have E2 := Lib.hid (Int.ediv_neg n c)
    have E3 := Lib.hid (Int.emod_neg n c)
    go_enter Try.func139, Try.ntmps139
    go_wp2_with (first | (go_at_call 105; refine (sIsNum_t _ _ (by omega) (by omega)).mono ?_; rintro e w' ⟨rfl, rfl⟩) | (go_at_call 100; refine (sAbs_n _ _ (by omega) (by omega)).mono ?_; rintro e w' ⟨rfl, rfl⟩) | (go_at_call 160; refine (sFloor _ _ _ (by omega) (by omega) (by omega) (by omega)).mono ?_; rintro e w' ⟨rfl, rfl⟩))
    go_ret3
    exact ⟨by rw [E2.out, E3.out, E.out]; rfl, rfl⟩
end Go.Proofs.Ytpelnfenfeoeeaa
end

section
/-
  Chapter 13, in the model: what a round leaves; the matrix and its two accounts in memory.
-/
namespace Go.Proofs.Ytpelnfenfeoeeaa
set_option maxRecDepth 100000
open Go.RowKit
def DNot (R C t : Nat) (p : Int) (r : SSt) (i j : Nat) : Prop := ∀ a b, t < a → a < R → t < b → b < C → (a < i ∨ (a = i ∧ b < j)) → cel3S C r a b = badN ∨ cel3S C r a b % p = 0
section
variable {R C t : Nat} {s : SSt} {p : Int}
theorem DNot.start (r : SSt) : DNot R C t p r (t + 1) 0 := fun a b h1 _ h2 _ h => by omega
theorem DNot.row0 {r : SSt} {i : Nat} (h : DNot R C t p r i 0) : DNot R C t p r i (t + 1) := fun a b h1 h2 h3 h4 h5 => by
  rcases h5 with h5 | ⟨h5, h6⟩
  · exact h a b h1 h2 h3 h4 (.inl h5)
  · omega
theorem DNot.step {r : SSt} {i j : Nat} (h : DNot R C t p r i j) (hc : cel3S C r i j = badN ∨ cel3S C r i j % p = 0) : DNot R C t p r i (j + 1) := fun a b h1 h2 h3 h4 h5 => by
  by_cases e : a = i ∧ b = j
  · rw [e.1, e.2]; exact hc
  · exact h a b h1 h2 h3 h4 (by omega)
theorem DNot.row {r : SSt} {i : Nat} (h : DNot R C t p r i C) : DNot R C t p r (i + 1) 0 := fun a b h1 h2 h3 h4 h5 => h a b h1 h2 h3 h4 (by omega)
theorem ok3_cel {r : SSt} (h : ok3 r = true) (i j : Nat) : cel3S C r i j ≠ badN := fun e => by
  have := nums_def (ok3_and h).1 (i * C + j)
  have e : r.1.getD (i * C + j) 0 = badN := e
  rw [e] at this
  exact bad_not this
theorem rnd_siz (h : Siz3 R C s) : Siz3 R C (rdF R C t s) := by
  unfold rdF
  exact colsF_siz (rowsF_siz h _) _
theorem rnd_left (h : Siz3 R C s) (hc : clB R C t (rdF R C t s) = false) : RndP R C t s false (rdF R C t s) :=
  ⟨rnd_siz h, fun h => h, fun _ => ⟨fun _ => ⟨rfl, rfl⟩, fun h => by rw [hc] at h; cases h⟩⟩
theorem rnd_none (h : Siz3 R C s) (hc : clB R C t (rdF R C t s) = true) (hp : cel3S C (rdF R C t s) t t = p) (hd : DNot R C t p (rdF R C t s) R 0) : RndP R C t s true (rdF R C t s) := by
  refine ⟨rnd_siz h, fun h => h, fun ho => ⟨(fun h => by rw [hc] at h; cases h), fun _ => ?_⟩⟩
  have hn : ndF R C t (rdF R C t s) = none := ndF_all fun i h1 h2 b h3 h4 => by
    rw [hp]
    exact (hd i b h1 h2 h3 h4 (.inl h2)).resolve_left (ok3_cel ho i b)
  exact ⟨fun _ => ⟨rfl, rfl⟩, fun k hk => by rw [hn] at hk; cases hk⟩
theorem rnd_found (h : Siz3 R C s) (hc : clB R C t (rdF R C t s) = true) (hp : cel3S C (rdF R C t s) t t = p) {i j : Nat} (ht : t < R) (hi : t < i) (hiR : i < R) (hj : t < j) (hjC : j < C) (hd : DNot R C t p (rdF R C t s) i j) (h1 : cel3S C (rdF R C t s) i j % p ≠ 0) : RndP R C t s false (row3 R C 2 t i 1 (rdF R C t s)) := by
  refine ⟨(rnd_siz h).row _ _ _ _, fun ho => ?_, fun ho => ⟨(fun h => by rw [hc] at h; cases h), fun _ => ?_⟩⟩
  · cases hk : ok3 (row3 R C 2 t i 1 (rdF R C t s)) with
    | false => rfl
    | true =>
      rw [ok3_row (rnd_siz h) ht hiR hk] at ho
      cases ho
  · have hn : ndF R C t (rdF R C t s) = some i := ndF_found hi hiR hj hjC (by rw [hp]; exact h1) fun a a1 a2 b b1 b2 => by
      rw [hp]
      exact (hd a b a1 (by omega) b1 b2 (.inl a2)).resolve_left (ok3_cel ho a b)
    exact ⟨(fun h => by rw [hn] at h; cases h), fun k hk => by rw [hn] at hk; cases hk; exact ⟨rfl, rfl⟩⟩
end
structure S3W (R C ga gu gv na nu nv ca cu cv : Nat) (w0 : World) (s : SSt) (w : World) : Prop where
  a : Ints w ga s.1
  u : Ints w gu s.2.1
  v : Ints w gv s.2.2
  k0 : Blk3 w w0.heap.size 26 (.int .i64 R) (.int .i64 C) (.slice (some ⟨ga, 0, none⟩) na ca)
  k1 : Blk3 w (w0.heap.size + 1) 26 (.int .i64 R) (.int .i64 R) (.slice (some ⟨gu, 0, none⟩) nu cu)
  k2 : Blk3 w (w0.heap.size + 2) 26 (.int .i64 C) (.int .i64 C) (.slice (some ⟨gv, 0, none⟩) nv cv)
  f : FrS (fun b => b = ga ∨ b = gu ∨ b = gv) w0 w
section
variable {R C ga gu gv na nu nv ca cu cv : Nat} {w0 w w' : World} {s s' : SSt}
theorem S3W.step (h : S3W R C ga gu gv na nu nv ca cu cv w0 s w) (hb : Below w.heap.size w w') : S3W R C ga gu gv na nu nv ca cu cv w0 s w' :=
  ⟨h.a.keep hb h.a.lt, h.u.keep hb h.u.lt, h.v.keep hb h.v.lt, h.k0.step hb, h.k1.step hb, h.k2.step hb, h.f.trans (FrS.of_below hb)⟩
theorem S3W.next (h : S3W R C ga gu gv na nu nv ca cu cv w0 s w) (la : ga < w0.heap.size) (lu : gu < w0.heap.size) (lv : gv < w0.heap.size) (ha : Ints w' ga s'.1) (hu : Ints w' gu s'.2.1) (hv : Ints w' gv s'.2.2) (hf : FrS (fun b => b = ga ∨ b = gu ∨ b = gv) w w') : S3W R C ga gu gv na nu nv ca cu cv w0 s' w' :=
  ⟨ha, hu, hv, h.k0.frs hf (by omega), h.k1.frs hf (by omega), h.k2.frs hf (by omega), h.f.trans hf⟩
theorem S3W.start {ca cu cv : Nat} (ha : Ints w ga s.1) (hu : Ints w gu s.2.1) (hv : Ints w gv s.2.2) : S3W R C ga gu gv na nu nv ca cu cv w s (((w.alloc (.cells #[.int .i64 R, .int .i64 C, .slice (some ⟨ga, 0, none⟩) na ca] 26)).alloc (.cells #[.int .i64 R, .int .i64 R, .slice (some ⟨gu, 0, none⟩) nu cu] 26)).alloc (.cells #[.int .i64 C, .int .i64 C, .slice (some ⟨gv, 0, none⟩) nv cv] 26)) :=
  ⟨((ha.old _).old _).old _, ((hu.old _).old _).old _, ((hv.old _).old _).old _, ((Blk3.at_ _ _ _ _ rfl).old _).old _, (Blk3.at_ _ _ _ _ (by simp)).old _, Blk3.at_ _ _ _ _ (by simp), (((FrS.refl _ _).alloc _).alloc _).alloc _⟩
end
section
variable {R C ga gu gv na nu nv ca cu cv : Nat} {w : World}
theorem s3_row (la : ga < w.heap.size) (lu : gu < w.heap.size) (lv : gv < w.heap.size) (h1 : ga ≠ gu) (h2 : ga ≠ gv) (h3 : gu ≠ gv) (hna : na = R * C) (hnu : nu = R * R) (hR : R ≤ 24) (hC : C ≤ 24) (s : SSt) (w' : World) (k z : Int) (I J : Nat) (h : S3W R C ga gu gv na nu nv ca cu cv w s w') (hs : Siz3 R C s) (hI : I < R) (hJ : J < R) (hk : k = 0 ∨ k = 1 ∨ k = 2) (hIJ : k = 0 → I ≠ J) :
    Calls Try.prog 108 #[.agg #[.int .i64 R, .int .i64 C, .slice (some ⟨ga, 0, none⟩) na ca], .agg #[.int .i64 R, .int .i64 R, .slice (some ⟨gu, 0, none⟩) nu cu], .agg #[.int .i64 k, .int .i64 I, .int .i64 J, .int .i64 z]] w' (fun e w2 => Void e ∧ S3W R C ga gu gv na nu nv ca cu cv w (row3 R C k I J z s) w2) := by
  refine (sOps R C I J ga gu na nu ca cu k z (s.1, s.2.1) w' h.a h.u h1 (by show s.1.length = na; rw [hs.l1, hna]) hna (by show s.2.1.length = nu; rw [hs.l2, hnu]) hnu hR hC hI hJ hk hIJ).mono ?_
  rintro e w2 ⟨r1, r2, r3, r4⟩
  exact ⟨r1, h.next la lu lv r2 r3 (h.v.move (r4.block gv h.v.lt (by rintro (e | e); exact h2 e.symm; exact h3 e.symm))) (r4.mono fun b hb => by rcases hb with e | e; exact .inl e; exact .inr (.inl e))⟩
theorem s3_colA (la : ga < w.heap.size) (lu : gu < w.heap.size) (lv : gv < w.heap.size) (h1 : ga ≠ gu) (h2 : ga ≠ gv) (hna : na = R * C) (hR : R ≤ 24) (hC : C ≤ 24) (s : SSt) (w' : World) (k z : Int) (I J : Nat) (h : S3W R C ga gu gv na nu nv ca cu cv w s w') (hs : Siz3 R C s) (hI : I < C) (hJ : J < C) (hk : k = 0 ∨ k = 2) (hIJ : k = 0 → I ≠ J) :
    Calls Try.prog 109 #[.agg #[.int .i64 R, .int .i64 C, .slice (some ⟨ga, 0, none⟩) na ca], .agg #[.int .i64 k, .int .i64 I, .int .i64 J, .int .i64 z]] w' (fun e w2 => Void e ∧ S3W R C ga gu gv na nu nv ca cu cv w (colL k I J z C s.1, s.2.1, s.2.2) w2 ∧ w'.grownBy w2 (some ga)) := by
  refine (sCol R C I J ga na ca k z s.1 w' h.a (by rw [hs.l1, hna]) hna hR hC hI hJ hk hIJ).mono ?_
  rintro e w2 ⟨r1, r2, r3⟩
  exact ⟨r1, h.next (s' := (colL k I J z C s.1, s.2.1, s.2.2)) la lu lv r2 (h.u.one r3 h1.symm) (h.v.one r3 h2.symm) (FrS.of_one (p := fun b => b = ga ∨ b = gu ∨ b = gv) r3 (.inl rfl)), r3⟩
theorem s3_colV (la : ga < w.heap.size) (lu : gu < w.heap.size) (lv : gv < w.heap.size) (h2 : ga ≠ gv) (h3 : gu ≠ gv) (hnv : nv = C * C) (hC : C ≤ 24) (s : SSt) (w' : World) (k z : Int) (I J : Nat) (h : S3W R C ga gu gv na nu nv ca cu cv w (colL k I J z C s.1, s.2.1, s.2.2) w') (hs : Siz3 R C s) (hI : I < C) (hJ : J < C) (hk : k = 0 ∨ k = 2) (hIJ : k = 0 → I ≠ J) :
    Calls Try.prog 109 #[.agg #[.int .i64 C, .int .i64 C, .slice (some ⟨gv, 0, none⟩) nv cv], .agg #[.int .i64 k, .int .i64 I, .int .i64 J, .int .i64 z]] w' (fun e w2 => Void e ∧ S3W R C ga gu gv na nu nv ca cu cv w (col3 C k I J z s) w2) := by
  refine (sCol C C I J gv nv cv k z s.2.2 w' h.v (by rw [hs.l3, hnv]) hnv hC hC hI hJ hk hIJ).mono ?_
  rintro e w2 ⟨r1, r2, r3⟩
  exact ⟨r1, h.next (s' := col3 C k I J z s) la lu lv (h.a.one r3 h2) (h.u.one r3 h3) r2 (FrS.of_one (p := fun b => b = ga ∨ b = gu ∨ b = gv) r3 (.inr (.inr rfl)))⟩
theorem s3_cel (hna : na = R * C) (hR : R ≤ 24) (hC : C ≤ 24) (s : SSt) (w' : World) (i j : Nat) (h : S3W R C ga gu gv na nu nv ca cu cv w s w') (hs : Siz3 R C s) (hi : i < R) (hj : j < C) : Calls Try.prog 63 #[.agg #[.int .i64 R, .int .i64 C, .slice (some ⟨ga, 0, none⟩) na ca], .int .i64 i, .int .i64 j] w' (Gives (.int .i64 (cel3S C s i j)) w') :=
  sCel R C _ na ca i j s.1 w' h.a.rd (by rw [hs.l1, hna]) hna hR hC hi hj
end
end Go.Proofs.Ytpelnfenfeoeeaa
end

section
/-
  Chapter 13, in the model: a round.
-/
namespace Go.Proofs.Ytpelnfenfeoeeaa
set_option maxRecDepth 100000
open Go.RowKit
def RndRes (R C t ga gu gv : Nat) (s : SSt) (w : World) (e : Ending) (w' : World) : Prop := ∃ b s', e = .returned (.bool b) ∧ RndP R C t s b s' ∧ Ints w' ga s'.1 ∧ Ints w' gu s'.2.1 ∧ Ints w' gv s'.2.2 ∧ FrS (fun b => b = ga ∨ b = gu ∨ b = gv) w w'
set_option maxHeartbeats 8000000 in
theorem sRound (R C ga gu gv na nu nv ca cu cv t : Nat) (s : SSt) (w : World) (ha : Ints w ga s.1) (hu : Ints w gu s.2.1) (hv : Ints w gv s.2.2) (h1 : ga ≠ gu) (h2 : ga ≠ gv) (h3 : gu ≠ gv) (hna : na = R * C) (hnu : nu = R * R) (hnv : nv = C * C) (hR : R ≤ 24) (hC : C ≤ 24) (hs : Siz3 R C s) (ho : ok3 s = true) (htR : t < R) (htC : t < C) (hp : cel3S C s t t ≠ 0) :
    Calls Try.prog 110 #[.agg #[.int .i64 R, .int .i64 C, .slice (some ⟨ga, 0, none⟩) na ca], .agg #[.int .i64 R, .int .i64 R, .slice (some ⟨gu, 0, none⟩) nu cu], .agg #[.int .i64 C, .int .i64 C, .slice (some ⟨gv, 0, none⟩) nv cv], .int .i64 t] w (RndRes R C t ga gu gv s w) := by
  have la := ha.lt
  have lu := hu.lt
  have lv := hv.lt
  have WS : Hid (S3W R C ga gu gv na nu nv ca cu cv w s (((w.alloc (.cells #[.int .i64 R, .int .i64 C, .slice (some ⟨ga, 0, none⟩) na ca] 26)).alloc (.cells #[.int .i64 R, .int .i64 R, .slice (some ⟨gu, 0, none⟩) nu cu] 26)).alloc (.cells #[.int .i64 C, .int .i64 C, .slice (some ⟨gv, 0, none⟩) nv cv] 26))) := S3W.start ha hu hv
  have NUS : ∀ i j, NumP (cel3S C s i j) := fun i j => nums_def (ok3_and ho).1 _
  obtain ⟨p, hpp⟩ : ∃ p, cel3S C s t t = p := ⟨_, rfl⟩
  have NP : NumP p := by rw [← hpp]; exact NUS t t
  rw [hpp] at hp
  have DV : Hid (∀ (x : Int) w', NumP x → Calls Try.prog 139 #[.int .i64 x, .int .i64 p] w' (Gives (.tuple #[.int .i64 (x / p), .int .i64 (x % p), .bool true]) w')) := fun x w' hx => by
    refine (sDiv x p w' hx.1 hx.2 NP.1 NP.2 hp).mono ?_
    rintro e w2 ⟨rfl, rfl⟩
    exact ⟨rfl, Below.refl _ _⟩
  have C0 : Hid (∀ w', S3W R C ga gu gv na nu nv ca cu cv w s w' → Calls Try.prog 63 #[.agg #[.int .i64 R, .int .i64 C, .slice (some ⟨ga, 0, none⟩) na ca], .int .i64 t, .int .i64 t] w' (Gives (.int .i64 p) w')) := fun w' h => by rw [← hpp]; exact s3_cel hna hR hC s w' t t h hs htR htC
  -- the rows
  obtain ⟨F, hF⟩ : ∃ F : Nat → SSt, rowsF R C t p s = F := ⟨_, rfl⟩
  obtain ⟨X, hX⟩ : ∃ X : Nat → Int, (fun i => cel3S C s i t) = X := ⟨_, rfl⟩
  have hX' : ∀ i, cel3S C s i t = X i := fun i => by rw [← hX]
  have F0 : Hid (F 0 = s) := by rw [← hF]; rfl
  have SZF : Hid (∀ n, Siz3 R C (F n)) := fun n => by rw [← hF]; exact rowsF_siz hs n
  have CEF : Hid (∀ n w', t + 1 + n < R → S3W R C ga gu gv na nu nv ca cu cv w (F n) w' → Calls Try.prog 63 #[.agg #[.int .i64 R, .int .i64 C, .slice (some ⟨ga, 0, none⟩) na ca], .int .i64 ((t + 1 + n : Nat) : Int), .int .i64 t] w' (Gives (.int .i64 (X (t + 1 + n))) w')) := fun n w' hn h => by
    have e : cel3S C (F n) (t + 1 + n) t = X (t + 1 + n) := by rw [← hX', ← hF]; exact rowsF_keep hs n (by omega) _ _ hn htC (.inr (Nat.le_refl _))
    rw [← e]
    exact s3_cel hna hR hC (F n) w' (t + 1 + n) t h (SZF.out n) hn htC
  have DOF : Hid (∀ n, t + 1 + n < R → F (n + 1) = if X (t + 1 + n) ≠ 0 then row3 R C 2 (t + 1 + n) t (-(X (t + 1 + n) / p)) (F n) else F n) := fun n hn => by rw [← hX', ← hF]; exact rowsF_do hs hn htC
  have NUX : Hid (∀ i, NumP (X i)) := fun i => by rw [← hX']; exact NUS i t
  -- the columns
  obtain ⟨G, hG⟩ : ∃ G : Nat → SSt, colsF C t p (F (R - t - 1)) = G := ⟨_, rfl⟩
  obtain ⟨Y, hY⟩ : ∃ Y : Nat → Int, (fun j => cel3S C s t j) = Y := ⟨_, rfl⟩
  have hY' : ∀ j, cel3S C s t j = Y j := fun j => by rw [← hY]
  have KY : ∀ j, j < C → cel3S C (F (R - t - 1)) t j = Y j := fun j hj => by rw [← hY', ← hF]; exact rowsF_keep hs _ (by omega) _ _ htR hj (.inl (Nat.le_refl _))
  have G0 : Hid (G 0 = F (R - t - 1)) := by rw [← hG]; rfl
  have SZG : Hid (∀ n, Siz3 R C (G n)) := fun n => by rw [← hG]; exact colsF_siz (SZF.out _) n
  have CEG : Hid (∀ n w', t + 1 + n < C → S3W R C ga gu gv na nu nv ca cu cv w (G n) w' → Calls Try.prog 63 #[.agg #[.int .i64 R, .int .i64 C, .slice (some ⟨ga, 0, none⟩) na ca], .int .i64 t, .int .i64 ((t + 1 + n : Nat) : Int)] w' (Gives (.int .i64 (Y (t + 1 + n))) w')) := fun n w' hn h => by
    have e : cel3S C (G n) t (t + 1 + n) = Y (t + 1 + n) := by rw [← KY _ hn, ← hG]; exact colsF_keep (SZF.out _) n (by omega) _ _ htR hn (.inr (Nat.le_refl _))
    rw [← e]
    exact s3_cel hna hR hC (G n) w' t (t + 1 + n) h (SZG.out n) htR hn
  have DOG : Hid (∀ n, t + 1 + n < C → G (n + 1) = if Y (t + 1 + n) ≠ 0 then col3 C 2 (t + 1 + n) t (-(Y (t + 1 + n) / p)) (G n) else G n) := fun n hn => by rw [← KY _ hn, ← hG]; exact colsF_do (SZF.out _) hn htR
  have NUY : Hid (∀ j, NumP (Y j)) := fun j => by rw [← hY']; exact NUS t j
  -- what is left
  have ER : rdF R C t s = G (C - t - 1) := by rw [← hG, ← hF, ← hpp]; rfl
  obtain ⟨r, hr⟩ : ∃ r, rdF R C t s = r := ⟨_, rfl⟩
  have GE : Hid (G (C - t - 1) = r) := by rw [← hr, ER]; exact Lib.hid rfl
  have SZR : Siz3 R C r := by rw [← hr]; exact rnd_siz hs
  have PR : cel3S C r t t = p := by rw [← hr, ← hpp]; exact rd_pivot hs htR htC
  obtain ⟨Z, hZ⟩ : ∃ Z : Nat → Nat → Int, cel3S C r = Z := ⟨_, rfl⟩
  have CER : Hid (∀ i j w', i < R → j < C → S3W R C ga gu gv na nu nv ca cu cv w r w' → Calls Try.prog 63 #[.agg #[.int .i64 R, .int .i64 C, .slice (some ⟨ga, 0, none⟩) na ca], .int .i64 i, .int .i64 j] w' (Gives (.int .i64 (Z i j)) w')) := fun i j w' hi hj h => by rw [← hZ]; exact s3_cel hna hR hC r w' i j h SZR hi hj
  have OR : Hid (∀ i j, Z i j = badN ∨ NumP (Z i j)) := fun i j => by rw [← hZ]; exact SZR.m1 _
  have CB : Hid (clB R C t r = true ↔ (clI t (fun i => Z i t) R ∧ clI t (fun j => Z t j) C)) := by rw [← hZ]; exact Lib.hid clB_iff
  have STP : Hid (∀ (f : Nat → Int) n, t < n → (clI t f (n + 1) ↔ (clI t f n ∧ f n = 0))) := fun f n h => clI_step h
  have SRT : Hid (∀ (f : Nat → Int), clI t f (t + 1)) := fun f => clI_zero t f
  have LEFT : Hid (clB R C t r = false → RndP R C t s false r) := fun h => by rw [← hr] at h ⊢; exact rnd_left hs h
  have NONE : Hid (clB R C t r = true → DNot R C t p r R 0 → RndP R C t s true r) := fun h hd => by rw [← hr] at h hd PR ⊢; exact rnd_none hs h PR hd
  have FOUND : Hid (∀ i j, clB R C t r = true → t < i → i < R → t < j → j < C → DNot R C t p r i j → Z i j % p ≠ 0 → RndP R C t s false (row3 R C 2 t i 1 r)) := fun i j h q1 q2 q3 q4 hd hz => by
    rw [← hZ] at hz
    rw [← hr] at h hd PR hz ⊢
    exact rnd_found hs h PR htR q1 q2 q3 q4 hd hz
  have DNS : Hid (∀ i j, DNot R C t p r i j → (Z i j = badN ∨ Z i j % p = 0) → DNot R C t p r i (j + 1)) := fun i j h hc => by rw [← hZ] at hc; exact h.step hc
  have ROW : Hid (∀ (s' : SSt) w' (I J : Nat) (z : Int), S3W R C ga gu gv na nu nv ca cu cv w s' w' → Siz3 R C s' → I < R → J < R → Calls Try.prog 108 #[.agg #[.int .i64 R, .int .i64 C, .slice (some ⟨ga, 0, none⟩) na ca], .agg #[.int .i64 R, .int .i64 R, .slice (some ⟨gu, 0, none⟩) nu cu], .agg #[.int .i64 2, .int .i64 I, .int .i64 J, .int .i64 z]] w' (fun e w2 => Void e ∧ S3W R C ga gu gv na nu nv ca cu cv w (row3 R C 2 I J z s') w2)) := fun s' w' I J z h q1 q2 q3 => s3_row la lu lv h1 h2 h3 hna hnu hR hC s' w' 2 z I J h q1 q2 q3 (.inr (.inr rfl)) (fun h => by cases h)
  have COLA : Hid (∀ (s' : SSt) w' (I J : Nat) (z : Int), S3W R C ga gu gv na nu nv ca cu cv w s' w' → Siz3 R C s' → I < C → J < C → Calls Try.prog 109 #[.agg #[.int .i64 R, .int .i64 C, .slice (some ⟨ga, 0, none⟩) na ca], .agg #[.int .i64 2, .int .i64 I, .int .i64 J, .int .i64 z]] w' (fun e w2 => Void e ∧ S3W R C ga gu gv na nu nv ca cu cv w (colL 2 I J z C s'.1, s'.2.1, s'.2.2) w2 ∧ w'.grownBy w2 (some ga))) := fun s' w' I J z h q1 q2 q3 => s3_colA la lu lv h1 h2 hna hR hC s' w' 2 z I J h q1 q2 q3 (.inr rfl) (fun h => by cases h)
  have COLV : Hid (∀ (s' : SSt) w' (I J : Nat) (z : Int), S3W R C ga gu gv na nu nv ca cu cv w (colL 2 I J z C s'.1, s'.2.1, s'.2.2) w' → Siz3 R C s' → I < C → J < C → Calls Try.prog 109 #[.agg #[.int .i64 C, .int .i64 C, .slice (some ⟨gv, 0, none⟩) nv cv], .agg #[.int .i64 2, .int .i64 I, .int .i64 J, .int .i64 z]] w' (fun e w2 => Void e ∧ S3W R C ga gu gv na nu nv ca cu cv w (col3 C 2 I J z s') w2)) := fun s' w' I J z h q1 q2 q3 => s3_colV la lu lv h2 h3 hnv hC s' w' 2 z I J h q1 q2 q3 (.inr rfl) (fun h => by cases h)
  have SZR := Lib.hid SZR
  have NP := Lib.hid NP
  have HPZ := Lib.hid hp
  have HN := Lib.hid (And.intro (And.intro la lu) lv)
  have QN : Hid (∀ x, NumP x → NumP (-(x / p))) := fun x hx => quot_num hx HPZ.out
  clear ha hu hv h1 h2 h3 hna hnu hnv hs ho NUS hpp hX hX' hY hY' hF hG KY ER hr PR hZ la lu lv hp
  go_enter Try.func110, Try.ntmps110
  go_upto_region 1 with fail
  generalize ((w.alloc (.cells #[.int .i64 R, .int .i64 C, .slice (some ⟨ga, 0, none⟩) na ca] 26)).alloc (.cells #[.int .i64 R, .int .i64 R, .slice (some ⟨gu, 0, none⟩) nu cu] 26)).alloc (.cells #[.int .i64 C, .int .i64 C, .slice (some ⟨gv, 0, none⟩) nv cv] 26) = W0 at WS ⊢
  obtain ⟨p0, p1, p2, -, -, -⟩ := WS.out.k0.all
  go_wp2_with fail
  refine (C0.out _ WS.out).mono ?_
  rintro e w1 ⟨rfl, hb⟩
  have W1 : Hid (S3W R C ga gu gv na nu nv ca cu cv w (F 0) w1) := by refine Lib.hid ?_; rw [F0.out]; exact WS.out.step hb
  clear hb C0 p0 p1 p2 WS F0
  go_wp2_with fail
  go_loopw [11, 12, 13, 14] (fun v11 _ _ _ wq => ∃ n : Nat, v11 = .int .i64 ((t + 1 + n : Nat) : Int) ∧ t + 1 + n ≤ R ∧ S3W R C ga gu gv na nu nv ca cu cv w (F n) wq) (fun v11 _ _ _ _ => R - (intOf v11).toNat)
  case atStart => exact ⟨0, by go_num, by omega, W1.out⟩
  case round =>
    clear W1
    obtain ⟨n, rfl, hn, hW⟩ := hrel
    have WR := Lib.hid hW
    clear hW
    obtain ⟨p0, p1, p2, -, -, -⟩ := WR.out.k0.all
    by_cases hlt : t + 1 + n < R
    · have CX := Lib.hid (fun w' => CEF.out n w' hlt)
      have ES := Lib.hid (DOF.out n hlt)
      have NX := NUX.out (t + 1 + n)
      have SZ := Lib.hid (SZF.out n)
      obtain ⟨T, hT⟩ : ∃ T, t + 1 + n = T := ⟨_, rfl⟩
      have ET := Lib.hid hT
      rw [hT] at CX ES NX hlt ⊢
      obtain ⟨x, hx⟩ : ∃ x, X T = x := ⟨_, rfl⟩
      rw [hx] at CX ES NX
      clear hT hx
      have C1 := Lib.hid (CX.out _ WR.out)
      go_wp2_with fail
      refine C1.out.mono ?_
      rintro e w5 ⟨rfl, hb5⟩
      have W5 := Lib.hid (WR.out.step hb5)
      clear hb5 C1 WR p0 p1 p2
      obtain ⟨p0, p1, p2, -, -, -⟩ := W5.out.k0.all
      by_cases hx0 : x = 0
      · have n2 : (x != 0) = false := by simp [hx0]
        have ES : Hid (F (n + 1) = F n) := by refine Lib.hid ?_; rw [ES.out, if_neg (fun h => h hx0)]
        clear hx0
        go_wp2_with fail
        go_roundw
        case rel => exact ⟨n + 1, by rw [← Nat.add_assoc, ET.out]; go_num, by have := ET.out; omega, by rw [ES.out]; exact W5.out⟩
        case measure => simp [intOf]; omega
      have n2 : (x != 0) = true := by simpa using hx0
      have ES : Hid (F (n + 1) = row3 R C 2 T t (-(x / p)) (F n)) := by refine Lib.hid ?_; rw [ES.out, if_pos hx0]
      have C2 := Lib.hid (CX.out _ W5.out)
      have D2 := Lib.hid (fun w' => DV.out x w' NX)
      have NQ := QN.out x NX
      generalize x % p = rm at D2
      obtain ⟨qq, hqq⟩ : ∃ qq, x / p = qq := ⟨_, rfl⟩
      rw [hqq] at ES NQ D2
      obtain ⟨q1, q2⟩ := NQ
      obtain ⟨z, hz⟩ : ∃ z, -qq = z := ⟨_, rfl⟩
      have v1 : IntKind.i64.wrap (-qq) = z := by rw [hz]; exact IntWalk.i64_in _ (by omega)
      rw [hz] at ES
      clear hx0 hqq hz NX q1 q2 CX
      go_wp2_with fail
      refine C2.out.mono ?_
      rintro e w6 ⟨rfl, hb6⟩
      have W6 := Lib.hid (W5.out.step hb6)
      clear hb6 C2 W5 p0 p1 p2
      go_wp2_with fail
      refine (D2.out _).mono ?_
      rintro e w7 ⟨rfl, hb7⟩
      have W7 := Lib.hid (W6.out.step hb7)
      clear hb7 D2 W6
      obtain ⟨p0, p1, p2, -, -, -⟩ := W7.out.k0.all
      obtain ⟨u0, u1, u2, -, -, -⟩ := W7.out.k1.all
      go_wp2_with fail
      refine (ROW.out _ _ T t z W7.out SZ.out hlt htR).mono ?_
      rintro e w8 ⟨rfl, h8⟩
      have W8 := Lib.hid h8
      clear h8 W7 p0 p1 p2 u0 u1 u2
      go_wp2_with fail
      go_roundw
      case rel => exact ⟨n + 1, by rw [← Nat.add_assoc, ET.out]; go_num, by have := ET.out; omega, by rw [ES.out]; exact W8.out⟩
      case measure => simp [intOf]; omega
    have hnR : n = R - t - 1 := by omega
    have W2 : Hid (S3W R C ga gu gv na nu nv ca cu cv w (G 0) wr) := by refine Lib.hid ?_; rw [G0.out, ← hnR]; exact WR.out
    have e9 : t + 1 + n = R := by omega
    rw [e9]
    clear WR hnR CEF DOF SZF NUX G0 hlt hn e9
    go_wp2_with fail
    clear p0 p1 p2
    go_loopw [15, 16, 17, 18, 19] (fun v15 _ _ _ _ wq => ∃ n : Nat, v15 = .int .i64 ((t + 1 + n : Nat) : Int) ∧ t + 1 + n ≤ C ∧ S3W R C ga gu gv na nu nv ca cu cv w (G n) wq) (fun v15 _ _ _ _ _ => C - (intOf v15).toNat)
    case atStart => exact ⟨0, by go_num, by omega, W2.out⟩
    case round =>
      clear W2
      rename World => wr
      obtain ⟨n, rfl, hn, hW⟩ := hrel
      have WR := Lib.hid hW
      clear hW
      obtain ⟨p0, p1, p2, -, -, -⟩ := WR.out.k0.all
      by_cases hlt : t + 1 + n < C
      · have CX := Lib.hid (fun w' => CEG.out n w' hlt)
        have ES := Lib.hid (DOG.out n hlt)
        have NX := NUY.out (t + 1 + n)
        have SZ := Lib.hid (SZG.out n)
        obtain ⟨T, hT⟩ : ∃ T, t + 1 + n = T := ⟨_, rfl⟩
        have ET := Lib.hid hT
        rw [hT] at CX ES NX hlt ⊢
        obtain ⟨x, hx⟩ : ∃ x, Y T = x := ⟨_, rfl⟩
        rw [hx] at CX ES NX
        clear hT hx
        have C1 := Lib.hid (CX.out _ WR.out)
        go_wp2_with fail
        refine C1.out.mono ?_
        rintro e w5 ⟨rfl, hb5⟩
        have W5 := Lib.hid (WR.out.step hb5)
        clear hb5 C1 WR p0 p1 p2
        obtain ⟨p0, p1, p2, -, -, -⟩ := W5.out.k0.all
        by_cases hx0 : x = 0
        · have n2 : (x != 0) = false := by simp [hx0]
          have ES : Hid (G (n + 1) = G n) := by refine Lib.hid ?_; rw [ES.out, if_neg (fun h => h hx0)]
          clear hx0
          go_wp2_with fail
          go_roundw
          case rel => exact ⟨n + 1, by rw [← Nat.add_assoc, ET.out]; go_num, by have := ET.out; omega, by rw [ES.out]; exact W5.out⟩
          case measure => simp [intOf]; omega
        have n2 : (x != 0) = true := by simpa using hx0
        have n3 : (x != -4611686018427387904) = true := by obtain ⟨x1, x2⟩ := NX; simp; omega
        have ES : Hid (G (n + 1) = col3 C 2 T t (-(x / p)) (G n)) := by refine Lib.hid ?_; rw [ES.out, if_pos hx0]
        have C2 := Lib.hid (CX.out _ W5.out)
        have D2 := Lib.hid (fun w' => DV.out x w' NX)
        have NQ := QN.out x NX
        generalize x % p = rm at D2
        obtain ⟨qq, hqq⟩ : ∃ qq, x / p = qq := ⟨_, rfl⟩
        rw [hqq] at ES NQ D2
        obtain ⟨q1, q2⟩ := NQ
        obtain ⟨z, hz⟩ : ∃ z, -qq = z := ⟨_, rfl⟩
        have v1 : IntKind.i64.wrap (-qq) = z := by rw [hz]; exact IntWalk.i64_in _ (by omega)
        rw [hz] at ES
        clear hx0 hqq hz NX q1 q2
        go_wp2_with fail
        refine C2.out.mono ?_
        rintro e w6 ⟨rfl, hb6⟩
        have W6 := Lib.hid (W5.out.step hb6)
        clear hb6 C2 W5 p0 p1 p2
        obtain ⟨p0, p1, p2, -, -, -⟩ := W6.out.k0.all
        have C3 := Lib.hid (CX.out _ W6.out)
        clear CX
        go_wp2_with fail
        refine C3.out.mono ?_
        rintro e w6' ⟨rfl, hb6⟩
        have W6' := Lib.hid (W6.out.step hb6)
        clear hb6 C3 W6 p0 p1 p2
        go_wp2_with fail
        refine (D2.out _).mono ?_
        rintro e w7 ⟨rfl, hb7⟩
        have W7 := Lib.hid (W6'.out.step hb7)
        clear hb7 D2 W6'
        have W7a := Lib.hid (W7.out.step ((Below.refl _ _).alloc (Nat.le_refl _) (.cells #[.int .i64 2, .int .i64 T, .int .i64 t, .int .i64 z] 97)))
        have B4 : Hid (Blk4 (w7.alloc (.cells #[.int .i64 2, .int .i64 T, .int .i64 t, .int .i64 z] 97)) w7.heap.size 97 (.int .i64 2) (.int .i64 T) (.int .i64 t) (.int .i64 z)) := Blk4.at_ _ _ _ _ _ rfl
        have GB : Hid (ga < w7.heap.size ∧ gv < w7.heap.size ∧ gu < w7.heap.size) := by have := HN.out; have := W7.out.f.size; exact ⟨by omega, by omega, by omega⟩
        clear W7
        go_upto_region 15 with fail
        obtain ⟨bx, hbx⟩ : ∃ bx, w7.heap.size = bx := ⟨_, rfl⟩
        rw [hbx] at B4 GB ⊢
        generalize w7.alloc (.cells #[.int .i64 2, .int .i64 T, .int .i64 t, .int .i64 z] 97) = W7' at W7a B4 ⊢
        clear hbx
        obtain ⟨p0, p1, p2, -, -, -⟩ := W7a.out.k0.all
        obtain ⟨q0, q1, q2, q3⟩ := B4.out.all
        go_wp2_with fail
        refine (COLA.out _ _ T t z W7a.out SZ.out hlt htC).mono ?_
        rintro e w8 ⟨rfl, h8, g8⟩
        have W8 := Lib.hid h8
        have B5 : Hid (Blk4 w8 bx 97 (.int .i64 2) (.int .i64 T) (.int .i64 t) (.int .i64 z)) := B4.out.keepOne g8 (by have := GB.out; omega)
        clear h8 g8 W7a p0 p1 p2 q0 q1 q2 q3 B4
        obtain ⟨u0, u1, u2, -, -, -⟩ := W8.out.k2.all
        obtain ⟨q0, q1, q2, q3⟩ := B5.out.all
        go_wp2_with fail
        refine (COLV.out _ _ T t z W8.out SZ.out hlt htC).mono ?_
        rintro e w9 ⟨rfl, h9⟩
        have W9 := Lib.hid h9
        clear h9 W8 u0 u1 u2 q0 q1 q2 q3 B5
        go_wp2_with fail
        go_roundw
        case rel => exact ⟨n + 1, by rw [← Nat.add_assoc, ET.out]; go_num, by have := ET.out; omega, by rw [ES.out]; exact W9.out⟩
        case measure => simp [intOf]; omega
      have hnC : n = C - t - 1 := by omega
      have W3 : Hid (S3W R C ga gu gv na nu nv ca cu cv w r wr) := by refine Lib.hid ?_; rw [← GE.out, ← hnC]; exact WR.out
      have e9 : t + 1 + n = C := by omega
      rw [e9]
      clear WR hnC CEG DOG SZG NUY GE DV COLA COLV QN hlt hn e9
      go_wp2_with fail
      clear p0 p1 p2
      go_loopw [10, 20] (fun v10 v20 wq => ∃ (i : Nat) (c : Bool), v20 = .int .i64 i ∧ v10 = .bool c ∧ t + 1 ≤ i ∧ i ≤ R ∧ (c = true ↔ clI t (fun i => Z i t) i) ∧ S3W R C ga gu gv na nu nv ca cu cv w r wq) (fun _ v20 _ => R - (intOf v20).toNat)
      case atStart => exact ⟨t + 1, true, by go_num, rfl, Nat.le_refl _, htR, ⟨fun _ => SRT.out _, fun _ => rfl⟩, W3.out⟩
      case round =>
        clear W3
        rename World => wr
        obtain ⟨i, c, rfl, rfl, hi1, hi2, hc, hW⟩ := hrel
        have HC := Lib.hid hc
        have WR := Lib.hid hW
        clear hc hW
        obtain ⟨p0, p1, p2, -, -, -⟩ := WR.out.k0.all
        by_cases hlt : i < R
        · have SP := Lib.hid (STP.out (fun i => Z i t) i (by omega))
          cases c with
          | false =>
            go_wp2_with fail
            go_roundw
            case rel => exact ⟨i + 1, false, by go_num, rfl, by omega, by omega, ⟨fun h => (by cases h), fun h => HC.out.2 (SP.out.1 h).1⟩, WR.out⟩
            case measure => simp [intOf]; omega
          | true =>
            have CX := Lib.hid (CER.out i t wr hlt htC WR.out)
            have SP : Hid (clI t (fun i => Z i t) (i + 1) ↔ (clI t (fun i => Z i t) i ∧ Z i t = 0)) := SP
            obtain ⟨x, hx⟩ : ∃ x, Z i t = x := ⟨_, rfl⟩
            rw [hx] at CX SP
            clear hx
            go_wp2_with fail
            refine CX.out.mono ?_
            rintro e w5 ⟨rfl, hb5⟩
            have W5 := Lib.hid (WR.out.step hb5)
            clear hb5 CX WR p0 p1 p2
            by_cases hx0 : x = 0
            · have n2 : (x == 0) = true := by simp [hx0]
              have V := Lib.hid (SP.out.2 ⟨HC.out.1 (by trivial), hx0⟩)
              clear hx0
              go_wp2_with fail
              go_roundw
              case rel => exact ⟨i + 1, true, by go_num, rfl, by omega, by omega, ⟨fun _ => V.out, fun _ => rfl⟩, W5.out⟩
              case measure => simp [intOf]; omega
            · have n2 : (x == 0) = false := by simpa using hx0
              have V := Lib.hid (fun h => hx0 (SP.out.1 h).2)
              clear hx0
              go_wp2_with fail
              go_roundw
              case rel => exact ⟨i + 1, false, by go_num, rfl, by omega, by omega, ⟨fun h => (by cases h), fun h => (V.out h).elim⟩, W5.out⟩
              case measure => simp [intOf]; omega
        obtain rfl : R = i := by omega
        go_wp2_with fail
        clear p0 p1 p2 hlt hi1 hi2
        go_loopw [10, 21] (fun v10 v21 wq => ∃ (j : Nat) (c' : Bool), v21 = .int .i64 j ∧ v10 = .bool c' ∧ t + 1 ≤ j ∧ j ≤ C ∧ (c' = true ↔ (c = true ∧ clI t (fun j => Z t j) j)) ∧ S3W R C ga gu gv na nu nv ca cu cv w r wq) (fun _ v21 _ => C - (intOf v21).toNat)
        case atStart => exact ⟨t + 1, c, by go_num, rfl, Nat.le_refl _, htC, ⟨fun h => ⟨h, SRT.out _⟩, fun h => h.1⟩, WR.out⟩
        case round =>
          clear WR
          rename World => wr
          obtain ⟨j, c', rfl, rfl, hj1, hj2, hc, hW⟩ := hrel
          have HD := Lib.hid hc
          have WR := Lib.hid hW
          clear hc hW
          obtain ⟨p0, p1, p2, -, -, -⟩ := WR.out.k0.all
          by_cases hlt : j < C
          · have SP := Lib.hid (STP.out (fun j => Z t j) j (by omega))
            cases c' with
            | false =>
              go_wp2_with fail
              go_roundw
              case rel => exact ⟨j + 1, false, by go_num, rfl, by omega, by omega, ⟨fun h => (by cases h), fun h => HD.out.2 ⟨h.1, (SP.out.1 h.2).1⟩⟩, WR.out⟩
              case measure => simp [intOf]; omega
            | true =>
              have CX := Lib.hid (CER.out t j wr htR hlt WR.out)
              have SP : Hid (clI t (fun j => Z t j) (j + 1) ↔ (clI t (fun j => Z t j) j ∧ Z t j = 0)) := SP
              obtain ⟨x, hx⟩ : ∃ x, Z t j = x := ⟨_, rfl⟩
              rw [hx] at CX SP
              clear hx
              go_wp2_with fail
              refine CX.out.mono ?_
              rintro e w5 ⟨rfl, hb5⟩
              have W5 := Lib.hid (WR.out.step hb5)
              clear hb5 CX WR p0 p1 p2
              by_cases hx0 : x = 0
              · have n2 : (x == 0) = true := by simp [hx0]
                have V := Lib.hid (And.intro (HD.out.1 (by trivial)).1 (SP.out.2 ⟨(HD.out.1 (by trivial)).2, hx0⟩))
                clear hx0
                go_wp2_with fail
                go_roundw
                case rel => exact ⟨j + 1, true, by go_num, rfl, by omega, by omega, ⟨fun _ => V.out, fun _ => rfl⟩, W5.out⟩
                case measure => simp [intOf]; omega
              · have n2 : (x == 0) = false := by simpa using hx0
                have V := Lib.hid (fun h => hx0 (SP.out.1 h).2)
                clear hx0
                go_wp2_with fail
                go_roundw
                case rel => exact ⟨j + 1, false, by go_num, rfl, by omega, by omega, ⟨fun h => (by cases h), fun h => (V.out h.2).elim⟩, W5.out⟩
                case measure => simp [intOf]; omega
          obtain rfl : C = j := by omega
          obtain ⟨cl, hcl⟩ : ∃ cl, clB R C t r = cl := ⟨_, rfl⟩
          have E : Hid (c' = cl) := by
            refine Lib.hid ?_
            have q1 := CB.out
            have q2 := HC.out
            have q3 := HD.out
            rw [hcl] at q1
            rw [Bool.eq_iff_iff, q3, q2, q1]
          rw [hcl] at LEFT NONE FOUND
          have E2 := E.out
          subst E2
          clear E HC HD CB STP SRT hcl
          go_wp2_with fail
          clear p0 p1 p2 hlt hj1 hj2
          have SQ0 : Hid ((c' = true ∧ DNot R C t p r (t + 1) 0) ∨ (c' = false ∧ RndP R C t s false r)) := by
            refine Lib.hid ?_
            cases hq : c' with
            | true => exact .inl ⟨rfl, DNot.start _⟩
            | false => exact .inr ⟨rfl, LEFT.out hq⟩
          go_loopw [10, 22, 23] (fun v10 v22 _ wq => ∃ (i : Nat) (c2 : Bool) (sq : SSt), v22 = .int .i64 i ∧ v10 = .bool c2 ∧ t + 1 ≤ i ∧ i ≤ R ∧ S3W R C ga gu gv na nu nv ca cu cv w sq wq ∧ ((c2 = true ∧ c' = true ∧ sq = r ∧ DNot R C t p r i 0) ∨ (c2 = false ∧ RndP R C t s false sq))) (fun _ v22 _ _ => R - (intOf v22).toNat)
          case atStart =>
            refine ⟨t + 1, c', r, by go_num, rfl, Nat.le_refl _, htR, WR.out, ?_⟩
            rcases SQ0.out with ⟨q1, q2⟩ | q
            · exact .inl ⟨q1, q1, rfl, q2⟩
            · exact .inr q
          case round =>
            clear WR SQ0 LEFT
            rename World => wr
            obtain ⟨i, c2, sq, rfl, rfl, hi1, hi2, hW, hd⟩ := hrel
            have WR := Lib.hid hW
            clear hW
            obtain ⟨p0, p1, p2, -, -, -⟩ := WR.out.k0.all
            rcases hd with ⟨rfl, hq1, rfl, hdn⟩ | ⟨rfl, hrp⟩
            rotate_left
            · have RP := Lib.hid hrp
              clear hrp
              by_cases hlt : i < R
              · go_wp2_with fail
                go_ret
                exact ⟨false, sq, rfl, RP.out, WR.out.a, WR.out.u, WR.out.v, WR.out.f⟩
              · go_wp2_with fail
                go_ret
                exact ⟨false, sq, rfl, RP.out, WR.out.a, WR.out.u, WR.out.v, WR.out.f⟩
            have HQ := Lib.hid hq1
            have DN := Lib.hid hdn
            clear hdn hq1
            by_cases hlt : i < R
            rotate_left
            · obtain rfl : R = i := by omega
              have RP := Lib.hid (NONE.out HQ.out DN.out)
              go_wp2_with fail
              go_ret
              exact ⟨true, sq, rfl, RP.out, WR.out.a, WR.out.u, WR.out.v, WR.out.f⟩
            go_wp2_with fail
            clear p0 p1 p2
            go_loopw [10, 23] (fun v10 v23 wq => ∃ (j : Nat) (c3 : Bool) (sp : SSt), v23 = .int .i64 j ∧ v10 = .bool c3 ∧ t + 1 ≤ j ∧ j ≤ C ∧ S3W R C ga gu gv na nu nv ca cu cv w sp wq ∧ ((c3 = true ∧ sp = sq ∧ DNot R C t p sq i j) ∨ (c3 = false ∧ RndP R C t s false sp))) (fun _ v23 _ => C - (intOf v23).toNat)
            case atStart => exact ⟨t + 1, true, sq, by go_num, rfl, Nat.le_refl _, htC, WR.out, .inl ⟨rfl, rfl, DN.out.row0⟩⟩
            case round =>
              clear WR DN
              rename World => wr
              obtain ⟨j, c3, sp, rfl, rfl, hj1, hj2, hW, hd⟩ := hrel
              have WR := Lib.hid hW
              clear hW
              obtain ⟨p0, p1, p2, -, -, -⟩ := WR.out.k0.all
              rcases hd with ⟨rfl, rfl, hdn⟩ | ⟨rfl, hrp⟩
              rotate_left
              · have RP := Lib.hid hrp
                clear hrp
                by_cases hltC : j < C
                · go_wp2_with fail
                  go_roundw
                  case rel => exact ⟨i + 1, false, sp, by go_num, rfl, by omega, by omega, WR.out, .inr ⟨rfl, RP.out⟩⟩
                  case measure => simp [intOf]; omega
                · go_wp2_with fail
                  go_roundw
                  case rel => exact ⟨i + 1, false, sp, by go_num, rfl, by omega, by omega, WR.out, .inr ⟨rfl, RP.out⟩⟩
                  case measure => simp [intOf]; omega
              have DN := Lib.hid hdn
              clear hdn
              by_cases hltC : j < C
              rotate_left
              · obtain rfl : C = j := by omega
                have DR := Lib.hid DN.out.row
                go_wp2_with fail
                go_roundw
                case rel => exact ⟨i + 1, true, sp, by go_num, rfl, by omega, by omega, WR.out, .inl ⟨rfl, HQ.out, rfl, DR.out⟩⟩
                case measure => simp [intOf]; omega
              have CX := Lib.hid (fun w' h => CER.out i j w' hlt hltC h)
              have DS := Lib.hid (DNS.out i j DN.out)
              have FO := Lib.hid (FOUND.out i j HQ.out (by omega) hlt (by omega) hltC DN.out)
              have ORX := OR.out i j
              obtain ⟨x, hx⟩ : ∃ x, Z i j = x := ⟨_, rfl⟩
              rw [hx] at CX DS FO ORX
              clear hx
              have C1 := Lib.hid (CX.out _ WR.out)
              go_wp2_with fail
              refine C1.out.mono ?_
              rintro e w5 ⟨rfl, hb5⟩
              have W5 := Lib.hid (WR.out.step hb5)
              clear hb5 C1 WR p0 p1 p2
              obtain ⟨p0, p1, p2, -, -, -⟩ := W5.out.k0.all
              rcases ORX with hxb | hxn
              · have n2 : (x != -4611686018427387904) = false := by rw [hxb]; rfl
                have D2 := Lib.hid (DS.out (.inl hxb))
                clear hxb
                go_wp2_with fail
                go_roundw
                case rel => exact ⟨j + 1, true, sp, by go_num, rfl, by omega, by omega, W5.out, .inl ⟨rfl, rfl, D2.out⟩⟩
                case measure => simp [intOf]; omega
              obtain ⟨x1, x2⟩ := hxn
              have n2 : (x != -4611686018427387904) = true := by simp; omega
              have C2 := Lib.hid (CX.out _ W5.out)
              have pz : (p == 0) = false := by simpa using HPZ.out
              have T1 := tmod_small x p HPZ.out
              obtain ⟨pn1, pn2⟩ := NP.out
              obtain ⟨tm, htm⟩ : ∃ tm, x.tmod p = tm := ⟨_, rfl⟩
              have TD : Hid (tm = 0 ↔ x % p = 0) := by
                refine Lib.hid ?_
                rw [← htm, ← Int.dvd_iff_tmod_eq_zero, ← Int.dvd_iff_emod_eq_zero]
              rw [htm] at T1
              have vm : IntKind.i64.wrap (x.tmod p) = tm := by rw [htm]; exact IntWalk.i64_in _ (by omega)
              have vx : IntKind.i64.wrap x = x := IntWalk.i64_in _ (by omega)
              go_wp2_with fail
              refine C2.out.mono ?_
              rintro e w6 ⟨rfl, hb6⟩
              have W6 := Lib.hid (W5.out.step hb6)
              clear hb6 C2 W5 p0 p1 p2 CX
              obtain ⟨p0, p1, p2, -, -, -⟩ := W6.out.k0.all
              obtain ⟨u0, u1, u2, -, -, -⟩ := W6.out.k1.all
              by_cases ht0 : tm = 0
              · have n3 : (tm != 0) = false := by simp [ht0]
                have D2 := Lib.hid (DS.out (.inr (TD.out.1 ht0)))
                clear ht0
                go_wp2_with fail
                go_roundw
                case rel => exact ⟨j + 1, true, sp, by go_num, rfl, by omega, by omega, W6.out, .inl ⟨rfl, rfl, D2.out⟩⟩
                case measure => simp [intOf]; omega
              · have n3 : (tm != 0) = true := by simpa using ht0
                have RP := Lib.hid (FO.out (fun h => ht0 (TD.out.2 h)))
                clear ht0
                go_wp2_with fail
                refine (ROW.out _ _ t i 1 W6.out SZR.out htR hlt).mono ?_
                rintro e w8 ⟨rfl, h8⟩
                have W8 := Lib.hid h8
                clear h8 W6 p0 p1 p2 u0 u1 u2
                go_wp2_with fail
                go_roundw
                case rel => exact ⟨j + 1, false, _, by go_num, rfl, by omega, by omega, W8.out, .inr ⟨rfl, RP.out⟩⟩
                case measure => simp [intOf]; omega
end Go.Proofs.Ytpelnfenfeoeeaa
end

section
/-
  Chapter 13, in the model: all rounds.
-/
namespace Go.Proofs.Ytpelnfenfeoeeaa
set_option maxRecDepth 100000
open Go.RowKit
theorem rnd_next {R C t f i j : Nat} {M : Mx} {s s' : SSt} {b : Bool} {LF : Option (SSt × Bool)} (hF : Fin3 R C M s) (hI : SmI R C (mxC C s.1) t) (hr : t < R) (hc : t < C) (hP : PlaceP R C t s i j) (hfu : FuelS R C t (f + 1) s) (hL : loopS R C t (f + 1) s = LF) (hR : RndP R C t (sw3 R C t i j s) b s') :
    (ok3 s' = false → LF = none) ∧ (ok3 s' = true → Fin3 R C M s' ∧ SmI R C (mxC C s'.1) t ∧ (b = false → FuelS R C t f s' ∧ loopS R C t f s' = LF) ∧ (b = true → LF = some (s', true))) := by
  obtain ⟨-, h1, h2⟩ := hR
  cases ho : ok3 (rdF R C t (sw3 R C t i j s)) with
  | false =>
    refine ⟨fun _ => ?_, fun h => ?_⟩
    · rw [← hL]; exact loopS_bad hP.eq ho
    · rw [h1 ho] at h; cases h
  | true =>
    obtain ⟨g1, g2, g3, -, -⟩ := round_says hF hI hr hc hP ho
    obtain ⟨h3, h4⟩ := h2 ho
    cases hcl : clB R C t (rdF R C t (sw3 R C t i j s)) with
    | false =>
      obtain ⟨rfl, rfl⟩ := h3 hcl
      refine ⟨fun h => (by rw [ho] at h; cases h), fun _ => ⟨g1, g2, fun _ => ⟨fuel_left hF hI hr hc hP hfu ho hcl, ?_⟩, fun h => (by cases h)⟩⟩
      rw [← hL]; exact (loopS_left hP.eq ho hcl).symm
    | true =>
      obtain ⟨h5, h6⟩ := h4 hcl
      cases hn : ndF R C t (rdF R C t (sw3 R C t i j s)) with
      | none =>
        obtain ⟨rfl, rfl⟩ := h5 hn
        refine ⟨fun h => (by rw [ho] at h; cases h), fun _ => ⟨g1, g2, fun h => (by cases h), fun _ => ?_⟩⟩
        rw [← hL]; exact loopS_done hP.eq ho hcl hn
      | some k =>
        obtain ⟨rfl, rfl⟩ := h6 k hn
        have e := loopS_add (f := f) hP.eq ho hcl hn
        obtain ⟨k0, k1, -⟩ := ndF_some hn
        refine ⟨fun h => ?_, fun h => ?_⟩
        · rw [← hL, e, if_neg (by rw [h]; decide)]
        · obtain ⟨q1, q2⟩ := g1.row (.inr (.inr rfl)) hr k1 (fun _ => by omega) (by decide) h
          refine ⟨q1, (g2.op (Nat.le_refl _) hr (by omega) k1).congr fun a b ha hb => q2 a b ha hb, fun _ => ⟨fuel_add hF hI hr hc hP hfu ho hcl hn h, ?_⟩, fun h => (by cases h)⟩
          rw [← hL, e, if_pos h]
theorem pl_none {R C t : Nat} {s : SSt} (h : plS R C t s = none) : plR C t (plL C t s ((R - t) * (C - t))) = -1 := by
  rw [pl_end] at h
  by_cases hl : plL C t s ((R - t) * (C - t)) < 0
  · unfold plR; rw [if_pos hl]
  · rw [if_neg hl] at h; cases h
theorem pl_some {R C t i j : Nat} {s : SSt} (h : plS R C t s = some (i, j)) : plR C t (plL C t s ((R - t) * (C - t))) = i ∧ plC C t (plL C t s ((R - t) * (C - t))) = j := by
  rw [pl_end] at h
  by_cases hl : plL C t s ((R - t) * (C - t)) < 0
  · rw [if_pos hl] at h; cases h
  · rw [if_neg hl] at h
    have h := Option.some.inj h
    have h1 := congrArg Prod.fst h
    have h2 := congrArg Prod.snd h
    dsimp only at h1 h2
    unfold plR at h1 ⊢
    unfold plC at h2 ⊢
    rw [if_neg hl] at h1 h2 ⊢
    rw [if_neg hl]
    rw [Int.toNat_natCast] at h1 h2
    rw [h1, h2]
    exact ⟨rfl, rfl⟩
section
variable {R C n t : Nat} {s u : SSt}
theorem outS_none (h : loopS R C t (fu0 R C t s) s = none) : outS R C (n + 1) t s = none := by
  show (match loopS R C t (fu0 R C t s) s with | none => none | some (u, b) => _) = _
  rw [h]
theorem outS_false (h : loopS R C t (fu0 R C t s) s = some (u, false)) : outS R C (n + 1) t s = some u := by
  show (match loopS R C t (fu0 R C t s) s with | none => none | some (u, b) => _) = _
  rw [h]; rfl
theorem outS_true (h : loopS R C t (fu0 R C t s) s = some (u, true)) : outS R C (n + 1) t s = outS R C n (t + 1) (ng3 R C t u) := by
  show (match loopS R C t (fu0 R C t s) s with | none => none | some (u, b) => _) = _
  rw [h]; rfl
end
def SmRes (ga gu gv : Nat) (o : Option SSt) (w : World) (e : Ending) (w' : World) : Prop := e = .returned (.bool o.isSome) ∧ FrS (fun b => b = ga ∨ b = gu ∨ b = gv) w w' ∧ ∀ s, o = some s → Ints w' ga s.1 ∧ Ints w' gu s.2.1 ∧ Ints w' gv s.2.2
theorem smX_start {R C : Nat} {xs : List Int} (hl : xs.length = R * C) (hn : nums xs = true) : Fin3 R C (mxC C xs) (xs, idL R R, idL C C) := ⟨⟨hl, idL_length R R, idL_length C C, MkOr.of_nums hn, MkOr.of_nums (idL_nums R), MkOr.of_nums (idL_nums C)⟩, ok3_of hn (idL_nums R) (idL_nums C), (Acc3.start R C (mxC C xs)).congr (mxL_idL R).symm (mxL_idL C).symm fun _ _ _ _ => rfl⟩
set_option maxHeartbeats 8000000 in
theorem sSmith (R C ga gu gv na nu nv ca cu cv : Nat) (xs : List Int) (w : World) (ha : Ints w ga xs) (hu : Ints w gu (idL R R)) (hv : Ints w gv (idL C C)) (h1 : ga ≠ gu) (h2 : ga ≠ gv) (h3 : gu ≠ gv) (hx : xs.length = na) (hna : na = R * C) (hnu : nu = R * R) (hnv : nv = C * C) (hR : R ≤ 24) (hC : C ≤ 24) (hno : nums xs = true) :
    Calls Try.prog 56 #[.agg #[.int .i64 R, .int .i64 C, .slice (some ⟨ga, 0, none⟩) na ca], .agg #[.int .i64 R, .int .i64 R, .slice (some ⟨gu, 0, none⟩) nu cu], .agg #[.int .i64 C, .int .i64 C, .slice (some ⟨gv, 0, none⟩) nv cv]] w (SmRes ga gu gv (smX R C xs) w) := by
  have la := ha.lt
  have lu := hu.lt
  have lv := hv.lt
  have F0 := Lib.hid (smX_start (by rw [hx, hna]) hno)
  have I0 : Hid (SmI R C (mxC C xs) 0) := SmI.start _ _ _
  have X0 : Hid (smX R C xs = outS R C (min R C - 0) 0 (xs, idL R R, idL C C)) := rfl
  have ln : na ≤ 16777216 := by have : R * C ≤ 24 * 24 := Nat.mul_le_mul hR hC; omega
  have lm : nu ≤ 16777216 := by have : R * R ≤ 24 * 24 := Nat.mul_le_mul hR hR; omega
  have lo : nv ≤ 16777216 := by have : C * C ≤ 24 * 24 := Nat.mul_le_mul hC hC; omega
  have W0 : Hid (S3W R C ga gu gv na nu nv ca cu cv w (xs, idL R R, idL C C) (((w.alloc (.cells #[.int .i64 R, .int .i64 C, .slice (some ⟨ga, 0, none⟩) na ca] 26)).alloc (.cells #[.int .i64 R, .int .i64 R, .slice (some ⟨gu, 0, none⟩) nu cu] 26)).alloc (.cells #[.int .i64 C, .int .i64 C, .slice (some ⟨gv, 0, none⟩) nv cv] 26))) := S3W.start ha hu hv
  have LE : Hid (∀ (s : SSt) w' (t : Nat), S3W R C ga gu gv na nu nv ca cu cv w s w' → Siz3 R C s → ok3 s = true → t < R → t < C → Calls Try.prog 107 #[.agg #[.int .i64 R, .int .i64 C, .slice (some ⟨ga, 0, none⟩) na ca], .int .i64 t] w' (Gives (.tuple #[.int .i64 (plR C t (plL C t s ((R - t) * (C - t)))), .int .i64 (plC C t (plL C t s ((R - t) * (C - t))))]) w')) := fun s w' t q1 q2 q3 q4 q5 => sLeast2 R C _ na ca t s w' q1.a.rd (by rw [q2.l1, hna]) hna hR hC q4 q5 (ok3_and q3).1
  have CE : Hid (∀ (s : SSt) w' (i j : Nat), S3W R C ga gu gv na nu nv ca cu cv w s w' → Siz3 R C s → i < R → j < C → Calls Try.prog 63 #[.agg #[.int .i64 R, .int .i64 C, .slice (some ⟨ga, 0, none⟩) na ca], .int .i64 i, .int .i64 j] w' (Gives (.int .i64 (cel3S C s i j)) w')) := fun s w' i j q1 q2 q3 q4 => s3_cel hna hR hC s w' i j q1 q2 q3 q4
  have ROW : Hid (∀ (s' : SSt) w' (k z : Int) (I J : Nat), S3W R C ga gu gv na nu nv ca cu cv w s' w' → Siz3 R C s' → I < R → J < R → (k = 0 ∨ k = 1 ∨ k = 2) → (k = 0 → I ≠ J) → Calls Try.prog 108 #[.agg #[.int .i64 R, .int .i64 C, .slice (some ⟨ga, 0, none⟩) na ca], .agg #[.int .i64 R, .int .i64 R, .slice (some ⟨gu, 0, none⟩) nu cu], .agg #[.int .i64 k, .int .i64 I, .int .i64 J, .int .i64 z]] w' (fun e w2 => Void e ∧ S3W R C ga gu gv na nu nv ca cu cv w (row3 R C k I J z s') w2)) := fun s' w' k z I J h q1 q2 q3 q4 q5 => s3_row la lu lv h1 h2 h3 hna hnu hR hC s' w' k z I J h q1 q2 q3 q4 q5
  have COLA : Hid (∀ (s' : SSt) w' (I J : Nat) (z : Int), S3W R C ga gu gv na nu nv ca cu cv w s' w' → Siz3 R C s' → I < C → J < C → I ≠ J → Calls Try.prog 109 #[.agg #[.int .i64 R, .int .i64 C, .slice (some ⟨ga, 0, none⟩) na ca], .agg #[.int .i64 0, .int .i64 I, .int .i64 J, .int .i64 z]] w' (fun e w2 => Void e ∧ S3W R C ga gu gv na nu nv ca cu cv w (colL 0 I J z C s'.1, s'.2.1, s'.2.2) w2 ∧ w'.grownBy w2 (some ga))) := fun s' w' I J z h q1 q2 q3 q4 => s3_colA la lu lv h1 h2 hna hR hC s' w' 0 z I J h q1 q2 q3 (.inl rfl) (fun _ => q4)
  have COLV : Hid (∀ (s' : SSt) w' (I J : Nat) (z : Int), S3W R C ga gu gv na nu nv ca cu cv w (colL 0 I J z C s'.1, s'.2.1, s'.2.2) w' → Siz3 R C s' → I < C → J < C → I ≠ J → Calls Try.prog 109 #[.agg #[.int .i64 C, .int .i64 C, .slice (some ⟨gv, 0, none⟩) nv cv], .agg #[.int .i64 0, .int .i64 I, .int .i64 J, .int .i64 z]] w' (fun e w2 => Void e ∧ S3W R C ga gu gv na nu nv ca cu cv w (col3 C 0 I J z s') w2)) := fun s' w' I J z h q1 q2 q3 q4 => s3_colV la lu lv h2 h3 hnv hC s' w' 0 z I J h q1 q2 q3 (.inl rfl) (fun _ => q4)
  have RND : Hid (∀ (s' : SSt) w' (t : Nat), S3W R C ga gu gv na nu nv ca cu cv w s' w' → Siz3 R C s' → ok3 s' = true → t < R → t < C → cel3S C s' t t ≠ 0 → Calls Try.prog 110 #[.agg #[.int .i64 R, .int .i64 C, .slice (some ⟨ga, 0, none⟩) na ca], .agg #[.int .i64 R, .int .i64 R, .slice (some ⟨gu, 0, none⟩) nu cu], .agg #[.int .i64 C, .int .i64 C, .slice (some ⟨gv, 0, none⟩) nv cv], .int .i64 t] w' (fun e w2 => ∃ b s2, e = .returned (.bool b) ∧ RndP R C t s' b s2 ∧ S3W R C ga gu gv na nu nv ca cu cv w s2 w2)) := fun s' w' t h q1 q2 q3 q4 q5 => by
    refine (sRound R C ga gu gv na nu nv ca cu cv t s' w' h.a h.u h.v h1 h2 h3 hna hnu hnv hR hC q1 q2 q3 q4 q5).mono ?_
    rintro e w2 ⟨b, s2, r1, r2, r3, r4, r5, r6⟩
    exact ⟨b, s2, r1, r2, h.next la lu lv r3 r4 r5 r6⟩
  have BA : Hid (∀ (s : SSt) w', S3W R C ga gu gv na nu nv ca cu cv w s w' → Siz3 R C s → Calls Try.prog 111 #[.slice (some ⟨ga, 0, none⟩) na ca] w' (Gives (.bool (!nums s.1)) w')) := fun s w' q1 q2 => sBads _ na ca s.1 w' q1.a.rd (by rw [q2.l1, hna]) ln q2.m1
  have BU : Hid (∀ (s : SSt) w', S3W R C ga gu gv na nu nv ca cu cv w s w' → Siz3 R C s → Calls Try.prog 111 #[.slice (some ⟨gu, 0, none⟩) nu cu] w' (Gives (.bool (!nums s.2.1)) w')) := fun s w' q1 q2 => sBads _ nu cu s.2.1 w' q1.u.rd (by rw [q2.l2, hnu]) lm q2.m2
  have BV : Hid (∀ (s : SSt) w', S3W R C ga gu gv na nu nv ca cu cv w s w' → Siz3 R C s → Calls Try.prog 111 #[.slice (some ⟨gv, 0, none⟩) nv cv] w' (Gives (.bool (!nums s.2.2)) w')) := fun s w' q1 q2 => sBads _ nv cv s.2.2 w' q1.v.rd (by rw [q2.l3, hnv]) lo q2.m3
  generalize smX R C xs = X at X0 ⊢
  obtain ⟨M, hM⟩ : ∃ M, mxC C xs = M := ⟨_, rfl⟩
  rw [hM] at F0
  obtain ⟨N, hN⟩ : ∃ N, min R C = N := ⟨_, rfl⟩
  have NR : N ≤ R ∧ N ≤ C := by rw [← hN]; exact ⟨Nat.min_le_left _ _, Nat.min_le_right _ _⟩
  have NR := Lib.hid NR
  rw [hN] at X0
  have vm3 : Hid (∀ d : Decidable (C < R), (@ite Int (C < R) d (C : Int) (R : Int)) = (N : Int)) := fun d => by rw [← hN]; split <;> omega
  have vm4 : Hid (min (R : Int) (C : Int) = (N : Int)) := by refine Lib.hid ?_; rw [← hN]; omega
  clear ha hu hv h1 h2 h3 hx hna hnu hnv hno ln lm lo hM hN la lu lv
  go_enter Try.func56, Try.ntmps56
  go_upto_region 1 with fail
  generalize ((w.alloc (.cells #[.int .i64 R, .int .i64 C, .slice (some ⟨ga, 0, none⟩) na ca] 26)).alloc (.cells #[.int .i64 R, .int .i64 R, .slice (some ⟨gu, 0, none⟩) nu cu] 26)).alloc (.cells #[.int .i64 C, .int .i64 C, .slice (some ⟨gv, 0, none⟩) nv cv] 26) = W0' at W0 ⊢
  go_wp2_with fail
  go_loopw [7, 8, 9, 10] (fun v7 _ _ _ wq => ∃ (t : Nat) (s : SSt), v7 = .int .i64 t ∧ t ≤ N ∧ Fin3 R C M s ∧ SmI R C (mxC C s.1) t ∧ X = outS R C (N - t) t s ∧ S3W R C ga gu gv na nu nv ca cu cv w s wq) (fun v7 _ _ _ _ => N - (intOf v7).toNat)
  case atStart => exact ⟨0, (xs, idL R R, idL C C), rfl, Nat.zero_le _, F0.out, I0.out, X0.out, W0.out⟩
  case round =>
    clear W0 F0 X0 I0
    obtain ⟨t, s, rfl, ht, hF, hI, hX, hW⟩ := hrel
    have FN := Lib.hid hF
    have IN := Lib.hid hI
    have EX := Lib.hid hX
    have WS := Lib.hid hW
    clear hF hI hX hW
    obtain ⟨p0, p1, p2, -, -, -⟩ := WS.out.k0.all
    go_upto_if 17 with fail
    first | simp only [vm3.out] | simp only [vm4.out]
    by_cases htN : t < N
    rotate_left
    · obtain rfl : N = t := by omega
      have V : Hid (X = some s) := by refine Lib.hid ?_; rw [EX.out, Nat.sub_self]; rfl
      go_wp2_with fail
      rw [V.out]
      exact bodyPost_ret (v := .bool true) (by simp [results, Try.results56, go_sem]) rfl ⟨rfl, WS.out.f, fun s' h => by cases h; exact ⟨WS.out.a, WS.out.u, WS.out.v⟩⟩
    have hd9 : decide ((t : Int) < (N : Int)) = true := decide_eq_true (by omega)
    simp only [hd9]
    clear hd9
    have htR : t < R := by have := NR.out; omega
    have htC : t < C := by have := NR.out; omega
    obtain ⟨m, hm⟩ : ∃ m, N - t = m + 1 := ⟨N - t - 1, by omega⟩
    have EX : Hid (X = outS R C (m + 1) t s) := by rw [← hm]; exact EX.out
    have EM : Hid (N - (t + 1) = m) := by show _ = _; omega
    obtain ⟨f0, hf0⟩ : ∃ f0, fu0 R C t s = f0 := ⟨_, rfl⟩
    obtain ⟨LF, hLF⟩ : ∃ LF, loopS R C t f0 s = LF := ⟨_, rfl⟩
    have FU : Hid (FuelS R C t f0 s) := by rw [← hf0]; exact FuelS.start R C t s
    have XN : Hid (LF = none → X = none) := fun h => by rw [EX.out]; exact outS_none (by rw [hf0, hLF, h])
    have XF : Hid (∀ u, LF = some (u, false) → X = some u) := fun u h => by rw [EX.out]; exact outS_false (by rw [hf0, hLF, h])
    have XT : Hid (∀ u, LF = some (u, true) → X = outS R C m (t + 1) (ng3 R C t u)) := fun u h => by rw [EX.out]; exact outS_true (by rw [hf0, hLF, h])
    have NS : Hid (∀ u, LF = some (u, true) → Fin3 R C M (ng3 R C t u) ∧ SmI R C (mxC C (ng3 R C t u).1) (t + 1)) := fun u h => by
      obtain ⟨g1, g2, -, g4⟩ := loopS_says htR htC f0 s FN.out IN.out (hLF.trans h)
      obtain ⟨g5, g6, g7, g8⟩ := g4 rfl
      exact ng3_says g1 g2 htR htC g5 g6 g7 g8
    clear hm EX hf0
    go_wp2_with fail
    clear p0 p1 p2
    go_loopg [8, 9, 10] f0 (fun gk v8 _ _ wq => ∃ (s1 : SSt) (d : Bool), v8 = .bool d ∧ Fin3 R C M s1 ∧ SmI R C (mxC C s1.1) t ∧ S3W R C ga gu gv na nu nv ca cu cv w s1 wq ∧ (d = false → FuelS R C t gk s1 ∧ loopS R C t gk s1 = LF) ∧ (d = true → LF = some (s1, true)))
    case atStart => exact ⟨s, false, rfl, FN.out, IN.out, WS.out, fun _ => ⟨FU.out, hLF⟩, fun h => by cases h⟩
    case round =>
      clear FU WS hLF FN IN
      obtain ⟨s1, d, rfl, hF, hI, hW, hd0, hd1⟩ := hrel
      have FN := Lib.hid hF
      have IN := Lib.hid hI
      have WS := Lib.hid hW
      clear hF hI hW
      obtain ⟨p0, p1, p2, -, -, -⟩ := WS.out.k0.all
      cases d with
      | true =>
        have EL := Lib.hid (hd1 rfl)
        clear hd0 hd1
        obtain ⟨g1, g2⟩ := NS.out s1 EL.out
        have F2 := Lib.hid g1
        have I2 := Lib.hid g2
        have X2 := Lib.hid (XT.out s1 EL.out)
        have CE1 := Lib.hid (CE.out s1 wr t t WS.out FN.out.siz htR htC)
        have NG1 : Hid (cel3S C s1 t t < 0 → row3 R C 1 t t 0 s1 = ng3 R C t s1) := fun h => by unfold ng3; rw [if_pos h]
        have NG2 : Hid (¬ cel3S C s1 t t < 0 → s1 = ng3 R C t s1) := fun h => by unfold ng3; rw [if_neg h]
        have OPN := Lib.hid (ROW.out s1)
        have SZ := Lib.hid FN.out.siz
        clear g1 g2 XN XF XT NS EL
        generalize ng3 R C t s1 = s9 at F2 I2 X2 NG1 NG2
        obtain ⟨x, hx⟩ : ∃ x, cel3S C s1 t t = x := ⟨_, rfl⟩
        rw [hx] at CE1 NG1 NG2
        clear hx
        go_wp2_with fail
        refine CE1.out.mono ?_
        rintro e w5 ⟨rfl, hb5⟩
        have W5 := Lib.hid (WS.out.step hb5)
        clear hb5 CE1 WS p0 p1 p2
        by_cases hx0 : x < 0
        · have OP2 := Lib.hid (OPN.out w5 1 0 t t W5.out SZ.out htR htR (.inr (.inl rfl)) (fun h => by cases h))
          rw [NG1.out hx0] at OP2
          obtain ⟨p0, p1, p2, -, -, -⟩ := W5.out.k0.all
          obtain ⟨u0, u1, u2, -, -, -⟩ := W5.out.k1.all
          go_wp2_with fail
          refine OP2.out.mono ?_
          rintro e w6 ⟨rfl, h6⟩
          have W6 := Lib.hid h6
          clear h6 p0 p1 p2 u0 u1 u2 W5
          go_wp2_with fail
          go_roundw
          case rel => exact ⟨t + 1, s9, by go_num, by omega, F2.out, I2.out, by rw [EM.out]; exact X2.out, W6.out⟩
          case measure => simp [intOf]; omega
        · have S2 : Hid (S3W R C ga gu gv na nu nv ca cu cv w s9 w5) := by refine Lib.hid ?_; rw [← NG2.out (by omega)]; exact W5.out
          go_wp2_with fail
          go_roundw
          case rel => exact ⟨t + 1, s9, by go_num, by omega, F2.out, I2.out, by rw [EM.out]; exact X2.out, S2.out⟩
          case measure => simp [intOf]; omega
      | false =>
        obtain ⟨hfu, hlf⟩ := hd0 rfl
        have FU := Lib.hid hfu
        have EL := Lib.hid hlf
        clear hfu hlf hd0 hd1
        have LE1 := Lib.hid (LE.out s1 wr t WS.out FN.out.siz FN.out.ok htR htC)
        rcases plS_says R C t s1 htR htC with ⟨hno, -⟩ | ⟨i, j, hP⟩
        · rw [pl_none hno] at LE1
          obtain ⟨f, rfl⟩ : ∃ f, gk = f + 1 := ⟨gk - 1, by have := FU.out.1; omega⟩
          have V := Lib.hid (XF.out s1 (by rw [← EL.out]; exact loopS_none hno))
          generalize plC C t (plL C t s1 ((R - t) * (C - t))) = zc at LE1
          clear hno XN XF XT NS
          go_wp2_with fail
          refine LE1.out.mono ?_
          rintro e w5 ⟨rfl, hb5⟩
          have W5 := Lib.hid (WS.out.step hb5)
          clear hb5 LE1 WS p0 p1 p2
          go_wp2_with fail
          rw [V.out]
          exact bodyPost_ret (v := .bool true) (by simp [results, Try.results56, go_sem]) rfl ⟨rfl, W5.out.f, fun s' h => by cases h; exact ⟨W5.out.a, W5.out.u, W5.out.v⟩⟩
        obtain ⟨e1, e2⟩ := pl_some hP.eq
        rw [e1, e2] at LE1
        obtain ⟨f, rfl⟩ : ∃ f, gk = f + 1 := ⟨gk - 1, by have := FU.out.1; omega⟩
        have hiR := hP.i1
        have hjC := hP.j1
        have O1 := ok3_sw (R := R) (C := C) (t := t) (i := i) (j := j) FN.out.ok
        obtain ⟨F1, I1, Z1⟩ := sw3_says FN.out IN.out htR htC hP.i0 hP.i1 hP.j0 hP.j1 O1
        have PZ : cel3S C (sw3 R C t i j s1) t t ≠ 0 := by rw [Z1]; exact hP.nz
        have NXT : Hid (∀ b s', RndP R C t (sw3 R C t i j s1) b s' → (ok3 s' = false → LF = none) ∧ (ok3 s' = true → Fin3 R C M s' ∧ SmI R C (mxC C s'.1) t ∧ (b = false → FuelS R C t f s' ∧ loopS R C t f s' = LF) ∧ (b = true → LF = some (s', true)))) := fun b s' h => rnd_next FN.out IN.out htR htC hP FU.out EL.out h
        obtain ⟨st1, hst1⟩ : ∃ st1, (if i ≠ t then row3 R C 0 i t 0 s1 else s1) = st1 := ⟨_, rfl⟩
        have SW1 : Hid (i ≠ t → row3 R C 0 i t 0 s1 = st1) := fun h => by rw [← hst1, if_pos h]
        have SW2 : Hid (i = t → s1 = st1) := fun h => by rw [← hst1, if_neg (fun h2 => h2 h)]
        have SZ0 := Lib.hid FN.out.siz
        have SZ1 : Hid (Siz3 R C st1) := by
          refine Lib.hid ?_
          rw [← hst1]
          split
          · exact FN.out.siz.row _ _ _ _
          · exact FN.out.siz
        have SE : sw3 R C t i j s1 = if j ≠ t then col3 C 0 j t 0 st1 else st1 := by unfold sw3; rw [hst1]
        obtain ⟨st2, hst2⟩ : ∃ st2, sw3 R C t i j s1 = st2 := ⟨_, rfl⟩
        have SV1 : Hid (j ≠ t → col3 C 0 j t 0 st1 = st2) := fun h => by rw [← hst2, SE, if_pos h]
        have SV2 : Hid (j = t → st1 = st2) := fun h => by rw [← hst2, SE, if_neg (fun h2 => h2 h)]
        rw [hst2] at O1 F1 PZ NXT
        have O2 := Lib.hid O1
        have SZ2 := Lib.hid F1.siz
        have PZ := Lib.hid PZ
        clear hst1 hst2 SE O1 F1 I1 Z1 e1 e2 hP FU EL IN FN XT XF NS
        have n5 : ¬ (i : Int) < 0 := by omega
        go_wp2_with fail
        refine LE1.out.mono ?_
        rintro e w5 ⟨rfl, hb5⟩
        have W5 := Lib.hid (WS.out.step hb5)
        clear hb5 LE1 WS p0 p1 p2
        go_upto_if 32 with fail
        go_cut [] (fun wx => S3W R C ga gu gv na nu nv ca cu cv w st1 wx)
        case first =>
          by_cases hit : i = t
          · have n2 : ((i : Int) != (t : Int)) = false := by simp [hit]
            have S2 : Hid (S3W R C ga gu gv na nu nv ca cu cv w st1 w5) := by refine Lib.hid ?_; rw [← SW2.out hit]; exact W5.out
            clear hit
            go_wp2_with fail
            go_meet
            exact S2.out
          · have n2 : ((i : Int) != (t : Int)) = true := by simp; omega
            have OPN := Lib.hid (ROW.out s1 w5 0 0 i t W5.out SZ0.out hiR htR (.inl rfl) (fun _ => hit))
            rw [SW1.out hit] at OPN
            obtain ⟨p0, p1, p2, -, -, -⟩ := W5.out.k0.all
            obtain ⟨u0, u1, u2, -, -, -⟩ := W5.out.k1.all
            clear hit
            go_wp2_with fail
            refine OPN.out.mono ?_
            rintro e w6 ⟨rfl, h6⟩
            have W6 := Lib.hid h6
            clear h6
            go_wp2_with fail
            go_meet
            exact W6.out
        case rest =>
          have WA := Lib.hid hcut
          clear hcut W5 SW1 SW2 SZ0
          rename World => wa
          go_upto_if 41 with fail
          go_cut [] (fun wx => S3W R C ga gu gv na nu nv ca cu cv w st2 wx)
          case first =>
            by_cases hjt : j = t
            · have n2 : ((j : Int) != (t : Int)) = false := by simp [hjt]
              have S2 : Hid (S3W R C ga gu gv na nu nv ca cu cv w st2 wa) := by refine Lib.hid ?_; rw [← SV2.out hjt]; exact WA.out
              clear hjt
              go_wp2_with fail
              go_meet
              exact S2.out
            · have n2 : ((j : Int) != (t : Int)) = true := by simp; omega
              have OPN := Lib.hid (COLA.out st1 wa j t 0 WA.out SZ1.out hjC htC hjt)
              have OPV := Lib.hid (fun w' h => COLV.out st1 w' j t 0 h SZ1.out hjC htC hjt)
              rw [SV1.out hjt] at OPV
              obtain ⟨p0, p1, p2, -, -, -⟩ := WA.out.k0.all
              clear hjt
              go_wp2_with fail
              refine OPN.out.mono ?_
              rintro e w6 ⟨rfl, h6, -⟩
              have W6 := Lib.hid h6
              clear h6 p0 p1 p2
              obtain ⟨p0, p1, p2, -, -, -⟩ := W6.out.k2.all
              go_wp2_with fail
              refine (OPV.out _ W6.out).mono ?_
              rintro e w7 ⟨rfl, h7⟩
              have W7 := Lib.hid h7
              clear h7 p0 p1 p2
              go_wp2_with fail
              go_meet
              exact W7.out
          case rest =>
            have WB := Lib.hid hcut
            clear hcut WA SV1 SV2 SZ1
            rename World => wb
            have RN := Lib.hid (RND.out st2 wb t WB.out SZ2.out O2.out htR htC PZ.out)
            obtain ⟨p0, p1, p2, -, -, -⟩ := WB.out.k0.all
            obtain ⟨u0, u1, u2, -, -, -⟩ := WB.out.k1.all
            obtain ⟨v0, v1, v2, -, -, -⟩ := WB.out.k2.all
            go_wp2_with fail
            refine RN.out.mono ?_
            rintro e w6 ⟨b, s', rfl, hrp, h6⟩
            have W6 := Lib.hid h6
            obtain ⟨g1, g2⟩ := NXT.out b s' hrp
            have SZ := Lib.hid hrp.1
            have BAD : Hid (ok3 s' = false → X = none) := fun h => XN.out (g1 h)
            have GO := Lib.hid g2
            clear h6 RN WB p0 p1 p2 u0 u1 u2 v0 v1 v2 hrp g1 g2 NXT O2 SZ2 PZ
            obtain ⟨p0, p1, p2, -, -, -⟩ := W6.out.k0.all
            have BA1 := Lib.hid (BA.out s' w6 W6.out SZ.out)
            have OK0 : Hid (ok3 s' = (nums s'.1 && nums s'.2.1 && nums s'.2.2)) := rfl
            obtain ⟨n1, hn1⟩ : ∃ b, nums s'.1 = b := ⟨_, rfl⟩
            obtain ⟨n2, hn2⟩ : ∃ b, nums s'.2.1 = b := ⟨_, rfl⟩
            obtain ⟨n3, hn3⟩ : ∃ b, nums s'.2.2 = b := ⟨_, rfl⟩
            rw [hn1] at BA1
            rw [hn1, hn2, hn3] at OK0
            go_wp2_with fail
            refine BA1.out.mono ?_
            rintro e w7 ⟨rfl, hb7⟩
            have W7 := Lib.hid (W6.out.step hb7)
            clear hb7 BA1 W6 p0 p1 p2
            obtain ⟨u0, u1, u2, -, -, -⟩ := W7.out.k1.all
            cases n1 with
            | false =>
              have V := Lib.hid (BAD.out OK0.out)
              clear hn1 hn2 hn3
              go_wp2_with fail
              rw [V.out]
              exact bodyPost_ret (v := .bool false) (by simp [results, Try.results56, go_sem]) rfl ⟨rfl, W7.out.f, fun s' h => by cases h⟩
            | true =>
              have BU1 := Lib.hid (BU.out s' w7 W7.out SZ.out)
              rw [hn2] at BU1
              go_wp2_with fail
              refine BU1.out.mono ?_
              rintro e w8 ⟨rfl, hb8⟩
              have W8 := Lib.hid (W7.out.step hb8)
              clear hb8 BU1 W7 u0 u1 u2
              obtain ⟨v0, v1, v2, -, -, -⟩ := W8.out.k2.all
              cases n2 with
              | false =>
                have V := Lib.hid (BAD.out OK0.out)
                clear hn1 hn2 hn3
                go_wp2_with fail
                rw [V.out]
                exact bodyPost_ret (v := .bool false) (by simp [results, Try.results56, go_sem]) rfl ⟨rfl, W8.out.f, fun s' h => by cases h⟩
              | true =>
                have BV1 := Lib.hid (BV.out s' w8 W8.out SZ.out)
                rw [hn3] at BV1
                clear hn1 hn2 hn3
                go_wp2_with fail
                refine BV1.out.mono ?_
                rintro e w9 ⟨rfl, hb9⟩
                have W9 := Lib.hid (W8.out.step hb9)
                clear hb9 BV1 W8 v0 v1 v2
                cases n3 with
                | false =>
                  have V := Lib.hid (BAD.out OK0.out)
                  go_wp2_with fail
                  rw [V.out]
                  exact bodyPost_ret (v := .bool false) (by simp [results, Try.results56, go_sem]) rfl ⟨rfl, W9.out.f, fun s' h => by cases h⟩
                | true =>
                  obtain ⟨g1, g2, g3, g4⟩ := GO.out OK0.out
                  have F2 := Lib.hid g1
                  have I2 := Lib.hid g2
                  have D0 := Lib.hid g3
                  have D1 := Lib.hid g4
                  clear g1 g2 g3 g4 GO BAD
                  go_wp2_with fail
                  go_roundg f
                  case measure => omega
                  case rel => exact ⟨s', b, rfl, F2.out, I2.out, W9.out, D0.out, D1.out⟩
end Go.Proofs.Ytpelnfenfeoeeaa
end

section
/-
  Chapter 12, in the model: the work of HermiteForm on a matrix and its account.
-/
namespace Go.Proofs.Ytpelnfenfeoeeaa
set_option maxRecDepth 100000
open Go.RowKit
end Go.Proofs.Ytpelnfenfeoeeaa
end

section
/-
  Frames: what they keep of a cursor.
-/
namespace Go.Proofs.Ytpelnfenfeoeeaa
open Go.RowKit
theorem sNewC (R C : Nat) (w : World) (hR : R ≤ 4096) (hC : C ≤ 4096) :
    Calls Try.prog 106 #[.int .i64 R, .int .i64 C] w (fun e w' => ∃ g, e = .returned (.agg #[.int .i64 R, .int .i64 C, .slice (some ⟨g, 0, none⟩) (R * C) (R * C)]) ∧ w.heap.size ≤ g ∧ IntsC w' g (R * C) (List.replicate (R * C) 0) ∧ Below w.heap.size w w') := by
  have hm : R * C ≤ 4096 * 4096 := Nat.mul_le_mul hR hC
  have hmk := makeProd R C (by omega)
  have hp1 : (0 : Int) ≤ (R : Int) * (C : Int) := by rw [← Int.natCast_mul]; omega
  have hp2 : (R : Int) * (C : Int) ≤ 16777216 := by rw [← Int.natCast_mul]; omega
  go_enter Try.func106, Try.ntmps106
  go_wp2_with fail
  refine bodyPost_ret (v := .agg #[.int .i64 R, .int .i64 C, .slice (some ⟨w.heap.size + 1, 0, none⟩) (R * C) (R * C)]) (by simp [results, Try.results106, go_sem]) rfl ⟨w.heap.size + 1, rfl, by omega, ?_, ?_⟩
  · exact IntsC.made _ (by omega) (by simp)
  · exact ((Below.refl _ _).alloc (Nat.le_refl _) _).alloc (by simp) _
end Go.Proofs.Ytpelnfenfeoeeaa
end

section
/-
  The drawing of matrices: of what was there only the cursor has changed.
-/
namespace Go.Proofs.Ytpelnfenfeoeeaa
set_option maxRecDepth 100000
open Go.RowKit
end Go.Proofs.Ytpelnfenfeoeeaa
end

section
/-
  The drawing of matrices: one that may be spoilt.
-/
namespace Go.Proofs.Ytpelnfenfeoeeaa
set_option maxRecDepth 100000
open Go.RowKit
end Go.Proofs.Ytpelnfenfeoeeaa
end

section
/-
  What the drawing of a matrix gives: any matrix of the call's own, valid or not.
-/
namespace Go.Proofs.Ytpelnfenfeoeeaa
set_option maxRecDepth 100000
open Go.RowKit
end Go.Proofs.Ytpelnfenfeoeeaa
end

section
/-
  The drawing of a unimodular matrix.
-/
namespace Go.Proofs.Ytpelnfenfeoeeaa
set_option maxRecDepth 100000
open Go.RowKit
set_option maxRecDepth 100000 in
set_option maxHeartbeats 1000000 in
theorem sIdentC (n : Nat) (w : World) (hn : n ≤ 24) :
    Calls Try.prog 55 #[.int .i64 n] w (fun e w' => ∃ g : Nat, e = .returned (.tuple #[.agg #[.int .i64 n, .int .i64 n, .slice (some ⟨g, 0, none⟩) (n * n) (n * n)], .bool true]) ∧ w.heap.size ≤ g ∧ IntsC w' g (n * n) (idL n n) ∧ Below w.heap.size w w') := by
  have hle : n * n ≤ 24 * 24 := Nat.mul_le_mul hn hn
  have B0 : ∀ o1, Below w.heap.size w (w.alloc o1) := fun o1 => (Below.refl _ _).alloc (Nat.le_refl _) _
  have BH := Lib.hid B0
  clear B0
  go_enter Try.func55, Try.ntmps55
  go_wp2_with fail
  refine (sIn_t n 0 24 _ (by omega) (by omega)).mono ?_
  rintro e w2 ⟨rfl, rfl⟩
  go_wp2_with fail
  have K2 : Hid (Blk3 (w.alloc (.cells #[.int .i64 0, .int .i64 0, .slice none 0 0] 26)) w.heap.size 26 (.int .i64 0) (.int .i64 0) (.slice none 0 0)) := Blk3.at_ _ _ _ _ rfl
  have B := Lib.hid (BH.out (.cells #[.int .i64 0, .int .i64 0, .slice none 0 0] 26))
  refine (sNewC n n _ (by omega) (by omega)).mono ?_
  rintro e w3 ⟨g, rfl, hg, hi, hb⟩
  have l2 := Nat.lt_of_lt_of_le K2.out.lt hg
  clear hg
  obtain ⟨N, hN⟩ : ∃ N, n * n = N := ⟨_, rfl⟩
  have HN := Lib.hid hN
  rw [hN] at hi hle ⊢
  clear hN
  have K2 := Lib.hid (K2.out.keep hb K2.out.lt)
  have B := Lib.hid (B.out.trans (hb.mono B.out.size))
  have I := Lib.hid hi
  have gl := hi.lt
  clear hb hi
  have BA : Hid (Below w.heap.size w (w3.alloc (.cells #[.int .i64 n, .int .i64 n, .slice (some ⟨g, 0, none⟩) N N] 26))) := B.out.alloc B.out.size _
  have K2 := Lib.hid (K2.out.old (.cells #[.int .i64 n, .int .i64 n, .slice (some ⟨g, 0, none⟩) N N] 26))
  have K6 : Hid (Blk3 (w3.alloc (.cells #[.int .i64 n, .int .i64 n, .slice (some ⟨g, 0, none⟩) N N] 26)) w3.heap.size 26 (.int .i64 n) (.int .i64 n) (.slice (some ⟨g, 0, none⟩) N N)) := Blk3.at_ _ _ _ _ rfl
  have I := Lib.hid (I.out.old (.cells #[.int .i64 n, .int .i64 n, .slice (some ⟨g, 0, none⟩) N N] 26))
  go_wp2_with fail
  go_loopw [5] (fun i wr => ∃ k : Nat, i = .int .i64 k ∧ k ≤ n ∧ IntsC wr g N (idL n k) ∧ (w3.alloc (.cells #[.int .i64 n, .int .i64 n, .slice (some ⟨g, 0, none⟩) N N] 26)).grownBy wr (some g)) (fun i _ => n - (intOf i).toNat)
  case atStart => exact ⟨0, rfl, by omega, by rw [idL_zero, HN.out]; exact I.out, World.grownBy.refl _ _⟩
  case round =>
    obtain ⟨k, rfl, hk, hi, hgr⟩ := hrel
    have I := Lib.hid hi
    have G := Lib.hid hgr
    clear hi hgr
    have R2 := Lib.hid (K2.out.keepOne G.out (by omega))
    have R6 := Lib.hid (K6.out.keepOne G.out (by omega))
    obtain ⟨r0, r1, r2, -, -, -⟩ := R6.out.all
    by_cases hlt : k < n
    · have i1 : k * n + k < N := by rw [← HN.out]; exact idx_lt hlt hlt
      have hold := I.out.ints.cell (i := k * n + k) (by rw [idL_length, HN.out]; exact i1)
      rw [idL_at] at hold
      have hfr := I.out.ints.free (k * n + k)
      have c1 : (k : Int) * (n : Int) = ((k * n : Nat) : Int) := (Int.natCast_mul _ _).symm
      have d1 : 0 ≤ (k : Int) * (n : Int) ∧ (k : Int) * (n : Int) ≤ 600 := by rw [c1]; omega
      have e1 : 0 ≤ (k : Int) * (n : Int) + (k : Int) := by omega
      have e2 : (k : Int) * (n : Int) + (k : Int) < (N : Int) := by rw [c1]; omega
      have e3 : ((k : Int) * (n : Int) + (k : Int)).toNat = k * n + k := by rw [c1]; omega
      obtain ⟨d11, d12⟩ := d1
      have v1 : IntKind.i64.wrap ((k : Int) * (n : Int)) = (k : Int) * (n : Int) := IntWalk.i64_in _ (by omega)
      have v2 : IntKind.i64.wrap ((k : Int) * (n : Int) + (k : Int)) = (k : Int) * (n : Int) + (k : Int) := IntWalk.i64_in _ (by omega)
      clear c1
      go_wp2_with fail
      go_roundw
      case rel =>
        refine ⟨k + 1, by go_num, by omega, ?_, ?_⟩
        · rw [← idL_step]
          first | exact I.out.set (k * n + k) (by rw [idL_length, HN.out]; exact i1) _ | exact I.out.drew.set (k * n + k) (by rw [idL_length, HN.out]; exact i1) _
        · first | exact grown_set_one G.out rfl _ | exact grown_drew_one (grown_set_one G.out rfl _)
      case measure => simp [intOf]; omega
    · have hkn : k = n := by omega
      subst hkn
      have BW := Lib.hid (BA.out.trans (below_of_one G.out (by omega) BA.out.size))
      obtain ⟨s0, s1, s2, t0, t1, t2⟩ := R2.out.all
      go_wp2_with fail
      obtain ⟨E0, E1, E2, -, -, -⟩ := (((R2.out.set0 (.int .i64 k)).set1 (.int .i64 k)).set2 (.slice (some ⟨g, 0, none⟩) N N)).all
      refine bodyPost_ret (v := .tuple #[.agg #[.int .i64 k, .int .i64 k, .slice (some ⟨g, 0, none⟩) N N], .bool true]) (by simp [results, Try.results55, go_sem, E0, E1, E2]) rfl ⟨g, by rw [HN.out], by omega, ?_, ?_⟩
      · rw [HN.out]
        exact ((I.out.far (by show g ≠ w.heap.size; omega) _).far (by show g ≠ w.heap.size; omega) _).far (by show g ≠ w.heap.size; omega) _
      · exact ((BW.out.setCell (Nat.le_refl _) _).setCell (Nat.le_refl _) _).setCell (Nat.le_refl _) _
end Go.Proofs.Ytpelnfenfeoeeaa
end

section
/-
  Chapter 12, in the model: HermiteForm.
-/
namespace Go.Proofs.Ytpelnfenfeoeeaa
set_option maxRecDepth 100000
open Go.RowKit
structure HR where
  ok : Bool
  r1 : Int
  c1 : Int
  zs : List Int
  r2 : Int
  c2 : Int
  us : List Int
end Go.Proofs.Ytpelnfenfeoeeaa
end
