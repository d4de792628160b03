/-
  Texts of this seat, joined: SmIs · IsI
-/
import Derived.StillTailTactics
import Derived.Test.YtpelnfenfeoeeaaPk1
import Derived.Test.YtpelnfenfeoeeaaPk4
import Derived.Test.YtpelnfenfeoeeaaPk12
import Derived.Test.YtpelnfenfeoeeaaPk13

section
/-
  Chapter 13, in the model: IsSmith.
-/
namespace Go.Proofs.Ytpelnfenfeoeeaa
set_option maxRecDepth 100000
open Go.RowKit

theorem lastD_le {C : Nat} {xs : List Int} {i : Nat} (h : i < C) : lastD C xs (min (i + 1) C) = mxC C xs i i := by
  rw [Nat.min_eq_left (by omega)]; rfl
set_option maxHeartbeats 4000000 in
theorem sIsSmith (r c : Int) (a : Option Addr) (m : Nat) (xs : List Int) (w : World) (h : Rd w a xs) (hn : xs.length ≤ 16777216) :
    Calls Try.prog 21 #[.agg #[.int .i64 r, .int .i64 c, .slice a xs.length m]] w (Gives (.bool (smIs r c xs)) w) := by
  have IM : Hid (∀ w', Below w.heap.size w w' → Calls Try.prog 53 #[.agg #[.int .i64 r, .int .i64 c, .slice a xs.length m]] w' (Gives (.bool (isMat r c xs)) w')) := fun w' hb => sIsMat r c a m xs w' (h.below hb) hn
  cases hm : isMat r c xs with
  | false =>
    have RN : Hid (smIs r c xs = false) := by show _ = _; unfold smIs; rw [hm]; rfl
    rw [hm] at IM
    generalize smIs r c xs = RES at RN ⊢
    have B0 : Hid (Below w.heap.size w (w.alloc (.cells #[.int .i64 r, .int .i64 c, .slice a xs.length m] 26))) := (Below.refl _ _).alloc (Nat.le_refl _) _
    have K0 : Hid (Blk3 (w.alloc (.cells #[.int .i64 r, .int .i64 c, .slice a xs.length m] 26)) w.heap.size 26 (.int .i64 r) (.int .i64 c) (.slice a xs.length m)) := Blk3.at_ _ _ _ _ rfl
    generalize xs.length = L at IM B0 K0 ⊢
    clear h hn hm
    go_enter Try.func21, Try.ntmps21
    go_wp2_with fail
    generalize w.alloc (.cells #[.int .i64 r, .int .i64 c, .slice a L m] 26) = W0 at B0 K0 ⊢
    go_loopw [3, 4, 5, 6] (fun _ v4 _ _ wr => v4 = .int .i64 0 ∧ wr = W0) (fun _ _ _ _ _ => 0)
    case atStart => exact ⟨rfl, rfl⟩
    case round =>
      obtain ⟨rfl, rfl⟩ := hrel
      obtain ⟨p0, p1, p2, -, -, -⟩ := K0.out.all
      by_cases hr : 0 < r
      · go_wp2_with fail
        refine (IM.out _ B0.out).mono ?_
        rintro e w1 ⟨rfl, hb⟩
        have B1 := Lib.hid (B0.out.trans (hb.mono B0.out.size))
        have K1 := Lib.hid (K0.out.step hb)
        clear hb p0 p1 p2
        obtain ⟨p0, p1, p2, -, -, -⟩ := K1.out.all
        go_wp2_with fail
        refine (IM.out _ B1.out).mono ?_
        rintro e w2 ⟨rfl, hb⟩
        have B2 := Lib.hid (B1.out.trans (hb.mono B1.out.size))
        clear hb p0 p1 p2
        go_wp2_with fail
        go_ret
        exact ⟨by rw [RN.out]; rfl, B2.out⟩
      · go_wp2_with fail
        refine (IM.out _ B0.out).mono ?_
        rintro e w2 ⟨rfl, hb⟩
        have B2 := Lib.hid (B0.out.trans (hb.mono B0.out.size))
        clear hb p0 p1 p2
        go_wp2_with fail
        go_ret
        exact ⟨by rw [RN.out]; rfl, B2.out⟩
  | true =>
    obtain ⟨⟨r0, r1⟩, ⟨c0, c1⟩, hl, nx⟩ := isMat_says hm
    obtain ⟨R, rfl⟩ := Int.eq_ofNat_of_zero_le r0
    obtain ⟨C, rfl⟩ := Int.eq_ofNat_of_zero_le c0
    have hl : xs.length = R * C := by rw [← Int.natCast_mul] at hl; omega
    have R24 : R ≤ 24 := by omega
    have C24 : C ≤ 24 := by omega
    have RS : Hid (smIs R C xs = smB R C xs) := by show _ = _; unfold smIs; rw [hm]; rfl
    have CE : Hid (∀ i j w', i < R → j < C → Below w.heap.size w w' → Calls Try.prog 63 #[.agg #[.int .i64 R, .int .i64 C, .slice a (R * C) m], .int .i64 i, .int .i64 j] w' (Gives (.int .i64 (mxC C xs i j)) w')) := fun i j w' hi hj hb => sCel R C a (R * C) m i j xs w' (h.below hb) hl rfl R24 C24 hi hj
    have NL : Hid (∀ k, NumP (lastD C xs k)) := fun k => by
      cases k with
      | zero => show NumP 1; exact ⟨by decide, by decide⟩
      | succ k => exact nums_def nx _
    have ND : Hid (∀ i j, NumP (mxC C xs i j)) := fun i j => nums_def nx _
    rw [hm, hl] at IM
    rw [hl, RS.out]
    have BD : Hid (∀ i j, i < R → j < C → ¬ okD C xs i j → smB R C xs = false) := fun i j q1 q2 q3 => smB_bad q1 q2 q3
    have ALL : Hid (seenD R C xs R 0 → smB R C xs = true) := fun q => seenD_all q
    obtain ⟨sb, hsb⟩ : ∃ sb, smB R C xs = sb := ⟨_, rfl⟩
    rw [hsb] at BD ALL ⊢
    have B0 : Hid (Below w.heap.size w (w.alloc (.cells #[.int .i64 R, .int .i64 C, .slice a (R * C) m] 26))) := (Below.refl _ _).alloc (Nat.le_refl _) _
    have K0 : Hid (Blk3 (w.alloc (.cells #[.int .i64 R, .int .i64 C, .slice a (R * C) m] 26)) w.heap.size 26 (.int .i64 R) (.int .i64 C) (.slice a (R * C) m)) := Blk3.at_ _ _ _ _ rfl
    have L0 : Hid (lastD C xs (min 0 C) = 1) := by show _ = _; rw [Nat.zero_min]; rfl
    clear h hn hm r0 r1 c0 c1 hl nx RS hsb
    go_enter Try.func21, Try.ntmps21
    go_wp2_with fail
    generalize w.alloc (.cells #[.int .i64 R, .int .i64 C, .slice a (R * C) m] 26) = W0 at B0 K0 ⊢
    go_loopw [3, 4, 5, 6] (fun v3 v4 _ _ wr => ∃ i : Nat, v3 = .int .i64 (lastD C xs (min i C)) ∧ v4 = .int .i64 i ∧ i ≤ R ∧ seenD R C xs i 0 ∧ Blk3 wr w.heap.size 26 (.int .i64 R) (.int .i64 C) (.slice a (R * C) m) ∧ Below w.heap.size w wr) (fun _ v4 _ _ _ => R - (intOf v4).toNat)
    case atStart => exact ⟨0, by rw [L0.out], rfl, Nat.zero_le _, seenD_zero _ _ _, K0.out, B0.out⟩
    case round =>
      clear K0 B0 L0
      obtain ⟨i, rfl, rfl, hi, hs, hK, hB⟩ := hrel
      have K := Lib.hid hK
      have B := Lib.hid hB
      have SE := Lib.hid hs
      clear hK hB hs
      obtain ⟨p0, p1, p2, -, -, -⟩ := K.out.all
      by_cases hlt : i < R
      rotate_left
      · obtain rfl : R = i := by omega
        have V := Lib.hid (ALL.out SE.out)
        go_wp2_with fail
        refine (IM.out _ B.out).mono ?_
        rintro e w2 ⟨rfl, hb⟩
        have B2 := Lib.hid (B.out.trans (hb.mono B.out.size))
        clear hb p0 p1 p2
        go_wp2_with fail
        go_ret
        exact ⟨by rw [V.out]; rfl, B2.out⟩
      go_wp2_with fail
      refine (IM.out _ B.out).mono ?_
      rintro e w1 ⟨rfl, hb⟩
      have B1 := Lib.hid (B.out.trans (hb.mono B.out.size))
      have K1 := Lib.hid (K.out.step hb)
      clear hb p0 p1 p2 B K
      go_wp2_with fail
      go_loopw [3, 5, 6] (fun v3 v5 _ wr => ∃ j : Nat, v3 = .int .i64 (if j ≤ i then lastD C xs (min i C) else mxC C xs i i) ∧ v5 = .int .i64 j ∧ j ≤ C ∧ seenD R C xs i j ∧ Blk3 wr w.heap.size 26 (.int .i64 R) (.int .i64 C) (.slice a (R * C) m) ∧ Below w.heap.size w wr) (fun _ v5 _ _ => C - (intOf v5).toNat)
      case atStart => exact ⟨0, by rw [if_pos (Nat.zero_le _)], rfl, Nat.zero_le _, SE.out, K1.out, B1.out⟩
      case round =>
        clear K1 B1 SE
        obtain ⟨j, rfl, rfl, hj, hs, hK, hB⟩ := hrel
        have K := Lib.hid hK
        have B := Lib.hid hB
        have SE := Lib.hid hs
        clear hK hB hs
        obtain ⟨p0, p1, p2, -, -, -⟩ := K.out.all
        by_cases hltC : j < C
        rotate_left
        · obtain rfl : C = j := by omega
          have SR := Lib.hid (seenD_row SE.out)
          have LV : Hid ((if C ≤ i then lastD C xs (min i C) else mxC C xs i i) = lastD C xs (min (i + 1) C)) := by
            refine Lib.hid ?_
            by_cases hci : C ≤ i
            · rw [if_pos hci, Nat.min_eq_right hci, Nat.min_eq_right (by omega)]
            · rw [if_neg hci, lastD_le (by omega)]
          rw [LV.out]
          clear LV
          go_wp2_with fail
          go_roundw
          case rel => exact ⟨i + 1, rfl, by go_num, by omega, SR.out, K.out, B.out⟩
          case measure => simp [intOf]; omega
        have CX := Lib.hid (CE.out i j wr hlt hltC B.out)
        have BX := Lib.hid (BD.out i j hlt hltC)
        have SX : Hid (okD C xs i j → seenD R C xs i (j + 1)) := fun q => seenD_step SE.out q
        have NX := ND.out i j
        by_cases hij : i = j
        · subst hij
          have e1 : ((i : Int) == (i : Int)) = true := by simp
          have e2 : ((i : Int) != (i : Int)) = false := by simp
          rw [if_pos (Nat.le_refl i), Nat.min_eq_left (Nat.le_of_lt hltC)]
          have OK : Hid (okD C xs i i ↔ (0 ≤ mxC C xs i i ∧ lastD C xs i ∣ mxC C xs i i)) := ⟨fun q => ⟨q.2.1, q.2.2 rfl⟩, fun q => ⟨fun h => absurd rfl h, q.1, fun _ => q.2⟩⟩
          have NLi := NL.out i
          obtain ⟨x, hx⟩ : ∃ x, mxC C xs i i = x := ⟨_, rfl⟩
          rw [hx] at CX NX OK
          obtain ⟨l, hll⟩ : ∃ l, lastD C xs i = l := ⟨_, rfl⟩
          rw [hll] at OK NLi ⊢
          obtain ⟨x1, x2⟩ := NX
          obtain ⟨l1, l2⟩ := NLi
          clear hll
          go_wp2_with fail
          refine CX.out.mono ?_
          rintro e w5 ⟨rfl, hb⟩
          have K5 := Lib.hid (K.out.step hb)
          have B5 := Lib.hid (B.out.trans (hb.mono B.out.size))
          clear hb CX K B p0 p1 p2
          by_cases hx0 : x < 0
          · have V := Lib.hid (BX.out (fun q => by have := (OK.out.1 q).1; omega))
            go_wp2_with fail
            go_ret
            exact ⟨by rw [V.out]; rfl, B5.out⟩
          by_cases hl0 : l = 0
          · have e3 : (l == 0) = true := by simp [hl0]
            have e4 : (l != 0) = false := by simp [hl0]
            by_cases hxz : x = 0
            · have e5 : (x != 0) = false := by simp [hxz]
              have S2 := Lib.hid (SX.out (OK.out.2 ⟨by omega, by rw [hxz]; exact Int.dvd_zero l⟩))
              clear hxz hl0
              go_wp2_with fail
              go_roundw
              case rel => exact ⟨i + 1, by rw [if_neg (Nat.not_succ_le_self i), hx], by go_num, by omega, S2.out, K5.out, B5.out⟩
              case measure => simp [intOf]; omega
            · have e5 : (x != 0) = true := by simpa using hxz
              have V := Lib.hid (BX.out (fun q => by have := (OK.out.1 q).2; rw [hl0, Int.zero_dvd] at this; exact hxz this))
              clear hxz hl0
              go_wp2_with fail
              go_ret
              exact ⟨by rw [V.out]; rfl, B5.out⟩
          · have e3 : (l == 0) = false := by simpa using hl0
            have e4 : (l != 0) = true := by simpa using hl0
            have T1 := tmod_small x l hl0
            obtain ⟨tm, htm⟩ : ∃ tm, x.tmod l = tm := ⟨_, rfl⟩
            have TD : Hid (tm = 0 ↔ l ∣ x) := by refine Lib.hid ?_; rw [← htm, ← Int.dvd_iff_tmod_eq_zero]
            rw [htm] at T1
            have vm : IntKind.i64.wrap (x.tmod l) = tm := by rw [htm]; exact IntWalk.i64_in _ (by omega)
            by_cases ht0 : tm = 0
            · have e5 : (tm != 0) = false := by simp [ht0]
              have S2 := Lib.hid (SX.out (OK.out.2 ⟨by omega, TD.out.1 ht0⟩))
              clear ht0 hl0
              go_wp2_with fail
              go_roundw
              case rel => exact ⟨i + 1, by rw [if_neg (Nat.not_succ_le_self i), hx], by go_num, by omega, S2.out, K5.out, B5.out⟩
              case measure => simp [intOf]; omega
            · have e5 : (tm != 0) = true := by simpa using ht0
              have V := Lib.hid (BX.out (fun q => ht0 (TD.out.2 (OK.out.1 q).2)))
              clear ht0 hl0
              go_wp2_with fail
              go_ret
              exact ⟨by rw [V.out]; rfl, B5.out⟩
        · have e1 : ((i : Int) == (j : Int)) = false := by simp; omega
          have e2 : ((i : Int) != (j : Int)) = true := by simp; omega
          have OK : Hid (okD C xs i j ↔ mxC C xs i j = 0) := ⟨fun q => q.1 hij, fun q => ⟨fun _ => q, by rw [q]; exact Int.le_refl 0, fun h => absurd h hij⟩⟩
          have LV : Hid ((if j ≤ i then lastD C xs (min i C) else mxC C xs i i) = if j + 1 ≤ i then lastD C xs (min i C) else mxC C xs i i) := by
            refine Lib.hid ?_
            by_cases q : j ≤ i
            · rw [if_pos q, if_pos (by omega)]
            · rw [if_neg q, if_neg (by omega)]
          obtain ⟨lv, hlv⟩ : ∃ lv, (if j ≤ i then lastD C xs (min i C) else mxC C xs i i) = lv := ⟨_, rfl⟩
          rw [hlv] at LV ⊢
          obtain ⟨x, hx⟩ : ∃ x, mxC C xs i j = x := ⟨_, rfl⟩
          rw [hx] at CX NX OK
          clear hlv hx
          go_wp2_with fail
          refine CX.out.mono ?_
          rintro e w5 ⟨rfl, hb⟩
          have K5 := Lib.hid (K.out.step hb)
          have B5 := Lib.hid (B.out.trans (hb.mono B.out.size))
          clear hb CX K B p0 p1 p2
          by_cases hx0 : x = 0
          · have e3 : (x != 0) = false := by simp [hx0]
            have e4 : ¬ x < 0 := by omega
            have S2 := Lib.hid (SX.out (OK.out.2 hx0))
            clear hx0
            go_wp2_with fail
            go_roundw
            case rel => exact ⟨j + 1, by rw [LV.out], by go_num, by omega, S2.out, K5.out, B5.out⟩
            case measure => simp [intOf]; omega
          · have e3 : (x != 0) = true := by simpa using hx0
            have V := Lib.hid (BX.out (fun q => hx0 (OK.out.1 q)))
            clear hx0
            go_wp2_with fail
            go_ret
            exact ⟨by rw [V.out]; rfl, B5.out⟩
end Go.Proofs.Ytpelnfenfeoeeaa
end

section
/-
  Chapter 13, in the program: IsSmith.
-/
namespace Go.Proofs.Ytpelnfenfeoeeaa
set_option maxRecDepth 100000
open Go.RowKit

/-- Nothing outside of the diagonal, of the first k cells. -/
def offB (C : Nat) (xs : List Int) : Nat → Bool
  | 0 => true
  | k + 1 => offB C xs k && (decide ((k : Int) / (C : Int) = (k : Int) % (C : Int)) || decide (xs.getD k 0 = 0))
theorem offB_iff {C : Nat} {xs : List Int} : ∀ {k : Nat}, offB C xs k = true ↔ ∀ p, p < k → p / C = p % C ∨ xs.getD p 0 = 0
  | 0 => ⟨fun _ p hp => by omega, fun _ => rfl⟩
  | k + 1 => by
    show (offB C xs k && _) = true ↔ _
    rw [Bool.and_eq_true, Bool.or_eq_true, decide_eq_true_eq, decide_eq_true_eq, offB_iff, ← Int.natCast_ediv, ← Int.natCast_emod, Int.natCast_inj]
    constructor
    · rintro ⟨h1, h2⟩ p hp
      rcases Nat.lt_or_ge p k with h3 | h3
      · exact h1 p h3
      · obtain rfl : p = k := by omega
        exact h2
    · intro h
      exact ⟨fun p hp => h p (by omega), h k (by omega)⟩
/-- The diagonal, of the first k numbers. -/
def diaOk (C : Nat) (xs : List Int) (k : Nat) : Prop := ∀ t, t < k → 0 ≤ mxC C xs t t ∧ lastD C xs t ∣ mxC C xs t t
theorem smB_parts {R C : Nat} {xs : List Int} : smB R C xs = true ↔ (diaOk C xs (min R C) ∧ offB C xs (R * C) = true) := by
  rw [smB_iff, offB_iff]
  constructor
  · intro h
    refine ⟨fun t ht => ?_, fun p hp => ?_⟩
    · obtain ⟨-, h2, h3⟩ := h t t (by omega) (by omega)
      exact ⟨h2, h3 rfl⟩
    · have hC : 0 < C := by
        rcases Nat.eq_zero_or_pos C with e | e
        · rw [e, Nat.mul_zero] at hp; omega
        · exact e
      have hr : p / C < R := Nat.div_lt_of_lt_mul (by rw [Nat.mul_comm]; exact hp)
      obtain ⟨h1, -, -⟩ := h (p / C) (p % C) hr (Nat.mod_lt p hC)
      by_cases e : p / C = p % C
      · exact .inl e
      · right
        have := h1 e
        unfold mxC at this
        rwa [Nat.div_add_mod'] at this
  · rintro ⟨h1, h2⟩ a b ha hb
    have h3 := h2 (a * C + b) (idx_lt ha hb)
    rw [idx_div hb, idx_mod hb] at h3
    by_cases e : a = b
    · subst e
      obtain ⟨d1, d2⟩ := h1 a (by omega)
      exact ⟨fun h => absurd rfl h, d1, fun _ => d2⟩
    · have h4 : mxC C xs a b = 0 := h3.resolve_left e
      exact ⟨fun _ => h4, by rw [h4]; exact Int.le_refl 0, fun h => absurd h e⟩
theorem iStepS (b : Bool) (i j z : Int) (w : World) :
    Calls Try.prog 67 #[.bool b, .int .i64 i, .int .i64 j, .int .i64 z] w fun e w' => e = .returned (.bool (b && (decide (i = j) || decide (z = 0)))) ∧ w = w' := by
  cases b with
  | false =>
    go_enter Try.func67, Try.ntmps67
    go_wp2_with fail
    go_ret
    exact ⟨rfl, rfl⟩
  | true =>
    by_cases h1 : i = j
    · have e1 : (i == j) = true := by simp [h1]
      have V : Hid ((true && (decide (i = j) || decide (z = 0))) = true) := by show _ = _; rw [decide_eq_true h1]; rfl
      rw [V.out]
      clear h1
      go_enter Try.func67, Try.ntmps67
      go_wp2_with fail
      go_ret
      exact ⟨rfl, rfl⟩
    · have e1 : (i == j) = false := by simpa using h1
      by_cases h2 : z = 0
      · have e2 : (z == 0) = true := by simp [h2]
        have V : Hid ((true && (decide (i = j) || decide (z = 0))) = true) := by show _ = _; rw [decide_eq_true h2, Bool.or_true]; rfl
        rw [V.out]
        clear h1 h2
        go_enter Try.func67, Try.ntmps67
        go_wp2_with fail
        go_ret
        exact ⟨rfl, rfl⟩
      · have e2 : (z == 0) = false := by simpa using h2
        have V : Hid ((true && (decide (i = j) || decide (z = 0))) = false) := by show _ = _; rw [decide_eq_false h1, decide_eq_false h2]; rfl
        rw [V.out]
        clear h1 h2
        go_enter Try.func67, Try.ntmps67
        go_wp2_with fail
        go_ret
        exact ⟨rfl, rfl⟩
set_option maxHeartbeats 1000000 in
theorem iFoldS (R C n : Nat) (a : Option Addr) (cap : Nat) (zs : List Int) (w : World) (h : Rd w a zs) (hx : zs.length = n) (hn : n = R * C) (hR : R ≤ 24) (hC : C ≤ 24) :
    Calls Try.prog 66 #[.agg #[.int .i64 R, .int .i64 C, .slice a n cap], .bool true, .func (.func 67) #[] #[]] w (Gives (.bool (offB C zs n)) w) := by
  have B0 : ∀ o, Below w.heap.size w (w.alloc o) := fun o => (Below.refl _ _).alloc (Nat.le_refl _) o
  have BH := Lib.hid B0
  have H := Lib.hid h
  have HN := Lib.hid hx
  have HM := Lib.hid hn
  have hle : R * C ≤ 24 * 24 := Nat.mul_le_mul hR hC
  rw [← hn] at hle
  have K0 : Hid (Blk3 (w.alloc (.cells #[.int .i64 R, .int .i64 C, .slice a n cap] 26)) w.heap.size 26 (.int .i64 R) (.int .i64 C) (.slice a n cap)) := Blk3.at_ _ _ _ _ rfl
  clear h B0 hx hn
  go_enter Try.func66, Try.ntmps66
  go_wp2_with fail
  go_loopw [7, 8, 9, 14] (fun b _ _ i wr => ∃ k : Nat, i = .int .i64 k ∧ k ≤ n ∧ b = .bool (offB C zs k) ∧ ∃ q, wr = (w.alloc (.cells #[.int .i64 R, .int .i64 C, .slice a n cap] 26)).drewN q) (fun _ _ _ i _ => n - (intOf i).toNat)
  case atStart => exact ⟨0, rfl, by omega, rfl, 0, rfl⟩
  case round =>
    obtain ⟨k, rfl, hk, rfl, q, rfl⟩ := hrel
    by_cases hlt : k < n
    · have hC0 : 0 < C := by
        rcases Nat.eq_zero_or_pos C with e | e
        · have := HM.out; rw [e, Nat.mul_zero] at this; omega
        · exact e
      have c0 : ((C : Int) == 0) = false := by simp; omega
      obtain ⟨b, o, rfl, hcell⟩ := (H.out.below (BH.out (.cells #[.int .i64 R, .int .i64 C, .slice a n cap] 26))) k (by rw [HN.out]; exact hlt)
      have d1 : (k : Int) / (C : Int) = ((k / C : Nat) : Int) := (Int.natCast_ediv k C).symm
      have d3 : k / C ≤ k := Nat.div_le_self k C
      have d4 : k % C ≤ k := Nat.mod_le k C
      have d5 : 0 ≤ (k : Int) / (C : Int) := by rw [d1]; exact Int.natCast_nonneg _
      have d6 : (k : Int) / (C : Int) ≤ 600 := by rw [d1]; exact Int.ofNat_le.mpr (show k / C ≤ 600 by omega)
      have c1 : ¬ C = 0 := by omega
      have w1 : IntKind.i64.wrap ((k : Int) / (C : Int)) = (k : Int) / (C : Int) := IntWalk.i64_in _ (by omega)
      have e2 : Int.tmod (k : Int) (C : Int) = (k : Int) % (C : Int) := Int.tmod_eq_emod_of_nonneg (by omega)
      have e3 : Int.tdiv (k : Int) (C : Int) = (k : Int) / (C : Int) := Int.tdiv_eq_ediv_of_nonneg (by omega)
      have ES : Hid (offB C zs (k + 1) = (offB C zs k && (decide ((k : Int) / (C : Int) = (k : Int) % (C : Int)) || decide (zs.getD k 0 = 0)))) := rfl
      clear d1
      obtain ⟨z, hz⟩ : ∃ z, zs.getD k 0 = z := ⟨_, rfl⟩
      obtain ⟨bb, hbb⟩ : ∃ bb, offB C zs k = bb := ⟨_, rfl⟩
      rw [hz] at hcell ES
      rw [hbb] at ES ⊢
      obtain ⟨r0, r1, r2, -, -, -⟩ := K0.out.all
      clear hz hbb
      go_wp2_with fail
      go_quiet ((refine (iStepS _ _ _ _ _).mono ?_; rintro e w' ⟨rfl, rfl⟩; exact ⟨rfl, _, rfl⟩))
      go_wp2_with fail
      go_roundw
      case rel => exact ⟨k + 1, by go_num, by omega, by rw [ES.out], _, rfl⟩
      case measure => simp [intOf]; omega
    · obtain rfl : n = k := by omega
      go_wp2_with fail
      go_ret
      exact ⟨rfl, below_drewN (BH.out _) q⟩
set_option maxHeartbeats 2000000 in
theorem iIsSmith (r c : Int) (a : Option Addr) (m : Nat) (xs : List Int) (w : World) (h : Rd w a xs) (hn : xs.length ≤ 16777216) (hA : Spot a) (hcap : xs.length ≤ m) (hnil : a = none → m = 0) :
    Calls Try.prog 22 #[.agg #[.int .i64 r, .int .i64 c, .slice a xs.length m]] w (Gives (.bool (smIs r c xs)) w) := by
  have IM : Hid (∀ w', Below w.heap.size w w' → Calls Try.prog 58 #[.agg #[.int .i64 r, .int .i64 c, .slice a xs.length m]] w' (Gives (.bool (isMat r c xs)) w')) := fun w' hb => iIsMat r c a m xs w' (h.below hb) hn
  cases hm : isMat r c xs with
  | false =>
    have RN : Hid (smIs r c xs = false) := by show _ = _; unfold smIs; rw [hm]; rfl
    rw [hm] at IM
    generalize smIs r c xs = RES at RN ⊢
    have B0 : Hid (Below w.heap.size w (w.alloc (.cells #[.int .i64 r, .int .i64 c, .slice a xs.length m] 26))) := (Below.refl _ _).alloc (Nat.le_refl _) _
    generalize xs.length = L at IM B0 ⊢
    clear h hn hm hA hcap hnil
    go_enter Try.func22, Try.ntmps22
    go_wp2_with fail
    refine (IM.out _ B0.out).mono ?_
    rintro e w1 ⟨rfl, hb⟩
    have B1 := Lib.hid (B0.out.trans (hb.mono B0.out.size))
    clear hb
    go_wp2_with fail
    go_ret
    exact ⟨by rw [RN.out]; rfl, B1.out⟩
  | true =>
    obtain ⟨⟨r0, r1⟩, ⟨c0, c1⟩, hl, nx⟩ := isMat_says hm
    obtain ⟨R, rfl⟩ := Int.eq_ofNat_of_zero_le r0
    obtain ⟨C, rfl⟩ := Int.eq_ofNat_of_zero_le c0
    have hl : xs.length = R * C := by rw [← Int.natCast_mul] at hl; omega
    have R24 : R ≤ 24 := by omega
    have C24 : C ≤ 24 := by omega
    have RS : Hid (smIs R C xs = smB R C xs) := by show _ = _; unfold smIs; rw [hm]; rfl
    have CA : CelA a (R * C) m := ⟨hA, by rw [← hl]; exact hcap, hnil⟩
    have DG : Hid (∀ w', Below w.heap.size w w' → Calls Try.prog 64 #[.agg #[.int .i64 R, .int .i64 C, .slice a (R * C) m]] w' (LineRes (min R C) (fun i => mxC C xs i i) w')) := fun w' hb => iDiagOf R C a (R * C) m xs w' (h.below hb) CA hl rfl R24 C24
    have FO : Hid (∀ w', Below w.heap.size w w' → Calls Try.prog 66 #[.agg #[.int .i64 R, .int .i64 C, .slice a (R * C) m], .bool true, .func (.func 67) #[] #[]] w' (Gives (.bool (offB C xs (R * C))) w')) := fun w' hb => iFoldS R C (R * C) a m xs w' (h.below hb) hl rfl R24 C24
    have MU : Hid (∀ i d w', NumP d → Calls Try.prog 65 #[.int .i64 (mxC C xs i i), .int .i64 d] w' (Gives (.bool (decide (d ∣ mxC C xs i i))) w')) := fun i d w' hd => iMult _ d w' (nums_def nx _) hd
    have NL : Hid (∀ k, NumP (lastD C xs k)) := fun k => by
      cases k with
      | zero => show NumP 1; exact ⟨by decide, by decide⟩
      | succ k => exact nums_def nx _
    have ND : Hid (∀ i, NumP (mxC C xs i i)) := fun i => nums_def nx _
    have SB : Hid (smB R C xs = true ↔ (diaOk C xs (min R C) ∧ offB C xs (R * C) = true)) := smB_parts
    have LS : Hid (∀ k, lastD C xs (k + 1) = mxC C xs k k) := fun k => rfl
    have L0 : Hid (lastD C xs 0 = 1) := rfl
    rw [hm, hl] at IM
    rw [hl, RS.out]
    obtain ⟨N, hN⟩ : ∃ N, min R C = N := ⟨_, rfl⟩
    have N24 : N ≤ 24 := by omega
    rw [hN] at DG SB
    obtain ⟨ob, hob⟩ : ∃ ob, offB C xs (R * C) = ob := ⟨_, rfl⟩
    rw [hob] at FO SB
    obtain ⟨sb, hsb⟩ : ∃ sb, smB R C xs = sb := ⟨_, rfl⟩
    rw [hsb] at SB ⊢
    have B0 : Hid (Below w.heap.size w (w.alloc (.cells #[.int .i64 R, .int .i64 C, .slice a (R * C) m] 26))) := (Below.refl _ _).alloc (Nat.le_refl _) _
    have K0 : Hid (Blk3 (w.alloc (.cells #[.int .i64 R, .int .i64 C, .slice a (R * C) m] 26)) w.heap.size 26 (.int .i64 R) (.int .i64 C) (.slice a (R * C) m)) := Blk3.at_ _ _ _ _ rfl
    clear h hn hm hA hcap hnil r0 r1 c0 c1 hl nx RS CA hN hob hsb
    go_enter Try.func22, Try.ntmps22
    go_upto_region 1 with fail
    generalize w.alloc (.cells #[.int .i64 R, .int .i64 C, .slice a (R * C) m] 26) = W0 at B0 K0 ⊢
    obtain ⟨p0, p1, p2, -, -, -⟩ := K0.out.all
    go_wp2_with fail
    refine (IM.out _ B0.out).mono ?_
    rintro e w1 ⟨rfl, hb⟩
    have B1 := Lib.hid (B0.out.trans (hb.mono B0.out.size))
    have K1 := Lib.hid (K0.out.step hb)
    clear hb p0 p1 p2 IM B0 K0
    obtain ⟨p0, p1, p2, -, -, -⟩ := K1.out.all
    go_wp2_with fail
    refine (DG.out _ B1.out).mono ?_
    rintro e w2 ⟨g, rfl, -, hi, hb⟩
    have B2 := Lib.hid (B1.out.trans (hb.mono B1.out.size))
    have K2 := Lib.hid (K1.out.step hb)
    have I2 := Lib.hid hi
    clear hb hi p0 p1 p2 DG B1 K1
    go_wp2_with fail
    go_loopw [3, 5, 12] (fun v3 _ v12 wq => ∃ k : Nat, v3 = .int .i64 (lastD C xs k) ∧ v12 = .int .i64 k ∧ k ≤ N ∧ diaOk C xs k ∧ Below w.heap.size w wq ∧ Below w2.heap.size w2 wq) (fun _ _ v12 _ => N - (intOf v12).toNat)
    case atStart => exact ⟨0, by rw [L0.out], rfl, Nat.zero_le _, fun t ht => by omega, B2.out, Below.refl _ _⟩
    case round =>
      clear L0
      obtain ⟨k, rfl, rfl, hk, hd, hb1, hb2⟩ := hrel
      have D := Lib.hid hd
      have B3 := Lib.hid hb1
      have B4 := Lib.hid hb2
      clear hd hb1 hb2
      have I := Lib.hid (I2.out.keep B4.out I2.out.lt)
      by_cases hlt : k < N
      · have hc := I.out.cell (i := k) (by rw [rwL_length]; exact hlt)
        rw [rwL_at hlt] at hc
        have NK := Lib.hid (NL.out k)
        have MK := Lib.hid (fun w' => MU.out k (lastD C xs k) w' NK.out)
        have LK := Lib.hid (LS.out k)
        have NX := ND.out k
        have DS : Hid (0 ≤ mxC C xs k k → lastD C xs k ∣ mxC C xs k k → diaOk C xs (k + 1)) := fun q1 q2 t ht => by
          rcases Nat.lt_or_ge t k with h3 | h3
          · exact D.out t h3
          · obtain rfl : t = k := by omega
            exact ⟨q1, q2⟩
        have DB : Hid (¬ (0 ≤ mxC C xs k k ∧ lastD C xs k ∣ mxC C xs k k) → sb = false) := fun q => by
          cases hq : sb with
          | false => rfl
          | true => exact absurd ((SB.out.1 hq).1 k hlt) q
        obtain ⟨x, hx⟩ : ∃ x, mxC C xs k k = x := ⟨_, rfl⟩
        rw [hx] at hc MK LK NX DS DB
        obtain ⟨l, hll⟩ : ∃ l, lastD C xs k = l := ⟨_, rfl⟩
        rw [hll] at MK DS DB ⊢
        clear hx hll NK
        have k0 : (k : Int) < (N : Int) := by omega
        by_cases hx0 : x < 0
        · have V := Lib.hid (DB.out (fun h => by omega))
          go_wp2_with fail
          go_ret
          exact ⟨by rw [V.out]; rfl, B3.out⟩
        · by_cases hdv : l ∣ x
          · rw [decide_eq_true hdv] at MK
            have DD := Lib.hid (DS.out (by omega) hdv)
            clear DS DB hdv
            go_wp2_with fail
            refine (MK.out _).mono ?_
            rintro e w5 ⟨rfl, hb⟩
            have B5 := Lib.hid (B3.out.trans (hb.mono B3.out.size))
            have B6 := Lib.hid (B4.out.trans (hb.mono B4.out.size))
            clear hb hc
            go_wp2_with fail
            go_roundw
            case rel => exact ⟨k + 1, by rw [LK.out], by go_num, by omega, DD.out, B5.out, B6.out⟩
            case measure => simp [intOf]; omega
          · rw [decide_eq_false hdv] at MK
            have V := Lib.hid (DB.out (fun h => hdv h.2))
            clear DS DB hdv
            go_wp2_with fail
            refine (MK.out _).mono ?_
            rintro e w5 ⟨rfl, hb⟩
            have B5 := Lib.hid (B3.out.trans (hb.mono B3.out.size))
            clear hb hc
            go_wp2_with fail
            go_ret
            exact ⟨by rw [V.out]; rfl, B5.out⟩
      · obtain rfl : N = k := by omega
        have V : Hid (sb = ob) := by
          refine Lib.hid ?_
          rw [Bool.eq_iff_iff, SB.out]
          exact ⟨fun h => h.2, fun h => ⟨D.out, h⟩⟩
        obtain ⟨p0, p1, p2, -, -, -⟩ := (K2.out.step B4.out).all
        go_wp2_with fail
        refine (FO.out _ B3.out).mono ?_
        rintro e w5 ⟨rfl, hb⟩
        have B5 := Lib.hid (B3.out.trans (hb.mono B3.out.size))
        clear hb p0 p1 p2
        go_wp2_with fail
        go_ret
        exact ⟨by rw [V.out]; rfl, B5.out⟩
end Go.Proofs.Ytpelnfenfeoeeaa
end
