/-
  Texts of this seat, joined: ZAMemI · ZAFcS · ZAFcI
-/
import Derived.Maps.AppendAt
import Derived.Lib.SliceRun
import Derived.Test.YtpelnfenfeoeeaaPk24
import Derived.Test.YtpelnfenfeoeeaaPk26
import Derived.Test.YtpelnfenfeoeeaaPk27
import Derived.Test.YtpelnfenfeoeeaaPk30
import Derived.Test.YtpelnfenfeoeeaaPk31

section
/-
  Memory in a law's walk: slices of ints as results.
-/
namespace Go.Proofs.Ytpelnfenfeoeeaa
open Go.RowKit
theorem eqI_g (a b : Option Addr) (c d : Nat) (zs : List Int) (w : World) (h : Rd w a zs) (h' : Rd w b zs) (hn : zs.length ≤ 16777216) :
    Calls Try.prog 25 #[.slice a zs.length c, .slice b zs.length d] w (Gives (.bool true) w) :=
  (eqI_t a b c d zs w h h' hn).mono fun _ _ ⟨h1, k, h2⟩ => ⟨h1, by rw [h2]; exact below_drewN (Below.refl _ _) k⟩
theorem heldI_g (a : Option Addr) (cap n : Nat) (c : Int) (w : World) (h : Rd w a (marks c n)) (hm : n ≤ 16777216) (hc0 : 0 ≤ c) (hc : c ≤ 16777216) :
    Calls Try.prog 27 #[.slice a n cap, .int .i64 c] w (Gives (.int .i64 (c + n)) w) :=
  (heldI a cap n c w h hm hc0 hc).mono fun _ _ ⟨h1, h2⟩ => ⟨h1, by rw [← h2]; exact Below.refl _ _⟩
theorem markInI {B T : Nat} (a : Option Addr) (n cap : Nat) (zs : List Int) (k : Int) (w : World) (h : In B T w (.slice a n cap) zs) (hk0 : 0 ≤ k) (hk : k ≤ 16777216) :
    Calls Try.prog 26 #[.slice a n cap, .int .i64 k] w fun e w' => e = .returned (.int .i64 (k + n)) ∧ In B T w' (.slice a n cap) (marks k n) ∧ Chg B T w w' := by
  rcases h with ⟨hv, rfl⟩ | ⟨g, cap', hv, h1, h2, hi, hl, hc⟩
  · injection hv with v1 v2 v3
    subst v1 v2 v3
    exact (markI_nil 0 k w).mono fun e w' ⟨he, hw⟩ => ⟨by rw [he]; simp, .inl ⟨rfl, rfl⟩, by rw [← hw]; exact Chg.of_below (Below.refl _ _)⟩
  · injection hv with v1 v2 v3
    subst v1 v2 v3
    refine (markI g cap zs.length zs k w hi (Nat.le_refl _) hc hk0 hk).mono fun e w' ⟨he, hi', hg⟩ => ⟨he, .inr ⟨g, cap, by rw [marks_length], h1, h2, ?_, by rw [marks_length]; exact hl, by rw [marks_length]; exact hc⟩, Chg.of_one hg h1 h2⟩
    rw [List.drop_length, List.append_nil] at hi'
    exact hi'
end Go.Proofs.Ytpelnfenfeoeeaa
end

section
/-
  Chapter 13, in the model: FactorsOf.
-/
namespace Go.Proofs.Ytpelnfenfeoeeaa
set_option maxRecDepth 100000
open Go.RowKit Go.Maps
def FsRes (R : List Int × Bool) (w : World) (e : Ending) (w' : World) : Prop := ∃ v, e = .returned (.tuple #[v, .bool R.2]) ∧ Own w.heap.size w' v R.1 ∧ Below w.heap.size w w'
theorem fcS_no {r c : Int} {xs : List Int} (h : (smR r c xs).ok = false) : smR r c xs = SR.no ∧ fcX r c xs = ([], false) := by
  refine ⟨?_, by unfold fcX; rw [if_neg (by rw [h]; decide)]⟩
  unfold smR at h ⊢
  split
  · rename_i hm
    rw [if_pos hm] at h
    cases hx : smX r.toNat c.toNat xs with
    | none => rfl
    | some s => rw [hx] at h; cases h
  · rfl
theorem fcS_yes {r c : Int} {xs : List Int} (h : (smR r c xs).ok = true) : ∃ (R C : Nat), R ≤ 24 ∧ C ≤ 24 ∧ (smR r c xs).d.r = R ∧ (smR r c xs).d.c = C ∧ (smR r c xs).d.zs.length = R * C ∧ fcX r c xs = (fcL R C (smR r c xs).d.zs (min R C), true) := by
  obtain ⟨R, C, s, f, rfl, rfl, hR, hC, -, -, -, -, e, hF, hS⟩ := smR_says h
  have ed : (smR R C xs).d = ⟨true, R, C, s.1⟩ := by rw [e]
  refine ⟨R, C, hR, hC, by rw [ed], by rw [ed], by rw [ed]; exact hF.siz.l1, ?_⟩
  unfold fcX
  rw [if_pos h]
  rfl
set_option maxHeartbeats 4000000 in
theorem sFactors (r c : Int) (a : Option Addr) (m : Nat) (xs : List Int) (w : World) (h : Rd w a xs) (hn : xs.length ≤ 16777216) (ha : Spot a) :
    Calls Try.prog 23 #[.agg #[.int .i64 r, .int .i64 c, .slice a xs.length m]] w (FsRes (fcX r c xs) w) := by
  have SM : Hid (∀ w', Below w.heap.size w w' → Calls Try.prog 15 #[.agg #[.int .i64 r, .int .i64 c, .slice a xs.length m]] w' (SmG w' (smR r c xs))) := fun w' hb => sSmithForm r c a m xs w' (h.below hb) hn ha
  have B0 : Hid (Below w.heap.size w (w.alloc (.cells #[.int .i64 r, .int .i64 c, .slice a xs.length m] 26))) := (Below.refl _ _).alloc (Nat.le_refl _) _
  have CASES : Hid (((smR r c xs) = SR.no ∧ fcX r c xs = ([], false)) ∨ ((smR r c xs).ok = true ∧ ∃ (R C : Nat), R ≤ 24 ∧ C ≤ 24 ∧ (smR r c xs).d.r = R ∧ (smR r c xs).d.c = C ∧ (smR r c xs).d.zs.length = R * C ∧ fcX r c xs = (fcL R C (smR r c xs).d.zs (min R C), true))) := by
    refine Lib.hid ?_
    cases hk : (smR r c xs).ok with
    | false => exact .inl (fcS_no hk)
    | true => exact .inr ⟨rfl, fcS_yes hk⟩
  obtain ⟨A, hA⟩ : ∃ A, smR r c xs = A := ⟨_, rfl⟩
  rw [hA] at SM CASES
  obtain ⟨F, hF⟩ : ∃ F, fcX r c xs = F := ⟨_, rfl⟩
  rw [hF] at CASES ⊢
  generalize xs.length = L at SM B0 ⊢
  clear h hn hA hF ha
  -- both cases in one: the numbers of the form, and how many are looked at
  have ALL : Hid (∃ (R C : Nat) (zs : List Int) (b : Bool), R ≤ 24 ∧ C ≤ 24 ∧ A.d.r = R ∧ A.d.c = C ∧ A.d.zs = zs ∧ zs.length = R * C ∧ A.ok = b ∧ F = (fcL R C zs (min R C), b)) := by
    refine Lib.hid ?_
    rcases CASES.out with ⟨h1, h2⟩ | ⟨h1, R, C, h2, h3, h4, h5, h6, h7⟩
    · exact ⟨0, 0, [], false, by omega, by omega, by rw [h1]; rfl, by rw [h1]; rfl, by rw [h1]; rfl, rfl, by rw [h1]; rfl, h2⟩
    · exact ⟨R, C, _, true, h2, h3, h4, h5, rfl, h6, h1, h7⟩
  obtain ⟨R, C, zs, b, hR, hC, d1, d2, d3, d4, d5, d6⟩ := ALL.out
  obtain ⟨fi, hfi, hz0, hz1, hz2⟩ := facts_int
  have FF := Lib.hid d6
  have ZL := Lib.hid d4
  have D5 := Lib.hid d5
  have le6 : R * C ≤ 24 * 24 := Nat.mul_le_mul hR hC
  clear CASES ALL d6
  go_enter Try.func23, Try.ntmps23
  go_wp2_with fail
  refine (SM.out _ B0.out).mono ?_
  rintro e w1 ⟨va, vb, vc, rfl, o1, o2, o3, -, -, -, hb⟩
  have B1 := Lib.hid (B0.out.trans (hb.mono B0.out.size))
  obtain ⟨qa, ma, rfl, ra, -⟩ := o1.form
  obtain ⟨qb, mb, rfl, -, -⟩ := o2.form
  obtain ⟨qc, mc, rfl, -, -⟩ := o3.form
  rw [d1, d2, d5, d3, d4]
  rw [d3] at ra
  clear hb o1 o2 o3 SM B0 d1 d2 d3 d4 d5
  have K1 : Hid (Blk3 (((w1.alloc (.cells #[.int .i64 R, .int .i64 C, .slice qa (R * C) ma] 26)).alloc (.cells #[.int .i64 A.u.r, .int .i64 A.u.c, .slice qb A.u.zs.length mb] 26)).alloc (.cells #[.int .i64 A.v.r, .int .i64 A.v.c, .slice qc A.v.zs.length mc] 26)) w1.heap.size 26 (.int .i64 R) (.int .i64 C) (.slice qa (R * C) ma)) := ((Blk3.at_ _ _ _ _ rfl).old _).old _
  have B2 : Hid (Below w1.heap.size w1 (((w1.alloc (.cells #[.int .i64 R, .int .i64 C, .slice qa (R * C) ma] 26)).alloc (.cells #[.int .i64 A.u.r, .int .i64 A.u.c, .slice qb A.u.zs.length mb] 26)).alloc (.cells #[.int .i64 A.v.r, .int .i64 A.v.c, .slice qc A.v.zs.length mc] 26))) := (((Below.refl _ _).alloc (Nat.le_refl _) _).alloc (by simp) _).alloc (by simp; omega) _
  go_upto_region 2 with fail
  generalize ((w1.alloc (.cells #[.int .i64 R, .int .i64 C, .slice qa (R * C) ma] 26)).alloc (.cells #[.int .i64 A.u.r, .int .i64 A.u.c, .slice qb A.u.zs.length mb] 26)).alloc (.cells #[.int .i64 A.v.r, .int .i64 A.v.c, .slice qc A.v.zs.length mc] 26) = W2 at K1 B2 ⊢
  have B3 : Hid (Below w.heap.size w W2) := Lib.hid (B1.out.trans (B2.out.mono B1.out.size))
  have RA : Hid (Rd W2 qa zs) := Lib.hid (ra.below B2.out)
  clear ra B1 B2
  have own0 : (W2.alloc (.cells #[] 3)).ownsRow W2.heap.size 3 1 (.slice (some ⟨W2.heap.size, 0, none⟩) 0 0) 0 (([] : List Int).map (Value.int .i64)) := ⟨rfl, .inr ⟨W2.heap.size, 0, #[], rfl, Nat.le_refl _, heap_alloc_new W2 _, Nat.le_refl _, by decide, rfl, rfl⟩⟩
  have O0 := Lib.hid own0
  have BA : Hid (Below W2.heap.size W2 (W2.alloc (.cells #[] 3))) := (Below.refl _ _).alloc (Nat.le_refl _) _
  clear own0
  obtain ⟨N, hN⟩ : ∃ N, min R C = N := ⟨_, rfl⟩
  have NR : Hid (N ≤ R ∧ N ≤ C) := by refine Lib.hid ?_; rw [← hN]; exact ⟨Nat.min_le_left _ _, Nat.min_le_right _ _⟩
  have N24 : N ≤ 24 := by have := NR.out; omega
  have vm3 : Hid (∀ d : Decidable (C < R), (@ite Int (C < R) d (C : Int) (R : Int)) = (N : Int)) := fun d => by rw [← hN]; split <;> omega
  have vm4 : Hid (min (R : Int) (C : Int) = (N : Int)) := by refine Lib.hid ?_; rw [← hN]; omega
  rw [hN] at FF
  have CE : Hid (∀ i w', i < N → Below W2.heap.size W2 w' → Calls Try.prog 63 #[.agg #[.int .i64 R, .int .i64 C, .slice qa (R * C) ma], .int .i64 i, .int .i64 i] w' (Gives (.int .i64 (mxC C zs i i)) w')) := fun i w' hi hb => sCel R C qa (R * C) ma i i zs w' (RA.out.below hb) ZL.out rfl hR hC (by have := NR.out; omega) (by have := NR.out; omega)
  have SU : Hid (∀ i, fcL R C zs (i + 1) = if mxC C zs i i = 0 then fcL R C zs i else fcL R C zs i ++ [mxC C zs i i]) := fun i => fcL_succ R C zs i
  have LEN : Hid (∀ i, (fcL R C zs i).length ≤ i) := fun i => fcL_le R C zs i
  obtain ⟨f, hf⟩ : ∃ f : Nat → List Int, fcL R C zs = f := ⟨_, rfl⟩
  have f0 : Hid (f 0 = []) := by refine Lib.hid ?_; rw [← hf]; rfl
  rw [hf] at SU LEN FF
  clear hN hf RA ZL
  go_wp2_with fail
  generalize W2.alloc (.cells #[] 3) = W3 at O0 BA ⊢
  go_loopw [8, 9] (fun v8 v9 wr => ∃ (i : Nat) (V : Value), V = v8 ∧ v9 = .int .i64 i ∧ i ≤ N ∧ wr.ownsRow W2.heap.size 3 1 V (f i).length ((f i).map (Value.int .i64)) ∧ Below W2.heap.size W2 wr) (fun _ v9 _ => N - (intOf v9).toNat)
  case atStart => exact ⟨0, _, rfl, rfl, Nat.zero_le _, by rw [f0.out]; exact O0.out, BA.out⟩
  case round =>
    clear O0 BA
    obtain ⟨i, V, rfl, rfl, hi, ho, hb⟩ := hrel
    have O := Lib.hid ho
    have B := Lib.hid hb
    have K := Lib.hid (K1.out.step hb)
    clear ho hb
    obtain ⟨p0, p1, p2, -, -, -⟩ := K.out.all
    go_upto_if 24 with fail
    first | simp only [vm3.out] | simp only [vm4.out]
    by_cases hlt : i < N
    rotate_left
    · obtain rfl : N = i := by omega
      have hd9 : decide ((N : Int) < (N : Int)) = false := by simp
      simp only [hd9]
      obtain ⟨va, vm, vc, rfl⟩ := rows_form O.out
      have LN := LEN.out N
      have OW : Hid (Own w.heap.size wr (.slice va vm vc) F.1) := by
        refine Lib.hid ?_
        rw [FF.out]
        exact (Own.of_row O.out (by omega)).le B3.out.size
      have BW := Lib.hid (B3.out.trans (B.out.mono B3.out.size))
      have BB : Hid (F.2 = b) := by refine Lib.hid ?_; rw [FF.out]
      clear hd9
      go_wp2_with fail
      exact bodyPost_ret (v := .tuple #[.slice va vm vc, .bool b]) (by simp [results, Try.results23, go_sem]) rfl ⟨_, by rw [BB.out], OW.out, BW.out⟩
    have hd9 : decide ((i : Int) < (N : Int)) = true := decide_eq_true (by omega)
    simp only [hd9]
    clear hd9
    have SF := Lib.hid (SU.out i)
    have CX := Lib.hid (fun w' h9 => CE.out i w' hlt h9)
    obtain ⟨x, hx⟩ : ∃ x, mxC C zs i i = x := ⟨_, rfl⟩
    rw [hx] at SF CX
    clear hx
    have C1 := Lib.hid (CX.out _ B.out)
    go_wp2_with fail
    refine C1.out.mono ?_
    rintro e w5 ⟨rfl, hb⟩
    have K5 := Lib.hid (K.out.step hb)
    have B5 := Lib.hid (B.out.trans (hb.mono B.out.size))
    have O5 := Lib.hid (rows_keep O.out hb)
    clear hb C1 K B O p0 p1 p2
    by_cases hx0 : x = 0
    · have e1 : (x != 0) = false := by simp [hx0]
      have S2 : Hid (f (i + 1) = f i) := by refine Lib.hid ?_; rw [SF.out, if_pos hx0]
      clear hx0
      go_wp2_with fail
      go_roundw
      case rel => exact ⟨i + 1, _, rfl, by go_num, by omega, by rw [S2.out]; exact O5.out, B5.out⟩
      case measure => simp [intOf]; omega
    have e1 : (x != 0) = true := by simpa using hx0
    have S2 : Hid (f (i + 1) = f i ++ [x]) := by refine Lib.hid ?_; rw [SF.out, if_neg hx0]
    have LI := LEN.out i
    obtain ⟨p0, p1, p2, -, -, -⟩ := K5.out.all
    have C2 := Lib.hid (CX.out _ B5.out)
    clear hx0
    go_wp2_with fail
    refine C2.out.mono ?_
    rintro e w6 ⟨rfl, hb⟩
    have B6 := Lib.hid (B5.out.trans (hb.mono B5.out.size))
    have O6 := Lib.hid (rows_keep O5.out hb)
    clear hb C2 K5 B5 O5 p0 p1 p2
    have KOA : Hid ((w6.alloc (.cells #[.int .i64 x] 3)).ownsRow W2.heap.size 3 1 V (f i).length ((f i).map (Value.int .i64))) := O6.out.alloc _
    have SZ := B6.out.size
    obtain ⟨l, hl⟩ : ∃ l, (f i).length = l := ⟨_, rfl⟩
    have HL := Lib.hid hl
    rw [hl] at KOA LI
    clear hl
    go_wp2_with (first
      | (at_builtin; refine wpList_append_own_at _ rfl _ _ 22 rfl W2.heap.size 3 fi (.int .i64 0) 1 8 underlying_ints hfi hz0 hz1 hz2 rfl (by decide) _ _ _ rfl KOA.out ⟨w6.heap.size, 0, none⟩ 1 1 [.int .i64 x] rfl rfl (cell_one_new _ _ _) (ints_oneCell .i64 [x]) (by unfold maxLen; omega) (by omega) (by simp; omega) ?_; intro v' w7 hown' hgrow hnil hloc)
      | fail)
    have B7 : Hid (Below W2.heap.size W2 w7) := Lib.hid ((B6.out.alloc SZ (.cells #[.int .i64 x] 3)).grown hgrow (by simp; omega) (fun k hk => ownBlock_ge KOA.out hk))
    go_roundw
    case rel =>
      refine ⟨i + 1, _, rfl, by go_num, by omega, ?_, B7.out⟩
      rw [S2.out, List.length_append, List.map_append, HL.out]
      exact hown'
    case measure => simp [intOf]; omega
end Go.Proofs.Ytpelnfenfeoeeaa
end

section
/-
  Chapter 13, in the program: FactorsOf.
-/
namespace Go.Proofs.Ytpelnfenfeoeeaa
set_option maxRecDepth 100000
open Go.RowKit
theorem zeroI (w : World) : (zeroValue 3).run Try.prog w = .ok (.int .i64 0) w := by kernel_rfl
theorem iDelF (z : Int) (w : World) : Calls Try.prog 69 #[.int .i64 z] w fun e w' => e = .returned (.bool (decide (z = 0))) ∧ w' = w := by
  by_cases h : z = 0
  · have e1 : (z == 0) = true := by simp [h]
    rw [decide_eq_true h]
    clear h
    go_enter Try.func69, Try.ntmps69
    go_wp2_with fail
    go_ret
    exact ⟨rfl, rfl⟩
  · have e1 : (z == 0) = false := by simpa using h
    rw [decide_eq_false h]
    clear h
    go_enter Try.func69, Try.ntmps69
    go_wp2_with fail
    go_ret
    exact ⟨rfl, rfl⟩
set_option maxHeartbeats 1000000 in
theorem iIdxF (N T g : Nat) (v : Nat → Int) (w : World) (h : Ints w g (rwL N v)) (hN : N ≤ 600) (h1 : ∀ i, i < T → v i ≠ 0) (h2 : T < N → v T = 0) (r : Int) (hr1 : T < N → r = T) (hr2 : ¬ T < N → r = -1) :
    Calls Try.prog 121 #[.slice (some ⟨g, 0, none⟩) N N, .func (.func 69) #[] #[]] w fun e w' => e = .returned (.int .i64 r) ∧ w' = w := by
  have H := Lib.hid h
  have R1 := Lib.hid hr1
  have R2 := Lib.hid hr2
  have H1 := Lib.hid h1
  have H2 := Lib.hid h2
  clear h h1 h2 hr1 hr2
  go_enter Try.func121, Try.ntmps121
  go_wp2_with fail
  go_loopw [5, 8] (fun _ v8 wr => ∃ k : Nat, v8 = .int .i64 k ∧ k ≤ T ∧ wr = w) (fun _ v8 _ => T - (intOf v8).toNat)
  case atStart => exact ⟨0, rfl, Nat.zero_le _, rfl⟩
  case round =>
    obtain ⟨k, rfl, hk, rfl⟩ := hrel
    by_cases hlt : k < N
    · have hc := H.out.cell (i := k) (by rw [rwL_length]; exact hlt)
      rw [rwL_at hlt] at hc
      have hcall := Lib.hid (iDelF (v k) wr)
      have HV1 := Lib.hid (fun h : k < T => H1.out k h)
      have HV2 : Hid (k = T → v k = 0) := fun h => by rw [h]; exact H2.out (by omega)
      obtain ⟨x, hx⟩ : ∃ x, v k = x := ⟨_, rfl⟩
      rw [hx] at hc hcall HV1 HV2
      clear hx
      have k0 : (k : Int) < (N : Int) := by omega
      by_cases hkT : k < T
      · have hd : decide (x = 0) = false := decide_eq_false (HV1.out hkT)
        rw [hd] at hcall
        go_wp2_with fail
        refine hcall.out.mono ?_
        rintro e w' ⟨rfl, hw⟩
        rw [hw]
        clear hw hcall hd
        go_wp2_with fail
        go_roundw
        case rel => exact ⟨k + 1, by go_num, by omega, trivial⟩
        case measure => simp [intOf]; omega
      · have hkT2 : k = T := by omega
        have hd : decide (x = 0) = true := decide_eq_true (HV2.out hkT2)
        rw [hd] at hcall
        have RES : Hid (r = (k : Int)) := by refine Lib.hid ?_; rw [R1.out (by omega), hkT2]
        clear hkT2 hkT
        go_wp2_with fail
        refine hcall.out.mono ?_
        rintro e w' ⟨rfl, hw⟩
        rw [hw]
        clear hw hcall hd
        go_wp2_with fail
        go_ret
        exact ⟨by rw [RES.out]; rfl, rfl⟩
    · have RES : Hid (r = -1) := R2.out (by omega)
      go_wp2_with fail
      go_ret
      exact ⟨by rw [RES.out]; rfl, rfl⟩
theorem ints_zero {g : Nat} {zs : List Int} : ∀ (n o : Nat) (w : World), Ints w g zs → o + n ≤ zs.length → (∀ i, o ≤ i → i < o + n → zs.getD i 0 = 0) → Ints (w.setCells g o (List.replicate n (.int .i64 0))) g zs ∧ w.grownBy (w.setCells g o (List.replicate n (.int .i64 0))) (some g)
  | 0, o, w, h, _, _ => ⟨h, World.grownBy.refl _ _⟩
  | n + 1, o, w, h, hl, hz => by
    have h1 := h.set o 0
    have e : zs.set o 0 = zs := by
      refine list_getD (by simp) fun p hp => ?_
      rw [List.length_set] at hp
      rw [getD_set _ _ _ _ (by omega)]
      by_cases ep : p = o
      · rw [if_pos ep, ep, hz o (Nat.le_refl _) (by omega)]
      · rw [if_neg ep]
    rw [e] at h1
    obtain ⟨a1, a2⟩ := ints_zero n (o + 1) _ h1 (by omega) (fun i q1 q2 => hz i (by omega) (by omega))
    refine ⟨a1, (grown_set_one (a := ⟨g, o, none⟩) (World.grownBy.refl w _) rfl _).trans a2⟩
set_option maxHeartbeats 2000000 in
theorem iDelete (N T g : Nat) (v : Nat → Int) (w : World) (h : Ints w g (rwL N v)) (hT : T ≤ N) (hN : N ≤ 600) (h1 : ∀ i, i < T → v i ≠ 0) (h2 : ∀ i, T ≤ i → i < N → v i = 0) :
    Calls Try.prog 68 #[.slice (some ⟨g, 0, none⟩) N N, .func (.func 69) #[] #[]] w fun e w' => e = .returned (.slice (some ⟨g, 0, none⟩) T N) ∧ Ints w' g (rwL N v) ∧ w.grownBy w' (some g) := by
  have H := Lib.hid h
  have IX := Lib.hid (iIdxF N T g v w h hN h1 (fun h9 => h2 T (Nat.le_refl _) h9) (if T < N then (T : Int) else -1) (fun h9 => if_pos h9) (fun h9 => if_neg h9))
  have H2 := Lib.hid h2
  have DL : Hid (∀ j w', T ≤ j → j < N → Calls Try.prog 69 #[.int .i64 (v j)] w' fun e w2 => e = .returned (.bool true) ∧ w2 = w') := fun j w' q1 q2 => by
    have := iDelF (v j) w'
    rw [decide_eq_true (h2 j q1 q2)] at this
    exact this
  clear h h1 h2
  by_cases hTN : T < N
  · rw [if_pos hTN] at IX
    have n1 : ((T : Int) == -1) = false := beq_eq_false_iff_ne.2 (by omega)
    have hcl : ∀ ty, (Builtin.clear_ #[22] ty #[.slice (some ⟨g, T, none⟩) (N - T) (N - T)]).run Try.prog w = .ok (.tuple #[]) (w.setCells g T (List.replicate (N - T) (.int .i64 0))) := fun ty =>
      Lib.run_clear_slice w 22 3 ty (.int .i64 0) underlying_ints (fun w => zeroI w) rfl rfl g T (N - T) (N - T) (by omega) (fun t ht => by rw [H.out.cell (i := T + t) (by rw [rwL_length]; omega)]; rfl) (fun t _ => H.out.free (T + t))
    obtain ⟨z1, z2⟩ := ints_zero (N - T) T w H.out (by rw [rwL_length]; omega) (fun i q1 q2 => by rw [rwL_at (by omega)]; exact H2.out i q1 (by omega))
    have Z1 := Lib.hid z1
    have Z2 := Lib.hid z2
    clear z1 z2 H2
    go_enter Try.func68, Try.ntmps68
    go_wp2_with fail
    refine IX.out.mono ?_
    rintro e w' ⟨rfl, hw⟩
    rw [hw]
    clear hw IX
    go_wp2_with fail
    go_loopw [5, 6, 7] (fun v5 v6 _ wr => ∃ j : Nat, v5 = .int .i64 T ∧ v6 = .int .i64 j ∧ T ≤ j ∧ j ≤ N ∧ wr = w) (fun _ v6 _ _ => N - (intOf v6).toNat)
    case atStart => exact ⟨T + 1, rfl, by go_num, by omega, by omega, rfl⟩
    case round =>
      obtain ⟨j, rfl, rfl, hj1, hj2, rfl⟩ := hrel
      by_cases hlt : j < N
      · have hc := H.out.cell (i := j) (by rw [rwL_length]; exact hlt)
        rw [rwL_at hlt] at hc
        have hcall := Lib.hid (DL.out j wr hj1 hlt)
        have k0 : (j : Int) < (N : Int) := by omega
        generalize v j = x at hc hcall
        clear hcl
        go_wp2_with fail
        refine hcall.out.mono ?_
        rintro e w' ⟨rfl, hw⟩
        rw [hw]
        clear hw hcall
        go_wp2_with fail
        go_roundw
        case rel => exact ⟨j + 1, rfl, by go_num, by omega, by omega, trivial⟩
        case measure => simp [intOf]; omega
      · have t0 : (T : Int) ≤ (N : Int) := by omega
        go_wp2_with fail
        go_ret
        exact ⟨rfl, Z1.out, Z2.out⟩
  · rw [if_neg hTN] at IX
    obtain rfl : N = T := by omega
    go_enter Try.func68, Try.ntmps68
    go_wp2_with fail
    refine IX.out.mono ?_
    rintro e w' ⟨rfl, hw⟩
    rw [hw]
    clear hw IX
    go_wp2_with fail
    go_ret
    exact ⟨rfl, H.out, World.grownBy.refl _ _⟩
theorem Own.front3 {B n m P : Nat} {w : World} {q : Option Addr} {zs : List Int} (h : Own B w (.slice q n m) zs) (hP : P ≤ zs.length) : Own B w (.slice q P m) (zs.take P) := by
  have hl : (zs.take P).length = P := by rw [List.length_take]; omega
  rcases h with ⟨e, h0⟩ | ⟨g, c, e, hB, ⟨rest, hg⟩, h1, h2⟩
  · injection e with e1 e2 e3
    subst e1 e2 e3 h0
    have : P = 0 := by simpa using hP
    subst this
    exact .inl ⟨rfl, rfl⟩
  · injection e with e1 e2 e3
    subst e1 e2 e3
    refine .inr ⟨g, m, by rw [hl], hB, ⟨(zs.drop P).map (Value.int .i64) ++ rest, ?_⟩, by omega, by omega⟩
    rw [hg, ← List.append_assoc, ← List.map_append, List.take_append_drop]
def FcRes (R : List Int × Bool) (w : World) (e : Ending) (w' : World) : Prop := ∃ v, e = .returned (.tuple #[v, .bool R.2]) ∧ Own w.heap.size w' v R.1 ∧ Below w.heap.size w w'
theorem fcX_no {r c : Int} {xs : List Int} (h : (smR r c xs).ok = false) : fcX r c xs = ([], false) := by unfold fcX; rw [if_neg (by rw [h]; decide)]
theorem fcX_yes {r c : Int} {xs : List Int} (h : (smR r c xs).ok = true) : ∃ (R C T : Nat) (v : Nat → Int), r = R ∧ c = C ∧ R ≤ 24 ∧ C ≤ 24 ∧ (smR r c xs).d.r = R ∧ (smR r c xs).d.c = C ∧ (smR r c xs).d.zs.length = R * C ∧ T ≤ min R C ∧ (∀ i, i < min R C → mxC C (smR r c xs).d.zs i i = v i) ∧ (∀ i, i < T → v i ≠ 0) ∧ (∀ i, T ≤ i → v i = 0) ∧ fcX r c xs = (rwL T v, true) := by
  obtain ⟨R, C, s, f, rfl, rfl, hR, hC, -, -, -, -, e, hF, hS⟩ := smR_says h
  obtain ⟨T, t1, t2, t3, t4⟩ := fcL_form hS
  have ed : (smR R C xs).d = ⟨true, R, C, s.1⟩ := by rw [e]
  refine ⟨R, C, T, f, rfl, rfl, hR, hC, by rw [ed], by rw [ed], by rw [ed]; exact hF.siz.l1, t1, fun i hi => ?_, t2, t3, ?_⟩
  · rw [ed]
    have := hS.dia i i (by omega) (by omega)
    rw [if_pos rfl] at this
    exact this
  · unfold fcX
    rw [if_pos h, ed]
    show (fcL R C s.1 (min R C), true) = _
    rw [t4]; rfl
set_option maxHeartbeats 2000000 in
theorem iFactors (r c : Int) (a : Option Addr) (m : Nat) (xs : List Int) (w : World) (h : Rd w a xs) (hn : xs.length ≤ 16777216) :
    Calls Try.prog 24 #[.agg #[.int .i64 r, .int .i64 c, .slice a xs.length m]] w (FcRes (fcX r c xs) w) := by
  have SM : Hid (∀ w', Below w.heap.size w w' → Calls Try.prog 17 #[.agg #[.int .i64 r, .int .i64 c, .slice a xs.length m]] w' (SmG w' (smR r c xs))) := fun w' hb => iSmithForm r c a m xs w' (h.below hb) hn
  have B0 : Hid (Below w.heap.size w (w.alloc (.cells #[.int .i64 r, .int .i64 c, .slice a xs.length m] 26))) := (Below.refl _ _).alloc (Nat.le_refl _) _
  have S0 : Hid ((w.alloc (.cells #[.int .i64 r, .int .i64 c, .slice a xs.length m] 26)).heap.size = w.heap.size + 1) := by show _ = _; simp
  have NO : Hid ((smR r c xs).ok = false → fcX r c xs = ([], false)) := fcX_no
  have YES : Hid ((smR r c xs).ok = true → ∃ (R C T : Nat) (v : Nat → Int), r = R ∧ c = C ∧ R ≤ 24 ∧ C ≤ 24 ∧ (smR r c xs).d.r = R ∧ (smR r c xs).d.c = C ∧ (smR r c xs).d.zs.length = R * C ∧ T ≤ min R C ∧ (∀ i, i < min R C → mxC C (smR r c xs).d.zs i i = v i) ∧ (∀ i, i < T → v i ≠ 0) ∧ (∀ i, T ≤ i → v i = 0) ∧ fcX r c xs = (rwL T v, true)) := fcX_yes
  obtain ⟨A, hA⟩ : ∃ A, smR r c xs = A := ⟨_, rfl⟩
  rw [hA] at SM NO YES
  obtain ⟨F, hF⟩ : ∃ F, fcX r c xs = F := ⟨_, rfl⟩
  rw [hF] at NO YES ⊢
  generalize xs.length = L at SM B0 S0 ⊢
  clear h hn hA hF
  go_enter Try.func24, Try.ntmps24
  go_wp2_with fail
  refine (SM.out _ B0.out).mono ?_
  rintro e w1 ⟨va, vb, vc, rfl, o1, o2, o3, -, -, -, hb⟩
  have B1 := Lib.hid (B0.out.trans (hb.mono B0.out.size))
  have sz := hb.size
  obtain ⟨qa, ma, rfl, -, -⟩ := o1.form
  obtain ⟨qb, mb, rfl, -, -⟩ := o2.form
  obtain ⟨qc, mc, rfl, -, -⟩ := o3.form
  clear hb o2 o3 SM
  cases hk : A.ok with
  | false =>
    have V := Lib.hid (NO.out hk)
    clear YES o1 sz
    have B2 := Lib.hid (((B1.out.alloc B1.out.size (.cells #[.int .i64 A.d.r, .int .i64 A.d.c, .slice qa A.d.zs.length ma] 26)).alloc (by have := B1.out.size; simp; omega) (.cells #[.int .i64 A.u.r, .int .i64 A.u.c, .slice qb A.u.zs.length mb] 26)).alloc (by have := B1.out.size; simp; omega) (.cells #[.int .i64 A.v.r, .int .i64 A.v.c, .slice qc A.v.zs.length mc] 26))
    go_wp2_with fail
    rw [V.out]
    exact bodyPost_ret (v := .tuple #[.slice none 0 0, .bool false]) (by simp [results, Try.results24, go_sem]) rfl ⟨_, rfl, .inl ⟨rfl, rfl⟩, B2.out⟩
  | true =>
    obtain ⟨R, C, T, v, rfl, rfl, hR, hC, d1, d2, d3, t1, t2, t3, t4, t5⟩ := YES.out hk
    rw [d1, d2, d3]
    have RDD := o1.rdS
    have CA := o1.celA
    rw [d3] at CA
    clear YES NO hk
    have B2 : Hid (∀ o5 o6 o7, Below w1.heap.size w1 (((w1.alloc o5).alloc o6).alloc o7)) := fun o5 o6 o7 => (((Below.refl _ _).alloc (Nat.le_refl _) _).alloc (by simp) _).alloc (by simp; omega) _
    have DG : Hid (∀ w', Below w1.heap.size w1 w' → Calls Try.prog 64 #[.agg #[.int .i64 R, .int .i64 C, .slice qa (R * C) ma]] w' (LineRes (min R C) v w')) := fun w' hb => by
      have := iDiagOf R C qa (R * C) ma A.d.zs w' (RDD.below hb) CA d3 rfl hR hC
      refine this.mono ?_
      rintro e w2 ⟨g, q1, q2, q3, q4⟩
      rw [rwL_congr t2] at q3
      exact ⟨g, q1, q2, q3, q4⟩
    obtain ⟨N, hN⟩ : ∃ N, min R C = N := ⟨_, rfl⟩
    have N24 : N ≤ 600 := by omega
    rw [hN] at DG t1
    have DE : Hid (∀ g w', Ints w' g (rwL N v) → Calls Try.prog 68 #[.slice (some ⟨g, 0, none⟩) N N, .func (.func 69) #[] #[]] w' fun e w2 => e = .returned (.slice (some ⟨g, 0, none⟩) T N) ∧ Ints w2 g (rwL N v) ∧ w'.grownBy w2 (some g)) := fun g w' hi => iDelete N T g v w' hi t1 N24 t3 (fun i q1 _ => t4 i q1)
    have FF := Lib.hid t5
    have TN := Lib.hid t1
    have TK : Hid ((rwL N v).take T = rwL T v) := by
      refine Lib.hid ?_
      unfold rwL
      rw [← List.map_take, List.take_range, Nat.min_eq_left t1]
    clear d1 d2 d3 t1 t2 t3 t4 t5 RDD CA o1 hN sz
    have BZ := Lib.hid (B2.out (.cells #[.int .i64 R, .int .i64 C, .slice qa (R * C) ma] 26) (.cells #[.int .i64 A.u.r, .int .i64 A.u.c, .slice qb A.u.zs.length mb] 26) (.cells #[.int .i64 A.v.r, .int .i64 A.v.c, .slice qc A.v.zs.length mc] 26))
    have K5 : Hid (Blk3 (((w1.alloc (.cells #[.int .i64 R, .int .i64 C, .slice qa (R * C) ma] 26)).alloc (.cells #[.int .i64 A.u.r, .int .i64 A.u.c, .slice qb A.u.zs.length mb] 26)).alloc (.cells #[.int .i64 A.v.r, .int .i64 A.v.c, .slice qc A.v.zs.length mc] 26)) w1.heap.size 26 (.int .i64 R) (.int .i64 C) (.slice qa (R * C) ma)) := ((Blk3.at_ _ _ _ _ rfl).old _).old _
    go_upto_region 2 with fail
    generalize ((w1.alloc (.cells #[.int .i64 R, .int .i64 C, .slice qa (R * C) ma] 26)).alloc (.cells #[.int .i64 A.u.r, .int .i64 A.u.c, .slice qb A.u.zs.length mb] 26)).alloc (.cells #[.int .i64 A.v.r, .int .i64 A.v.c, .slice qc A.v.zs.length mc] 26) = W2 at BZ K5 ⊢
    obtain ⟨p0, p1, p2, -, -, -⟩ := K5.out.all
    go_wp2_with fail
    refine (DG.out _ BZ.out).mono ?_
    rintro e w3 ⟨g, rfl, hg, hi, hb⟩
    have B3 := Lib.hid ((B1.out.trans (BZ.out.mono B1.out.size)).trans (hb.mono (by have := B1.out.size; have := BZ.out.size; omega)))
    have I3 := Lib.hid hi
    have G3 : Hid (w.heap.size ≤ g) := by show _ ≤ _; have := B1.out.size; have := BZ.out.size; omega
    clear hb hi hg p0 p1 p2 DG BZ K5 B2
    go_wp2_with fail
    refine (DE.out g _ I3.out).mono ?_
    rintro e w4 ⟨rfl, hi, hg⟩
    have B4 := Lib.hid (below_of_one hg G3.out B3.out.size)
    have B5 := Lib.hid (B3.out.trans B4.out)
    have OW : Hid (Own w.heap.size w4 (.slice (some ⟨g, 0, none⟩) T N) (rwL T v)) := by
      have : Own w.heap.size w4 (.slice (some ⟨g, 0, none⟩) N N) (rwL N v) := .inr ⟨g, N, by rw [rwL_length], G3.out, hi, by rw [rwL_length]; exact Nat.le_refl _, by rw [rwL_length]; omega⟩
      have := this.front3 (P := T) (by rw [rwL_length]; exact TN.out)
      rw [TK.out] at this
      exact this
    clear hi hg
    go_wp2_with fail
    rw [FF.out]
    exact bodyPost_ret (v := .tuple #[.slice (some ⟨g, 0, none⟩) T N, .bool true]) (by simp [results, Try.results24, go_sem]) rfl ⟨_, rfl, OW.out, B5.out⟩
end Go.Proofs.Ytpelnfenfeoeeaa
end
