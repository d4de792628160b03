/-
  Texts of this seat, joined: ZBTsP · ZBSfI · ZBFcI · ZBMgM · ZBLatR · ZBSolM · ZBLatS · ZBSmLw
-/
import Derived.Deep.LoopGhost
import Derived.Lib.SliceRun
import Derived.Test.YtpelnfenfeoeeaaPk37
import Derived.Test.YtpelnfenfeoeeaaPk38
import Derived.Test.YtpelnfenfeoeeaaPk41
import Derived.Test.YtpelnfenfeoeeaaPk42
import Derived.Test.YtpelnfenfeoeeaaPk43
import Derived.Test.YtpelnfenfeoeeaaPk44

section
/-
  Chapter 13, in the program: rounds until the pivot is alone and divides all that comes after it.
-/
namespace Go.Proofs.Ytpelnfenfeoeeaa
set_option maxRecDepth 100000
open Go.RowKit
def PvtRes (R C px B t : Nat) (LF : Option (SSt × Bool)) (w : World) (e : Ending) (w' : World) : Prop :=
  FrS (fun b => b = px) w w' ∧ ((LF = none ∧ e = .returned (.bool false)) ∨ ∃ u, LF = some (u, true) ∧ e = .returned (.bool true) ∧ TsW R C px B (ng3 R C t u) w')
theorem ud_nd {R C t : Nat} {s : SSt} (hI : SmI R C (mxC C s.1) t) (hcl : clB R C t s = true) {p : Int} : ∀ i, t < i → i < R → ((∀ j, j < C → p ∣ mxC C s.1 i j) ↔ ∀ j, t < j → j < C → cel3S C s i j % p = 0) := fun i h1 h2 => by
  obtain ⟨q1, -⟩ := clB_true hcl
  constructor
  · intro h j _ h4
    exact Int.emod_eq_zero_of_dvd (h j h4)
  · intro h j hj
    rcases Nat.lt_trichotomy j t with h3 | h3 | h3
    · have := hI.col i j h3 h2 (by omega)
      rw [this]; exact Int.dvd_zero p
    · have := q1 i h1 h2
      rw [h3]
      rw [show mxC C s.1 i t = 0 from this]; exact Int.dvd_zero p
    · exact Int.dvd_of_emod_eq_zero (h j h3 hj)
theorem ud_none {R C t : Nat} {s : SSt} (hI : SmI R C (mxC C s.1) t) (hcl : clB R C t s = true) {p : Int} (hp : cel3S C s t t = p) (h : ∀ i, t < i → i < R → ∀ j, j < C → p ∣ mxC C s.1 i j) : ndF R C t s = none :=
  ndF_all fun i h1 h2 b h3 h4 => by rw [hp]; exact (ud_nd hI hcl i h1 h2).1 (h i h1 h2) b h3 h4
theorem ud_some {R C t k : Nat} {s : SSt} (hI : SmI R C (mxC C s.1) t) (hcl : clB R C t s = true) {p : Int} (hp : cel3S C s t t = p) (h1 : t < k) (h2 : k < R) (h3 : ∃ j, j < C ∧ ¬ p ∣ mxC C s.1 k j) (h4 : ∀ i, t < i → i < k → ∀ j, j < C → p ∣ mxC C s.1 i j) : ndF R C t s = some k := by
  have hn : ∃ j, t < j ∧ j < C ∧ cel3S C s k j % p ≠ 0 := Classical.byContradiction fun hn => by
    obtain ⟨j, hj, hd⟩ := h3
    refine hd ((ud_nd hI hcl k h1 h2).2 (fun b b1 b2 => ?_) j hj)
    exact Classical.byContradiction fun h9 => hn ⟨b, b1, b2, h9⟩
  obtain ⟨j, a1, a2, a3⟩ := hn
  exact ndF_found h1 h2 a1 a2 (by rw [hp]; exact a3) fun i b1 b2 b b3 b4 => by rw [hp]; exact (ud_nd hI hcl i b1 (by omega)).1 (h4 i b1 b2) b b3 b4
set_option maxHeartbeats 8000000 in
theorem iMakePivot (R C px B t f0 : Nat) (M : Mx) (s : SSt) (LF : Option (SSt × Bool)) (w : World) (h : TsW R C px B s w) (hR : R ≤ 24) (hC : C ≤ 24) (htR : t < R) (htC : t < C) (hF : Fin3 R C M s) (hI : SmI R C (mxC C s.1) t) (hpl : plS R C t s ≠ none) (hfu : FuelS R C t f0 s) (hLF : loopS R C t f0 s = LF) :
    Calls Try.prog 62 #[.pointer (some ⟨px, 0, none⟩), .int .i64 t] w (PvtRes R C px B t LF w) := by
  have hle := le600 hR hC
  have PL : Hid (∀ s1, plS R C t s1 ≠ none → ∃ i j, PlaceP R C t s1 i j) := fun s1 h9 => by
    rcases plS_says R C t s1 htR htC with ⟨h1, -⟩ | h1
    · exact absurd h1 h9
    · exact h1
  have RND : Hid (∀ s1 w' i j, TsW R C px B s1 w' → Fin3 R C M s1 → SmI R C (mxC C s1.1) t → PlaceP R C t s1 i j → Calls Try.prog 117 #[.pointer (some ⟨px, 0, none⟩), .int .i64 t] w' (TsRes R C px B (rdF R C t (sw3 R C t i j s1)) w')) := fun s1 w' i j q1 q2 q3 q4 => by
    obtain ⟨-, -, hz⟩ := sw3_says q2 q3 htR htC q4.i0 q4.i1 q4.j0 q4.j1 (ok3_sw q2.ok)
    exact iRound R C px B t i j s1 w' q1 hR hC q2.ok htR htC q4.i1 q4.j1 q4.eq (by rw [hz]; exact q4.nz)
  have ALN : Hid (∀ s1 w', TsW R C px B s1 w' → Calls Try.prog 118 #[.pointer (some ⟨px, 0, none⟩), .int .i64 t] w' (Gives (.bool (clB R C t s1)) w')) := fun s1 w' q1 => iAlone2 R C px B t s1 w' q1 hR hC htR htC
  have UDV : Hid (∀ (s1 : SSt) (qa : Option Addr) (ma : Nat) w', Own B w' (.slice qa (R * C) ma) s1.1 → Siz3 R C s1 → ok3 s1 = true → Calls Try.prog 119 #[.agg #[.int .i64 R, .int .i64 C, .slice qa (R * C) ma], .int .i64 t] w' (UdRes R C t (cel3S C s1 t t) s1.1 w')) := fun s1 qa ma w' q1 q2 q3 => iUndiv R C qa (R * C) ma t s1.1 _ w' q1.rdS q1.celA q2.l1 rfl hR hC htR htC (ok3_and q3).1 rfl
  have ADD : Hid (∀ s1 w' k, TsW R C px B s1 w' → ok3 s1 = true → t < k → k < R → Calls Try.prog 120 #[.pointer (some ⟨px, 0, none⟩), .agg #[.int .i64 2, .int .i64 t, .int .i64 k, .int .i64 1]] w' (TsRes R C px B (row3 R C 2 t k 1 s1) w')) := fun s1 w' k q1 q2 q3 q4 => iDoRow R C px B t k 2 1 s1 w' q1 hR hC q2 (isOp_add hR htR q4 (by omega) (by decide))
  have NEG : Hid (∀ s1 w', TsW R C px B s1 w' → ok3 s1 = true → Calls Try.prog 120 #[.pointer (some ⟨px, 0, none⟩), .agg #[.int .i64 1, .int .i64 t, .int .i64 t, .int .i64 0]] w' (TsRes R C px B (row3 R C 1 t t 0 s1) w')) := fun s1 w' q1 q2 => iDoRow R C px B t t 1 0 s1 w' q1 hR hC q2 (isOp_neg hR htR)
  have RI : Hid (∀ (g o ma : Nat) (zs : List Int) w', Own B w' (.slice (some ⟨g, o, none⟩) (R * C) ma) zs → Calls Try.prog 83 #[.agg #[.int .i64 R, .int .i64 C, .slice (some ⟨g, o, none⟩) (R * C) ma], .int .i64 t] w' (fun e w2 => ∃ m', e = .returned (.slice (some ⟨g, o + t * C, none⟩) C m') ∧ Below w'.heap.size w' w2)) := fun g o ma zs w' hw => (iRowIn R C t (t * C) (R * C) ma _ w' hw.celA.spot rfl (by rw [← Nat.succ_mul]; exact Nat.mul_le_mul_right _ htR) hw.celA.le hw.celA.nil (by omega) (by omega)).mono fun e w2 ⟨q', m', h1, _, h2, _, h3⟩ => ⟨m', by rw [h1, h2 g o rfl (by omega)], h3⟩
  have HA : Hid (∀ (s1 : SSt) (qa : Option Addr) w', Siz3 R C s1 → Rd w' qa s1.1 → ∃ g o : Nat, qa = some ⟨g, o, none⟩ ∧ w'.cell? ⟨g, o + t * C + t, none⟩ = some (.int .i64 (cel3S C s1 t t))) := fun s1 qa w' hs hw => by
    obtain ⟨g, o, e, hc⟩ := hw (t * C + t) (by rw [hs.l1]; exact idx_lt htR htC)
    exact ⟨g, o, e, by rw [Nat.add_assoc]; exact hc⟩
  have NXT : Hid (∀ (f : Nat) (s1 : SSt) (i j : Nat), Fin3 R C M s1 → SmI R C (mxC C s1.1) t → PlaceP R C t s1 i j → FuelS R C t (f + 1) s1 → loopS R C t (f + 1) s1 = LF → ok3 (rdF R C t (sw3 R C t i j s1)) = true → Fin3 R C M (rdF R C t (sw3 R C t i j s1)) ∧ SmI R C (mxC C (rdF R C t (sw3 R C t i j s1)).1) t ∧ cel3S C (rdF R C t (sw3 R C t i j s1)) t t ≠ 0 ∧ (clB R C t (rdF R C t (sw3 R C t i j s1)) = false → FuelS R C t f (rdF R C t (sw3 R C t i j s1)) ∧ loopS R C t f (rdF R C t (sw3 R C t i j s1)) = LF) ∧ (clB R C t (rdF R C t (sw3 R C t i j s1)) = true → (ndF R C t (rdF R C t (sw3 R C t i j s1)) = none → LF = some (rdF R C t (sw3 R C t i j s1), true)) ∧ ∀ k, ndF R C t (rdF R C t (sw3 R C t i j s1)) = some k → (ok3 (row3 R C 2 t k 1 (rdF R C t (sw3 R C t i j s1))) = false → LF = none) ∧ (ok3 (row3 R C 2 t k 1 (rdF R C t (sw3 R C t i j s1))) = true → Fin3 R C M (row3 R C 2 t k 1 (rdF R C t (sw3 R C t i j s1))) ∧ SmI R C (mxC C (row3 R C 2 t k 1 (rdF R C t (sw3 R C t i j s1))).1) t ∧ FuelS R C t f (row3 R C 2 t k 1 (rdF R C t (sw3 R C t i j s1))) ∧ loopS R C t f (row3 R C 2 t k 1 (rdF R C t (sw3 R C t i j s1))) = LF ∧ plS R C t (row3 R C 2 t k 1 (rdF R C t (sw3 R C t i j s1))) ≠ none))) := fun f s1 i j q1 q2 q3 q4 q5 q6 => by
    obtain ⟨g1, g2, g3, -, -⟩ := round_says q1 q2 htR htC q3 q6
    refine ⟨g1, g2, by rw [g3]; exact q3.nz, fun hcl => ⟨fuel_left q1 q2 htR htC q3 q4 q6 hcl, ?_⟩, fun hcl => ⟨fun hn => ?_, fun k hn => ?_⟩⟩
    · rw [← q5]; exact (loopS_left q3.eq q6 hcl).symm
    · rw [← q5]; exact loopS_done q3.eq q6 hcl hn
    · have e := loopS_add (f := f) q3.eq q6 hcl hn
      obtain ⟨k0, k1, -⟩ := ndF_some hn
      refine ⟨fun h => ?_, fun h => ?_⟩
      · rw [← q5, e, if_neg (by rw [h]; decide)]
      · obtain ⟨a1, a2⟩ := g1.row (.inr (.inr rfl)) htR k1 (fun _ => by omega) (by decide) h
        refine ⟨a1, (g2.op (Nat.le_refl _) htR (by omega) k1).congr fun a b ha hb => a2 a b ha hb, fuel_add q1 q2 htR htC q3 q4 q6 hcl hn h, ?_, fun hnone => ?_⟩
        · rw [← q5, e, if_pos h]
        · rcases plS_says R C t (row3 R C 2 t k 1 (rdF R C t (sw3 R C t i j s1))) htR htC with ⟨-, b2⟩ | ⟨i', j', b2⟩
          · have b3 := b2 t t (Nat.le_refl _) htR (Nat.le_refl _) htC
            rw [a2 t t htR htC] at b3
            unfold opX at b3
            rw [if_neg (by decide), if_neg (by decide), if_pos rfl] at b3
            have b4 := (clB_true hcl).1 k k0 k1
            have b5 : mxC C (rdF R C t (sw3 R C t i j s1)).1 k t = 0 := b4
            rw [b5, Int.zero_mul, Int.add_zero] at b3
            exact absurd b3 (by show cel3S C _ t t ≠ 0; rw [g3]; exact q3.nz)
          · rw [b2.eq] at hnone; cases hnone
  have BADL : Hid (∀ (f : Nat) (s1 : SSt) (i j : Nat), PlaceP R C t s1 i j → loopS R C t (f + 1) s1 = LF → ok3 (rdF R C t (sw3 R C t i j s1)) = false → LF = none) := fun f s1 i j q1 q2 q3 => by rw [← q2]; exact loopS_bad q1.eq q3
  have PLN : Hid (∀ s1, cel3S C s1 t t ≠ 0 → plS R C t s1 ≠ none) := fun s1 h9 hn => by
    rcases plS_says R C t s1 htR htC with ⟨-, b2⟩ | ⟨i', j', b2⟩
    · exact h9 (b2 t t (Nat.le_refl _) htR (Nat.le_refl _) htC)
    · rw [b2.eq] at hn; cases hn
  have UN : Hid (∀ s1 : SSt, SmI R C (mxC C s1.1) t → clB R C t s1 = true → (∀ i, t < i → i < R → ∀ j, j < C → cel3S C s1 t t ∣ mxC C s1.1 i j) → ndF R C t s1 = none) := fun s1 q1 q2 q3 => ud_none q1 q2 rfl q3
  have US : Hid (∀ (s1 : SSt) (k : Nat), SmI R C (mxC C s1.1) t → clB R C t s1 = true → t < k → k < R → (∃ j, j < C ∧ ¬ cel3S C s1 t t ∣ mxC C s1.1 k j) → (∀ i, t < i → i < k → ∀ j, j < C → cel3S C s1 t t ∣ mxC C s1.1 i j) → ndF R C t s1 = some k) := fun s1 k q1 q2 q3 q4 q5 q6 => ud_some q1 q2 rfl q3 q4 q5 q6
  have W0 := Lib.hid h
  have F0 := Lib.hid hF
  have I0 := Lib.hid hI
  have P0 := Lib.hid hpl
  have U0 := Lib.hid hfu
  have E0 := Lib.hid hLF
  clear h hF hI hpl hfu hLF hR hC hle
  go_enter Try.func62, Try.ntmps62
  go_wp2_with fail
  go_loopg [5] f0 (fun gk _ wq => ∃ s1 : SSt, TsW R C px B s1 wq ∧ FrS (fun b => b = px) w wq ∧ Fin3 R C M s1 ∧ SmI R C (mxC C s1.1) t ∧ plS R C t s1 ≠ none ∧ FuelS R C t gk s1 ∧ loopS R C t gk s1 = LF)
  case atStart => exact ⟨s, W0.out, FrS.refl _ _, F0.out, I0.out, P0.out, U0.out, E0.out⟩
  case round =>
    clear W0 F0 I0 P0 U0 E0
    obtain ⟨s1, hW, hfr, hF, hI, hpl, hfu, hlf⟩ := hrel
    obtain ⟨f, rfl⟩ : ∃ f, gk = f + 1 := ⟨gk - 1, by have := hfu.1; omega⟩
    obtain ⟨i, j, hP⟩ := PL.out s1 hpl
    have RN := Lib.hid (RND.out s1 wr i j hW hF hI hP)
    have BD := Lib.hid (BADL.out f s1 i j hP hlf)
    have NX := Lib.hid (NXT.out f s1 i j hF hI hP hfu hlf)
    have FR := Lib.hid hfr
    clear hW hfr hF hI hpl hfu hlf hP RND BADL NXT PL
    generalize rdF R C t (sw3 R C t i j s1) = s2 at RN BD NX
    go_wp2_with fail
    refine RN.out.mono ?_
    rintro e w1 ⟨rfl, hf, hw⟩
    have F1 := Lib.hid (FR.out.trans hf)
    have HW := Lib.hid hw
    obtain ⟨ok, hok⟩ : ∃ ok, ok3 s2 = ok := ⟨_, rfl⟩
    have HO := Lib.hid hok
    rw [hok] at BD NX HW ⊢
    clear hf hw FR RN hok
    cases ok with
    | false =>
      have V := Lib.hid (BD.out (by trivial))
      go_wp2_with fail
      go_ret
      exact ⟨F1.out, .inl ⟨V.out, rfl⟩⟩
    | true =>
    have W1 := Lib.hid (HW.out (by trivial))
    obtain ⟨a1, a2, a3, a4, a5⟩ := NX.out (by trivial)
    have FN := Lib.hid a1
    have IN := Lib.hid a2
    have NZ := Lib.hid a3
    have L0 := Lib.hid a4
    have L1 := Lib.hid a5
    have AL1 := Lib.hid (ALN.out s2 w1 W1.out)
    obtain ⟨cl, hcl⟩ : ∃ cl, clB R C t s2 = cl := ⟨_, rfl⟩
    have CL := Lib.hid hcl
    rw [hcl] at L0 L1 AL1
    clear a1 a2 a3 a4 a5 NX HW BD hcl ALN
    go_wp2_with fail
    refine AL1.out.mono ?_
    rintro e w2 ⟨rfl, hb⟩
    have W2 := Lib.hid (W1.out.step hb)
    have F2 := Lib.hid (F1.out.trans (FrS.of_below hb))
    clear hb AL1 W1 F1
    cases cl with
    | false =>
      obtain ⟨b1, b2⟩ := L0.out (by trivial)
      have PN := Lib.hid (PLN.out s2 NZ.out)
      go_wp2_with fail
      go_roundg f
      case measure => omega
      case rel => exact ⟨s2, W2.out, F2.out, FN.out, IN.out, PN.out, b1, b2⟩
    | true =>
    obtain ⟨b1, b2⟩ := L1.out (by trivial)
    have LN := Lib.hid b1
    have LS := Lib.hid b2
    obtain ⟨qa, qu, qv, ma, mu, mv, q⟩ := W2.out
    obtain ⟨c0, c1, c2, -⟩ := q.k.all
    have UD := Lib.hid (UDV.out s2 qa ma w2 q.fA q.siz HO.out)
    have UN1 := Lib.hid (UN.out s2 IN.out CL.out)
    have US1 := Lib.hid (fun k => US.out s2 k IN.out CL.out)
    clear q b1 b2 L0 L1 UDV UN US
    go_wp2_with fail
    refine UD.out.mono ?_
    rintro e w3 ⟨hx, hb⟩
    have W3 := Lib.hid (W2.out.step hb)
    have F3 := Lib.hid (F2.out.trans (FrS.of_below hb))
    clear hb UD W2 F2 c0 c1 c2
    rcases hx with ⟨k, rfl, k1, k2, k3, k4⟩ | ⟨rfl, k4⟩
    · have HN := US1.out k k1 k2 k3 k4
      obtain ⟨b1, b2⟩ := LS.out k HN
      have B1 := Lib.hid b1
      have B2 := Lib.hid b2
      have n1 : ¬ (k : Int) < 0 := by omega
      have AD := Lib.hid (ADD.out s2 w3 k W3.out HO.out k1 k2)
      clear b1 b2 k3 k4 HN LS LN UN1 US1 ADD
      generalize row3 R C 2 t k 1 s2 = s4 at B1 B2 AD
      go_wp2_with fail
      refine AD.out.mono ?_
      rintro e w4 ⟨rfl, hf, hw⟩
      have F4 := Lib.hid (F3.out.trans hf)
      have HW := Lib.hid hw
      obtain ⟨ok, hok⟩ : ∃ ok, ok3 s4 = ok := ⟨_, rfl⟩
      rw [hok] at B1 B2 HW ⊢
      clear hf hw AD W3 F3 hok
      cases ok with
      | false =>
        have V := Lib.hid (B1.out (by trivial))
        go_wp2_with fail
        go_ret
        exact ⟨F4.out, .inl ⟨V.out, rfl⟩⟩
      | true =>
        have W4 := Lib.hid (HW.out (by trivial))
        obtain ⟨d1, d2, d3, d4, d5⟩ := B2.out (by trivial)
        have D1 := Lib.hid d1
        have D2 := Lib.hid d2
        have D3 := Lib.hid d3
        have D4 := Lib.hid d4
        have D5 := Lib.hid d5
        clear d1 d2 d3 d4 d5 B1 B2 HW
        go_wp2_with fail
        go_roundg f
        case measure => omega
        case rel => exact ⟨s4, W4.out, F4.out, D1.out, D2.out, D5.out, D3.out, D4.out⟩
    · have HN := UN1.out k4
      have V := Lib.hid (LN.out HN)
      clear k4 HN LS LN UN1 US1 ADD
      have NG1 : Hid (cel3S C s2 t t < 0 → row3 R C 1 t t 0 s2 = ng3 R C t s2) := fun h => by unfold ng3; rw [if_pos h]
      have NG2 : Hid (¬ cel3S C s2 t t < 0 → s2 = ng3 R C t s2) := fun h => by unfold ng3; rw [if_neg h]
      have ON : Hid (ok3 (ng3 R C t s2) = true) := ok3_ng HO.out
      obtain ⟨qa, qu, qv, ma, mu, mv, q⟩ := W3.out
      obtain ⟨c0, c1, c2, -⟩ := q.k.all
      obtain ⟨g, o, rfl, -⟩ := HA.out s2 qa _ q.siz q.fA.rdS
      have RIx := Lib.hid (RI.out g o ma s2.1 w3 q.fA)
      have CE : Hid (∀ w', Below w3.heap.size w3 w' → w'.cell? ⟨g, o + t * C + t, none⟩ = some (.int .i64 (cel3S C s2 t t))) := fun w' hb => by
        obtain ⟨g', o', e, hc⟩ := HA.out s2 _ w' q.siz (q.fA.rdS.below hb)
        injection e with e
        injection e with e1 e2
        rw [e1, e2]; exact hc
      have NGC := Lib.hid (fun w' h9 => NEG.out s2 w' h9 HO.out)
      obtain ⟨s5, hs5⟩ : ∃ s5, ng3 R C t s2 = s5 := ⟨_, rfl⟩
      have RES : Hid (∀ e w', FrS (fun b => b = px) w w' → e = .returned (.bool true) → TsW R C px B s5 w' → PvtRes R C px B t LF w e w') := fun e w' r1 r2 r3 => ⟨r1, .inr ⟨s2, V.out, r2, by rw [hs5]; exact r3⟩⟩
      rw [hs5] at NG1 NG2 ON
      obtain ⟨x, hx⟩ : ∃ x, cel3S C s2 t t = x := ⟨_, rfl⟩
      rw [hx] at CE NG1 NG2 NZ
      have u0 : (t : Int) < (C : Int) := by omega
      clear q hs5 hx HA RI NEG
      go_wp2_with fail
      refine RIx.out.mono ?_
      rintro e w4 ⟨m', rfl, hb⟩
      have W4 := Lib.hid (W3.out.step hb)
      have F4 := Lib.hid (F3.out.trans (FrS.of_below hb))
      have hcell := CE.out w4 hb
      clear hb RIx W3 F3 c0 c1 c2 CE
      by_cases hx0 : x < 0
      · have n1 : decide (0 < x) = false := decide_eq_false (by omega)
        have NG := Lib.hid (NGC.out w4 W4.out)
        rw [NG1.out hx0] at NG
        go_wp2_with fail
        refine NG.out.mono ?_
        rintro e w5 ⟨rfl, hf, hw⟩
        have F5 := Lib.hid (F4.out.trans hf)
        have W5 := Lib.hid (hw ON.out)
        clear hf hw NG
        go_wp2_with fail
        go_ret
        exact RES.out _ _ F5.out (by rw [ON.out]; first | rfl | simp) W5.out
      · have n1 : decide (0 < x) = true := decide_eq_true (by have := NZ.out; omega)
        have W5 : Hid (TsW R C px B s5 w4) := by refine Lib.hid ?_; rw [← NG2.out (by omega)]; exact W4.out
        go_wp2_with fail
        go_ret
        exact RES.out _ _ F4.out rfl W5.out
end Go.Proofs.Ytpelnfenfeoeeaa
end

section
/-
  Chapter 13, in the program: SmithForm.
-/
namespace Go.Proofs.Ytpelnfenfeoeeaa
set_option maxRecDepth 100000
open Go.RowKit
theorem turn_id (n : Nat) : turnL n n (idL n n) = idL n n := by
  refine list_getD (by rw [turnL_length, idL_length]) fun p hp => ?_
  rw [turnL_length] at hp
  have hn : 0 < n := by
    rcases Nat.eq_zero_or_pos n with e | e
    · rw [e, Nat.mul_zero] at hp; omega
    · exact e
  have hi : p % n < n := Nat.mod_lt p hn
  have hj : p / n < n := Nat.div_lt_of_lt_mul hp
  have ep : p = p / n * n + p % n := place_split
  have e1 := turnL_at n n (idL n n) hi hj
  rw [← ep] at e1
  rw [e1]
  have h1 := mxL_idL n (p % n) (p / n) hi hj
  have h2 := mxL_idL n (p / n) (p % n) hj hi
  have h1 : (idL n n).getD (p % n * n + p / n) 0 = idX (p % n) (p / n) := h1
  have h2 : (idL n n).getD (p / n * n + p % n) 0 = idX (p / n) (p % n) := h2
  rw [← ep] at h2
  rw [h1, h2]
  unfold idX
  by_cases e : p % n = p / n
  · rw [if_pos e, if_pos e.symm]
  · rw [if_neg e, if_neg (fun h => e h.symm)]
theorem mF {W w' : World} {b1 b2 b3 : Nat} {t1 t2 t3 : TypeId} {p1 p2 p3 q1 q2 q3 r1 r2 r3 : Value} (h1 : Blk3 W b1 t1 p1 p2 p3) (h2 : Blk3 W b2 t2 q1 q2 q3) (h3 : Blk3 W b3 t3 r1 r2 r3) (hb : Below W.heap.size W w') :
    w'.cell? ⟨b1, 0, none⟩ = some p1 ∧ w'.cell? ⟨b1, 1, none⟩ = some p2 ∧ w'.cell? ⟨b1, 2, none⟩ = some p3 ∧ w'.cell? ⟨b2, 0, none⟩ = some q1 ∧ w'.cell? ⟨b2, 1, none⟩ = some q2 ∧ w'.cell? ⟨b2, 2, none⟩ = some q3 ∧ w'.cell? ⟨b3, 0, none⟩ = some r1 ∧ w'.cell? ⟨b3, 1, none⟩ = some r2 ∧ w'.cell? ⟨b3, 2, none⟩ = some r3 := by
  obtain ⟨a1, a2, a3, -, -, -⟩ := (h1.step hb).all
  obtain ⟨a4, a5, a6, -, -, -⟩ := (h2.step hb).all
  obtain ⟨a7, a8, a9, -, -, -⟩ := (h3.step hb).all
  exact ⟨a1, a2, a3, a4, a5, a6, a7, a8, a9⟩
set_option maxHeartbeats 16000000 in
theorem iSmithForm (r c : Int) (a : Option Addr) (m : Nat) (xs : List Int) (w : World) (h : Rd w a xs) (hn : xs.length ≤ 16777216) :
    Calls Try.prog 17 #[.agg #[.int .i64 r, .int .i64 c, .slice a xs.length m]] w (SmG w (smR r c xs)) := by
  have IM : Hid (∀ w', Below w.heap.size w w' → Calls Try.prog 58 #[.agg #[.int .i64 r, .int .i64 c, .slice a xs.length m]] w' (Gives (.bool (isMat r c xs)) w')) := fun w' hb => iIsMat r c a m xs w' (h.below hb) hn
  cases hm : isMat r c xs with
  | false =>
    have RN : Hid (smR r c xs = SR.no) := smR_no hm
    rw [hm] at IM
    generalize smR r c xs = RES at RN ⊢
    generalize xs.length = L at IM ⊢
    clear h hn hm
    go_enter Try.func17, Try.ntmps17
    go_upto_region 1 with fail
    have K0 : Hid (Blk3 ((((w.alloc (.cells #[.int .i64 r, .int .i64 c, .slice a L m] 26)).alloc (.cells #[.int .i64 0, .int .i64 0, .slice none 0 0] 26)).alloc (.cells #[.int .i64 0, .int .i64 0, .slice none 0 0] 26)).alloc (.cells #[.int .i64 0, .int .i64 0, .slice none 0 0] 26)) w.heap.size 26 (.int .i64 r) (.int .i64 c) (.slice a L m)) := (((Blk3.at_ _ _ _ _ rfl).old _).old _).old _
    have R0 : Hid (Res3 w.heap.size (.int .i64 0) (.int .i64 0) (.slice none 0 0) (.int .i64 0) (.int .i64 0) (.slice none 0 0) (.int .i64 0) (.int .i64 0) (.slice none 0 0) ((((w.alloc (.cells #[.int .i64 r, .int .i64 c, .slice a L m] 26)).alloc (.cells #[.int .i64 0, .int .i64 0, .slice none 0 0] 26)).alloc (.cells #[.int .i64 0, .int .i64 0, .slice none 0 0] 26)).alloc (.cells #[.int .i64 0, .int .i64 0, .slice none 0 0] 26))) := ⟨((Blk3.at_ _ _ _ _ (by simp)).old _).old _, (Blk3.at_ _ _ _ _ (by simp)).old _, Blk3.at_ _ _ _ _ (by simp)⟩
    have B0 : Hid (Below w.heap.size w ((((w.alloc (.cells #[.int .i64 r, .int .i64 c, .slice a L m] 26)).alloc (.cells #[.int .i64 0, .int .i64 0, .slice none 0 0] 26)).alloc (.cells #[.int .i64 0, .int .i64 0, .slice none 0 0] 26)).alloc (.cells #[.int .i64 0, .int .i64 0, .slice none 0 0] 26))) := ((((Below.refl _ _).alloc (Nat.le_refl _) _).alloc (by simp) _).alloc (by simp; omega) _).alloc (by simp; omega) _
    have S0 : Hid (((((w.alloc (.cells #[.int .i64 r, .int .i64 c, .slice a L m] 26)).alloc (.cells #[.int .i64 0, .int .i64 0, .slice none 0 0] 26)).alloc (.cells #[.int .i64 0, .int .i64 0, .slice none 0 0] 26)).alloc (.cells #[.int .i64 0, .int .i64 0, .slice none 0 0] 26)).heap.size = w.heap.size + 4) := by show _ = _; simp
    generalize (((w.alloc (.cells #[.int .i64 r, .int .i64 c, .slice a L m] 26)).alloc (.cells #[.int .i64 0, .int .i64 0, .slice none 0 0] 26)).alloc (.cells #[.int .i64 0, .int .i64 0, .slice none 0 0] 26)).alloc (.cells #[.int .i64 0, .int .i64 0, .slice none 0 0] 26) = W0 at K0 R0 B0 S0 ⊢
    obtain ⟨p0, p1, p2, -, -, -⟩ := K0.out.all
    go_wp2_with fail
    refine (IM.out _ B0.out).mono ?_
    rintro e w1 ⟨rfl, hb⟩
    have R1 := Lib.hid (R0.out.step hb)
    have B1 := Lib.hid (B0.out.trans (hb.mono (by have := S0.out; omega)))
    clear hb p0 p1 p2 K0 R0 B0
    obtain ⟨r0, r1, r2, f0, f1, f2⟩ := R1.out.a.all
    obtain ⟨e0, e1, e2, l0, l1, l2⟩ := R1.out.b.all
    obtain ⟨g0, g1, g2, m0, m1, m2⟩ := R1.out.c.all
    go_wp2_with fail
    obtain ⟨E0, E1, E2⟩ := R1.out.zero.all
    obtain ⟨E3, E4, E5⟩ := E1
    obtain ⟨E6, E7, E8⟩ := E2
    obtain ⟨E0, E1, E2⟩ := E0
    refine bodyPost_ret (v := .tuple #[.agg #[.int .i64 0, .int .i64 0, .slice none 0 0], .agg #[.int .i64 0, .int .i64 0, .slice none 0 0], .agg #[.int .i64 0, .int .i64 0, .slice none 0 0], .bool false]) (by simp [results, Try.results17, go_sem, E0, E1, E2, E3, E4, E5, E6, E7, E8]) rfl ?_
    rw [RN.out]
    exact ⟨_, _, _, rfl, .inl ⟨rfl, rfl⟩, .inl ⟨rfl, rfl⟩, .inl ⟨rfl, rfl⟩, fun k hk => by simp [Value.ownBlock] at hk, fun k hk => by simp [Value.ownBlock] at hk, fun k hk => by simp [Value.ownBlock] at hk, belowK (belowK (belowK B1.out (by omega)) (by omega)) (by omega)⟩
  | true =>
    obtain ⟨⟨r0, r1⟩, ⟨c0, c1⟩, hl, nx⟩ := isMat_says hm
    obtain ⟨R, rfl⟩ := Int.eq_ofNat_of_zero_le r0
    obtain ⟨C, rfl⟩ := Int.eq_ofNat_of_zero_le c0
    have hl : xs.length = R * C := by rw [← Int.natCast_mul] at hl; omega
    have R24 : R ≤ 24 := by omega
    have C24 : C ≤ 24 := by omega
    have RS : Hid (smR R C xs = SR.of R C (smX R C xs)) := by show _ = _; unfold smR; rw [if_pos hm]; rfl
    have CP : Hid (∀ w', Below w.heap.size w w' → Calls Try.prog 60 #[.agg #[.int .i64 R, .int .i64 C, .slice a xs.length m]] w' (CopyM R C xs.length xs w')) := fun w' hb => iCopyOf R C a m xs.length xs rfl w' (h.below hb) hn
    have ID : Hid (∀ w', Calls Try.prog 59 #[.int .i64 R] w' (MatRes ⟨true, R, R, idL R R⟩ w')) := fun w' => iIdent_t R w' R24
    have IE : Hid (∀ w', Calls Try.prog 59 #[.int .i64 C] w' (MatRes ⟨true, C, C, idL C C⟩ w')) := fun w' => iIdent_t C w' C24
    have LC : Hid (∀ (s : SSt) (t : Nat) (qa : Option Addr) (ma : Nat) w', Own w.heap.size w' (.slice qa (R * C) ma) s.1 → Siz3 R C s → ok3 s = true → t < R → t < C → Calls Try.prog 61 #[.agg #[.int .i64 R, .int .i64 C, .slice qa (R * C) ma], .int .i64 t] w' (Gives (.tuple #[.int .i64 (lcR C t (plL C t s ((R - t) * (C - t)))), .int .i64 (lcC C t (plL C t s ((R - t) * (C - t)))), .bool (!decide (plL C t s ((R - t) * (C - t)) < 0))]) w')) := fun s t qa ma w' q1 q2 q3 q4 q5 => iLeastCell R C qa (R * C) ma t s w' q1.rdS q1.celA q2.l1 rfl R24 C24 q4 q5 (ok3_and q3).1
    have MP : Hid (∀ (M : Mx) (px t : Nat) (s : SSt) w', TsW R C px w.heap.size s w' → t < R → t < C → Fin3 R C M s → SmI R C (mxC C s.1) t → plS R C t s ≠ none → Calls Try.prog 62 #[.pointer (some ⟨px, 0, none⟩), .int .i64 t] w' (PvtRes R C px w.heap.size t (loopS R C t (fu0 R C t s) s) w')) := fun M px t s w' q1 q2 q3 q4 q5 q6 => iMakePivot R C px w.heap.size t (fu0 R C t s) M s _ w' q1 R24 C24 q2 q3 q4 q5 q6 (FuelS.start R C t s) rfl
    have TU : Hid (∀ (s : SSt) (qv : Option Addr) (mv : Nat) w', Own w.heap.size w' (.slice qv (C * C) mv) (turnL C C s.2.2) → Siz3 R C s → ok3 s = true → Calls Try.prog 35 #[.agg #[.int .i64 C, .int .i64 C, .slice qv (C * C) mv]] w' (MatRes ⟨true, C, C, s.2.2⟩ w')) := fun s qv mv w' q1 q2 q3 => by
      have hl := turnL_length C C s.2.2
      have := iTurn_t C C qv mv (turnL C C s.2.2) w' q1.rdS (by rw [hl]; have := le600 C24 C24; omega) (isMat_mk C24 C24 hl (by rw [nums_turn q2.l3]; exact (ok3_and q3).2.2))
      rw [hl, turn_turn C C _ q2.l3] at this
      exact this
    have F0 := Lib.hid (smX_start hl nx)
    have I0 : Hid (SmI R C (mxC C xs) 0) := SmI.start _ _ _
    have X0 : Hid (smX R C xs = outS R C (min R C - 0) 0 (xs, idL R R, idL C C)) := rfl
    have LB := Lib.hid (And.intro (le600 R24 C24) (And.intro (le600 R24 R24) (le600 C24 C24)))
    rw [hm] at IM
    rw [RS.out]
    obtain ⟨X, hX⟩ : ∃ X, smX R C xs = X := ⟨_, rfl⟩
    rw [hX] at X0 ⊢
    obtain ⟨N, hN⟩ : ∃ N, min R C = N := ⟨_, rfl⟩
    have NR : Hid (N ≤ R ∧ N ≤ C) := by refine Lib.hid ?_; rw [← hN]; exact ⟨Nat.min_le_left _ _, Nat.min_le_right _ _⟩
    have vm3 : Hid (min (R : Int) (C : Int) = (N : Int)) := by show _ = _; rw [← hN]; omega
    rw [hN] at X0
    rw [hl] at IM CP ⊢
    obtain ⟨M, hM⟩ : ∃ M, mxC C xs = M := ⟨_, rfl⟩
    rw [hM] at F0
    have XL := Lib.hid hl
    clear h hn hm r0 r1 c0 c1 hl nx RS hX hN hM
    go_enter Try.func17, Try.ntmps17
    go_upto_region 1 with fail
    have K0 : Hid (Blk3 ((((w.alloc (.cells #[.int .i64 R, .int .i64 C, .slice a (R * C) m] 26)).alloc (.cells #[.int .i64 0, .int .i64 0, .slice none 0 0] 26)).alloc (.cells #[.int .i64 0, .int .i64 0, .slice none 0 0] 26)).alloc (.cells #[.int .i64 0, .int .i64 0, .slice none 0 0] 26)) w.heap.size 26 (.int .i64 R) (.int .i64 C) (.slice a (R * C) m)) := (((Blk3.at_ _ _ _ _ rfl).old _).old _).old _
    have R0 : Hid (Res3 w.heap.size (.int .i64 0) (.int .i64 0) (.slice none 0 0) (.int .i64 0) (.int .i64 0) (.slice none 0 0) (.int .i64 0) (.int .i64 0) (.slice none 0 0) ((((w.alloc (.cells #[.int .i64 R, .int .i64 C, .slice a (R * C) m] 26)).alloc (.cells #[.int .i64 0, .int .i64 0, .slice none 0 0] 26)).alloc (.cells #[.int .i64 0, .int .i64 0, .slice none 0 0] 26)).alloc (.cells #[.int .i64 0, .int .i64 0, .slice none 0 0] 26))) := ⟨((Blk3.at_ _ _ _ _ (by simp)).old _).old _, (Blk3.at_ _ _ _ _ (by simp)).old _, Blk3.at_ _ _ _ _ (by simp)⟩
    have B0 : Hid (Below w.heap.size w ((((w.alloc (.cells #[.int .i64 R, .int .i64 C, .slice a (R * C) m] 26)).alloc (.cells #[.int .i64 0, .int .i64 0, .slice none 0 0] 26)).alloc (.cells #[.int .i64 0, .int .i64 0, .slice none 0 0] 26)).alloc (.cells #[.int .i64 0, .int .i64 0, .slice none 0 0] 26))) := ((((Below.refl _ _).alloc (Nat.le_refl _) _).alloc (by simp) _).alloc (by simp; omega) _).alloc (by simp; omega) _
    have S0 : Hid (((((w.alloc (.cells #[.int .i64 R, .int .i64 C, .slice a (R * C) m] 26)).alloc (.cells #[.int .i64 0, .int .i64 0, .slice none 0 0] 26)).alloc (.cells #[.int .i64 0, .int .i64 0, .slice none 0 0] 26)).alloc (.cells #[.int .i64 0, .int .i64 0, .slice none 0 0] 26)).heap.size = w.heap.size + 4) := by show _ = _; simp
    generalize (((w.alloc (.cells #[.int .i64 R, .int .i64 C, .slice a (R * C) m] 26)).alloc (.cells #[.int .i64 0, .int .i64 0, .slice none 0 0] 26)).alloc (.cells #[.int .i64 0, .int .i64 0, .slice none 0 0] 26)).alloc (.cells #[.int .i64 0, .int .i64 0, .slice none 0 0] 26) = W0 at K0 R0 B0 S0 ⊢
    obtain ⟨p0, p1, p2, -, -, -⟩ := K0.out.all
    go_wp2_with fail
    refine (IM.out _ B0.out).mono ?_
    rintro e w1 ⟨rfl, hb⟩
    have K1 := Lib.hid (K0.out.step hb)
    have R1 := Lib.hid (R0.out.step hb)
    have B1 := Lib.hid (B0.out.trans (hb.mono (by have := S0.out; omega)))
    have s1 : w.heap.size + 4 ≤ w1.heap.size := by have := S0.out; have := hb.size; omega
    clear hb p0 p1 p2 K0 R0 B0 S0
    obtain ⟨p0, p1, p2, -, -, -⟩ := K1.out.all
    go_wp2_with fail
    refine (ID.out _).mono ?_
    rintro e w2 ⟨v, rfl, own, hb⟩
    dsimp only at own ⊢
    obtain ⟨qu, mu, rfl, -, -⟩ := own.form
    rw [idL_length] at own ⊢
    have K2 := Lib.hid ((K1.out.step hb).old (.cells #[.int .i64 R, .int .i64 R, .slice qu (R * R) mu] 26))
    have R2 := Lib.hid ((R1.out.step hb).old (.cells #[.int .i64 R, .int .i64 R, .slice qu (R * R) mu] 26))
    have U2 : Hid (Blk3 (w2.alloc (.cells #[.int .i64 R, .int .i64 R, .slice qu (R * R) mu] 26)) w2.heap.size 26 (.int .i64 R) (.int .i64 R) (.slice qu (R * R) mu)) := Blk3.at_ _ _ _ _ rfl
    have OU2 := Lib.hid ((own.keep ((Below.refl _ _).alloc (Nat.le_refl _) (.cells #[.int .i64 R, .int .i64 R, .slice qu (R * R) mu] 26))).le (show w.heap.size + 4 ≤ _ by omega))
    have B2 := Lib.hid ((B1.out.trans (hb.mono (by omega))).alloc (by have := hb.size; omega) (.cells #[.int .i64 R, .int .i64 R, .slice qu (R * R) mu] 26))
    have s2 : w.heap.size + 4 ≤ w2.heap.size := by have := hb.size; omega
    clear hb own K1 R1 B1 p0 p1 p2 IM ID s1
    go_upto_region 4 with fail
    obtain ⟨b6, hb6⟩ : ∃ b, w2.heap.size = b := ⟨_, rfl⟩
    rw [hb6] at U2 s2 ⊢
    have s3 : Hid ((w2.alloc (.cells #[.int .i64 R, .int .i64 R, .slice qu (R * R) mu] 26)).heap.size = b6 + 1) := by show _ = _; simp [hb6]
    generalize w2.alloc (.cells #[.int .i64 R, .int .i64 R, .slice qu (R * R) mu] 26) = W2 at K2 R2 U2 OU2 B2 s3 ⊢
    clear hb6
    obtain ⟨p0, p1, p2, -, -, -⟩ := K2.out.all
    go_wp2_with fail
    refine (IE.out _).mono ?_
    rintro e w3 ⟨v, rfl, own, hb⟩
    dsimp only at own ⊢
    obtain ⟨qv, mv, rfl, -, -⟩ := own.form
    rw [idL_length] at own ⊢
    have K3 := Lib.hid ((K2.out.step hb).old (.cells #[.int .i64 C, .int .i64 C, .slice qv (C * C) mv] 26))
    have R3 := Lib.hid ((R2.out.step hb).old (.cells #[.int .i64 C, .int .i64 C, .slice qv (C * C) mv] 26))
    have U3 := Lib.hid ((U2.out.step hb).old (.cells #[.int .i64 C, .int .i64 C, .slice qv (C * C) mv] 26))
    have V3 : Hid (Blk3 (w3.alloc (.cells #[.int .i64 C, .int .i64 C, .slice qv (C * C) mv] 26)) w3.heap.size 26 (.int .i64 C) (.int .i64 C) (.slice qv (C * C) mv)) := Blk3.at_ _ _ _ _ rfl
    have OU3 := Lib.hid ((OU2.out.keep hb).keep ((Below.refl _ _).alloc (Nat.le_refl _) (.cells #[.int .i64 C, .int .i64 C, .slice qv (C * C) mv] 26)))
    have OV3 := Lib.hid ((own.keep ((Below.refl _ _).alloc (Nat.le_refl _) (.cells #[.int .i64 C, .int .i64 C, .slice qv (C * C) mv] 26))).le (show w.heap.size + 4 ≤ _ by have := s3.out; omega))
    have B3 := Lib.hid ((B2.out.trans (hb.mono B2.out.size)).alloc (by have := hb.size; have := B2.out.size; omega) (.cells #[.int .i64 C, .int .i64 C, .slice qv (C * C) mv] 26))
    have s4 : Hid (w.heap.size + 4 ≤ (w3.alloc (.cells #[.int .i64 C, .int .i64 C, .slice qv (C * C) mv] 26)).heap.size) := by have := hb.size; have := s3.out; show _ ≤ _; simp; omega
    clear hb own K2 R2 U2 OU2 B2 p0 p1 p2 IE s2 s3
    go_upto_region 5 with fail
    generalize w3.heap.size = b8 at V3 ⊢
    generalize w3.alloc (.cells #[.int .i64 C, .int .i64 C, .slice qv (C * C) mv] 26) = W3 at K3 R3 U3 V3 OU3 OV3 B3 s4 ⊢
    refine wp_region_T (S := fun w' => Below W3.heap.size W3 w') (T := fun j => j == 5 || j == 6) (by kernel_rfl) (Below.refl _ _).drew (fun hH => ?_)
    refine wpAnyT_take (i := 0) (v := ?_) (by simp only [List.getElem?_toArray, List.getElem?_cons_zero]; rfl) (by kernel_rfl) (by kernel_rfl) (by kernel_rfl) (by kernel_rfl) (two_only 5 6 (by kernel_rfl) (by kernel_rfl)) (by exact fun _ _ _ h => h) (Or.inl ⟨by rfl, ?_⟩) hH ?_
    rotate_left
    · (intro wS hS; (try dsimp only at hS); obtain ⟨k1, k2, k3, k4, k5, k6, k7, k8, k9⟩ := mF K3.out U3.out V3.out hS; go_simp; try rfl)
    try simp only [Act.put, List.setIfInBounds_toArray, List.set_cons_zero, List.set_cons_succ]
    refine wpAnyT_take (i := 2) (v := ?_) (by simp only [List.getElem?_toArray, List.getElem?_cons_succ, List.getElem?_cons_zero]; rfl) (by kernel_rfl) (by kernel_rfl) (by kernel_rfl) (by kernel_rfl) (two_only 5 6 (by kernel_rfl) (by kernel_rfl)) (by exact fun _ _ _ h => h) (Or.inl ⟨by rfl, ?_⟩) hH ?_
    rotate_left
    · (intro wS hS; (try dsimp only at hS); obtain ⟨k1, k2, k3, k4, k5, k6, k7, k8, k9⟩ := mF K3.out U3.out V3.out hS; go_simp; try rfl)
    try simp only [Act.put, List.setIfInBounds_toArray, List.set_cons_zero, List.set_cons_succ]
    refine wpAnyT_take (i := 3) (v := ?_) (by simp only [List.getElem?_toArray, List.getElem?_cons_succ, List.getElem?_cons_zero]; rfl) (by kernel_rfl) (by kernel_rfl) (by kernel_rfl) (by kernel_rfl) (two_only 5 6 (by kernel_rfl) (by kernel_rfl)) (by exact fun _ _ _ h => h) (Or.inl ⟨by rfl, ?_⟩) hH ?_
    rotate_left
    · (intro wS hS; (try dsimp only at hS); obtain ⟨k1, k2, k3, k4, k5, k6, k7, k8, k9⟩ := mF K3.out U3.out V3.out hS; go_simp; try rfl)
    try simp only [Act.put, List.setIfInBounds_toArray, List.set_cons_zero, List.set_cons_succ]
    refine wpAnyT_ready (rs := [1]) (by kernel_rfl) (by simp) ?_
    refine AllReadyT.cons (by simp only [List.getElem?_toArray, List.getElem?_cons_succ, List.getElem?_cons_zero]; rfl) (fun K hK => ?_) AllReadyT.nil
    go_simp
    (with_reducible refine (CP.out _ (B3.out.trans (hH.mono B3.out.size))).mono ?_)
    rintro e v1 ⟨qa, ma, rfl, own, hb1⟩
    try dsimp only
    have OA := Lib.hid (own.le hH.size)
    refine hK.out _ _ (fun _ => hH.trans (hb1.mono hH.size)) ?_
    clear hK K own
    have hH := hH.trans (hb1.mono hH.size)
    clear hb1
    try simp only [Act.put, List.setIfInBounds_toArray, List.set_cons_zero, List.set_cons_succ]
    refine wpAnyT_take (i := 4) (v := ?_) (by simp only [List.getElem?_toArray, List.getElem?_cons_succ, List.getElem?_cons_zero]; rfl) (by kernel_rfl) (by kernel_rfl) (by kernel_rfl) (by kernel_rfl) (two_only 5 6 (by kernel_rfl) (by kernel_rfl)) (by exact fun _ _ _ h => h) (Or.inl ⟨by rfl, ?_⟩) hH ?_
    rotate_left
    · (intro wS hS; clear hS; go_simp; try rfl)
    try simp only [Act.put, List.setIfInBounds_toArray, List.set_cons_zero, List.set_cons_succ]
    have HB := Lib.hid hH
    refine wpAnyT_ready (rs := [5]) (by kernel_rfl) (by simp) ?_
    refine AllReadyT.cons (by simp only [List.getElem?_toArray, List.getElem?_cons_succ, List.getElem?_cons_zero]; rfl) (fun K hK => ?_) AllReadyT.nil
    go_simp
    try dsimp only
    refine hK.out _ _ (fun h => by cases h) ?_
    clear hK K
    try simp only [Act.put, List.setIfInBounds_toArray, List.set_cons_zero, List.set_cons_succ]
    refine wpAnyT_ready (rs := [6]) (by kernel_rfl) (by simp) ?_
    refine AllReadyT.cons (by simp only [List.getElem?_toArray, List.getElem?_cons_succ, List.getElem?_cons_zero]; rfl) (fun K hK => ?_) AllReadyT.nil
    go_simp
    try dsimp only
    refine hK.out _ _ (fun h => by cases h) ?_
    clear hK K
    try simp only [Act.put, List.setIfInBounds_toArray, List.set_cons_zero, List.set_cons_succ]
    refine wpAnyT_done (by kernel_rfl) ?_ _
    have CT : Hid (Below v1.heap.size v1 (v1.alloc (.cells #[.int .i64 R, .int .i64 C, .slice qa (R * C) ma, .int .i64 R, .int .i64 R, .slice qu (R * R) mu, .int .i64 C, .int .i64 C, .slice qv (C * C) mv] 57))) := (Below.refl _ _).alloc (Nat.le_refl _) _
    have WS0 : Hid (TsW R C v1.heap.size w.heap.size (xs, idL R R, idL C C) (v1.alloc (.cells #[.int .i64 R, .int .i64 C, .slice qa (R * C) ma, .int .i64 R, .int .i64 R, .slice qu (R * R) mu, .int .i64 C, .int .i64 C, .slice qv (C * C) mv] 57))) := by
      have q := F0.out.siz
      refine ⟨qa, qu, qv, ma, mu, mv, Blk9.at_ _ _ _ _ _ _ _ _ _ _ rfl, (OA.out.le (by have := s4.out; omega)).keep CT.out, ((OU3.out.keep HB.out).le (by omega)).keep CT.out, ?_, fun k hk e => ?_, q, by have := s4.out; have := HB.out.size; simp; omega⟩
      · rw [show turnL C C (idL C C) = idL C C from turn_id C]
        exact ((OV3.out.keep HB.out).le (by omega)).keep CT.out
      · have a1 := OA.out.lt_of hk
        have a2 := OU3.out.lt_of e
        omega
    have R4 := Lib.hid ((R3.out.step HB.out).old (.cells #[.int .i64 R, .int .i64 C, .slice qa (R * C) ma, .int .i64 R, .int .i64 R, .slice qu (R * R) mu, .int .i64 C, .int .i64 C, .slice qv (C * C) mv] 57))
    have K4 := Lib.hid ((K3.out.step HB.out).old (.cells #[.int .i64 R, .int .i64 C, .slice qa (R * C) ma, .int .i64 R, .int .i64 R, .slice qu (R * R) mu, .int .i64 C, .int .i64 C, .slice qv (C * C) mv] 57))
    have B4 := Lib.hid ((B3.out.trans (HB.out.mono B3.out.size)).alloc (by have := s4.out; have := HB.out.size; omega) (.cells #[.int .i64 R, .int .i64 C, .slice qa (R * C) ma, .int .i64 R, .int .i64 R, .slice qu (R * R) mu, .int .i64 C, .int .i64 C, .slice qv (C * C) mv] 57))
    have PX : Hid (w.heap.size + 4 ≤ v1.heap.size) := by show _ ≤ _; have := s4.out; have := HB.out.size; omega
    clear OA OU3 OV3 U3 V3 R3 K3 B3 HB CT s4 CP
    obtain ⟨px, hpx⟩ : ∃ b, v1.heap.size = b := ⟨_, rfl⟩
    rw [hpx] at WS0 PX ⊢
    generalize v1.alloc (.cells #[.int .i64 R, .int .i64 C, .slice qa (R * C) ma, .int .i64 R, .int .i64 R, .slice qu (R * R) mu, .int .i64 C, .int .i64 C, .slice qv (C * C) mv] 57) = W4 at WS0 R4 K4 B4 ⊢
    clear hpx
    go_upto_region 6 with fail
    obtain ⟨p0, p1, p2, -, -, -⟩ := K4.out.all
    go_wp2_with fail
    simp only [vm3.out]
    clear p0 p1 p2 vm3
    go_loopw [11, 12, 13, 14, 46] (fun _ _ _ _ v46 wq => ∃ (t : Nat) (s : SSt), v46 = .int .i64 t ∧ t ≤ N ∧ Fin3 R C M s ∧ SmI R C (mxC C s.1) t ∧ X = outS R C (N - t) t s ∧ TsW R C px w.heap.size s wq ∧ Res3 w.heap.size (.int .i64 0) (.int .i64 0) (.slice none 0 0) (.int .i64 0) (.int .i64 0) (.slice none 0 0) (.int .i64 0) (.int .i64 0) (.slice none 0 0) wq ∧ Below w.heap.size w wq) (fun _ _ _ _ v46 _ => N - (intOf v46).toNat)
    case atStart => exact ⟨0, (xs, idL R R, idL C C), rfl, Nat.zero_le _, F0.out, I0.out, X0.out, WS0.out, R4.out, B4.out⟩
    case round =>
      clear WS0 F0 X0 I0 R4 K4 B4
      obtain ⟨t, s, rfl, ht, hF, hI, hX, hW, hr, hb⟩ := hrel
      have FN := Lib.hid hF
      have IN := Lib.hid hI
      have EX := Lib.hid hX
      have WS := Lib.hid hW
      have RS := Lib.hid hr
      have BS := Lib.hid hb
      clear hF hI hX hW hr hb
      by_cases htN : t < N
      rotate_left
      · have V : Hid (X = some s) := by refine Lib.hid ?_; rw [EX.out, show N - t = 0 by omega]; rfl
        clear EX
        obtain ⟨qa, qu, qv, ma, mu, mv, q⟩ := WS.out
        obtain ⟨-, -, -, -, -, -, c6, c7, c8⟩ := q.k.all
        have QX := Lib.hid q
        have TU1 := Lib.hid (TU.out s qv mv _ q.fV q.siz FN.out.ok)
        have L3 := Lib.hid q.siz.l3
        clear q
        go_wp2_with fail
        refine TU1.out.mono ?_
        rintro e w8 ⟨v, rfl, own, hb⟩
        dsimp only at own ⊢
        obtain ⟨q9, m9, rfl, -, -⟩ := own.form
        rw [L3.out] at own ⊢
        have QY := Lib.hid (QX.out.step hb)
        have RS8 := Lib.hid ((RS.out.step hb).old (.cells #[.int .i64 C, .int .i64 C, .slice q9 (C * C) m9] 26))
        have VK8 : Hid (Blk3 (w8.alloc (.cells #[.int .i64 C, .int .i64 C, .slice q9 (C * C) m9] 26)) w8.heap.size 26 (.int .i64 C) (.int .i64 C) (.slice q9 (C * C) m9)) := Blk3.at_ _ _ _ _ rfl
        have QZ := Lib.hid (QY.out.step ((Below.refl _ _).alloc (Nat.le_refl _) (.cells #[.int .i64 C, .int .i64 C, .slice q9 (C * C) m9] 26)))
        have OV8 := Lib.hid (own.keep ((Below.refl _ _).alloc (Nat.le_refl _) (.cells #[.int .i64 C, .int .i64 C, .slice q9 (C * C) m9] 26)))
        have BS8 := Lib.hid ((BS.out.trans (hb.mono BS.out.size)).alloc (by have := BS.out.size; have := hb.size; omega) (.cells #[.int .i64 C, .int .i64 C, .slice q9 (C * C) m9] 26))
        have D1 : Hid (∀ k, (Value.slice qa (R * C) ma).ownBlock = some k → (Value.slice q9 (C * C) m9).ownBlock ≠ some k) := fun k hk e => by have h1 := QX.out.fA.lt_of hk; have h2 := own.lt_of e; omega
        have D2 : Hid (∀ k, (Value.slice qu (R * R) mu).ownBlock = some k → (Value.slice q9 (C * C) m9).ownBlock ≠ some k) := fun k hk e => by have h1 := QX.out.fU.lt_of hk; have h2 := own.lt_of e; omega
        have sz8 : Hid (w.heap.size + 3 < w8.heap.size) := by have := PX.out; have := QY.out.k.lt; show _ < _; omega
        have SW8 := BS.out.size
        have SW9 := hb.size
        clear hb own QX QY TU1 WS RS BS c6 c7 c8
        go_upto_region 15 with fail
        obtain ⟨b9, hb9⟩ : ∃ b, w8.heap.size = b := ⟨_, rfl⟩
        rw [hb9] at VK8 sz8 ⊢
        have OV8 := Lib.hid (OV8.out.le (show w.heap.size ≤ _ by omega))
        generalize w8.alloc (.cells #[.int .i64 C, .int .i64 C, .slice q9 (C * C) m9] 26) = W8 at RS8 VK8 QZ OV8 BS8 ⊢
        clear hb9 SW8 SW9
        refine wp_region_T (S := fun w' => Blk9 w' px 57 (.int .i64 R) (.int .i64 C) (.slice qa (R * C) ma) (.int .i64 R) (.int .i64 R) (.slice qu (R * R) mu) (.int .i64 C) (.int .i64 C) (.slice qv (C * C) mv) ∧ Blk3 w' b9 26 (.int .i64 C) (.int .i64 C) (.slice q9 (C * C) m9)) (T := fun _ => false) (by kernel_rfl) ⟨QZ.out.k, VK8.out.drew⟩ (fun hH => ?_)
        have OA := Lib.hid (QZ.out.fA.moveA (w' := W8.drew) fun _ _ => rfl)
        have OU := Lib.hid (QZ.out.fU.moveA (w' := W8.drew) fun _ _ => rfl)
        have OV := Lib.hid (OV8.out.moveA (w' := W8.drew) fun _ _ => rfl)
        have R6 : Hid (Res3 _ _ _ _ _ _ _ _ _ _ W8.drew) := Lib.hid ⟨RS8.out.a.drew, RS8.out.b.drew, RS8.out.c.drew⟩
        have B6 := Lib.hid BS8.out.drew
        have DD := Lib.hid QZ.out.df
        generalize W8.drew = v0 at hH R6 B6 OA OU OV ⊢
        clear RS8 BS8 OV8 VK8 QZ
        refine wpAnyT_take (i := 0) (v := ?_) (by simp only [List.getElem?_toArray, List.getElem?_cons_zero]; rfl) (by kernel_rfl) (by kernel_rfl) (by kernel_rfl) (by kernel_rfl) (fun _ hj => by cases hj) (by exact fun _ _ _ h => h) (Or.inl ⟨by rfl, ?_⟩) hH ?_
        rotate_left
        · (intro wS hS; clear hS; go_simp; try rfl)
        try simp only [Act.put, List.setIfInBounds_toArray, List.set_cons_zero, List.set_cons_succ]
        refine wpAnyT_take (i := 1) (v := ?_) (by simp only [List.getElem?_toArray, List.getElem?_cons_succ, List.getElem?_cons_zero]; rfl) (by kernel_rfl) (by kernel_rfl) (by kernel_rfl) (by kernel_rfl) (fun _ hj => by cases hj) (by exact fun _ _ _ h => h) (Or.inl ⟨by rfl, ?_⟩) hH ?_
        rotate_left
        · (intro wS hS; clear hS; go_simp; try rfl)
        try simp only [Act.put, List.setIfInBounds_toArray, List.set_cons_zero, List.set_cons_succ]
        refine wpAnyT_take (i := 2) (v := ?_) (by simp only [List.getElem?_toArray, List.getElem?_cons_succ, List.getElem?_cons_zero]; rfl) (by kernel_rfl) (by kernel_rfl) (by kernel_rfl) (by kernel_rfl) (fun _ hj => by cases hj) (by exact fun _ _ _ h => h) (Or.inl ⟨by rfl, ?_⟩) hH ?_
        rotate_left
        · (intro wS hS; clear hS; go_simp; try rfl)
        try simp only [Act.put, List.setIfInBounds_toArray, List.set_cons_zero, List.set_cons_succ]
        refine wpAnyT_take (i := 3) (v := ?_) (by simp only [List.getElem?_toArray, List.getElem?_cons_succ, List.getElem?_cons_zero]; rfl) (by kernel_rfl) (by kernel_rfl) (by kernel_rfl) (by kernel_rfl) (fun _ hj => by cases hj) (by exact fun _ _ _ h => h) (Or.inl ⟨by rfl, ?_⟩) hH ?_
        rotate_left
        · (intro wS hS; (try dsimp only at hS); obtain ⟨k1, k2, k3, k4, k5, k6, k7, k8, k9⟩ := hS.1.all; go_simp; try rfl)
        try simp only [Act.put, List.setIfInBounds_toArray, List.set_cons_zero, List.set_cons_succ]
        refine wpAnyT_take (i := 4) (v := ?_) (by simp only [List.getElem?_toArray, List.getElem?_cons_succ, List.getElem?_cons_zero]; rfl) (by kernel_rfl) (by kernel_rfl) (by kernel_rfl) (by kernel_rfl) (fun _ hj => by cases hj) (by exact fun _ _ _ h => h) (Or.inl ⟨by rfl, ?_⟩) hH ?_
        rotate_left
        · (intro wS hS; clear hS; go_simp; try rfl)
        try simp only [Act.put, List.setIfInBounds_toArray, List.set_cons_zero, List.set_cons_succ]
        refine wpAnyT_take (i := 5) (v := ?_) (by simp only [List.getElem?_toArray, List.getElem?_cons_succ, List.getElem?_cons_zero]; rfl) (by kernel_rfl) (by kernel_rfl) (by kernel_rfl) (by kernel_rfl) (fun _ hj => by cases hj) (by exact fun _ _ _ h => h) (Or.inl ⟨by rfl, ?_⟩) hH ?_
        rotate_left
        · (intro wS hS; clear hS; go_simp; try rfl)
        try simp only [Act.put, List.setIfInBounds_toArray, List.set_cons_zero, List.set_cons_succ]
        refine wpAnyT_take (i := 6) (v := ?_) (by simp only [List.getElem?_toArray, List.getElem?_cons_succ, List.getElem?_cons_zero]; rfl) (by kernel_rfl) (by kernel_rfl) (by kernel_rfl) (by kernel_rfl) (fun _ hj => by cases hj) (by exact fun _ _ _ h => h) (Or.inl ⟨by rfl, ?_⟩) hH ?_
        rotate_left
        · (intro wS hS; clear hS; go_simp; try rfl)
        try simp only [Act.put, List.setIfInBounds_toArray, List.set_cons_zero, List.set_cons_succ]
        refine wpAnyT_take (i := 7) (v := ?_) (by simp only [List.getElem?_toArray, List.getElem?_cons_succ, List.getElem?_cons_zero]; rfl) (by kernel_rfl) (by kernel_rfl) (by kernel_rfl) (by kernel_rfl) (fun _ hj => by cases hj) (by exact fun _ _ _ h => h) (Or.inl ⟨by rfl, ?_⟩) hH ?_
        rotate_left
        · (intro wS hS; (try dsimp only at hS); obtain ⟨k1, k2, k3, k4, k5, k6, k7, k8, k9⟩ := hS.1.all; go_simp; try rfl)
        try simp only [Act.put, List.setIfInBounds_toArray, List.set_cons_zero, List.set_cons_succ]
        refine wpAnyT_take (i := 8) (v := ?_) (by simp only [List.getElem?_toArray, List.getElem?_cons_succ, List.getElem?_cons_zero]; rfl) (by kernel_rfl) (by kernel_rfl) (by kernel_rfl) (by kernel_rfl) (fun _ hj => by cases hj) (by exact fun _ _ _ h => h) (Or.inl ⟨by rfl, ?_⟩) hH ?_
        rotate_left
        · (intro wS hS; (try dsimp only at hS); obtain ⟨k1, k2, k3, -, -, -⟩ := hS.2.all; go_simp; try rfl)
        try simp only [Act.put, List.setIfInBounds_toArray, List.set_cons_zero, List.set_cons_succ]
        refine wpAnyT_ready (rs := [9]) (by kernel_rfl) (by simp) ?_
        refine AllReadyT.cons (by simp only [List.getElem?_toArray, List.getElem?_cons_succ, List.getElem?_cons_zero]; rfl) (fun K hK => ?_) AllReadyT.nil
        obtain ⟨r0, r1, r2, f0, f1, f2⟩ := R6.out.a.all
        go_simp
        try dsimp only
        have hN := And.intro (show Blk9 (((v0.setCell ⟨w.heap.size + 1, 0, none⟩ (.int .i64 R)).setCell ⟨w.heap.size + 1, 1, none⟩ (.int .i64 C)).setCell ⟨w.heap.size + 1, 2, none⟩ (.slice qa (R * C) ma)) px 57 (.int .i64 R) (.int .i64 C) (.slice qa (R * C) ma) (.int .i64 R) (.int .i64 R) (.slice qu (R * R) mu) (.int .i64 C) (.int .i64 C) (.slice qv (C * C) mv) from hH.1.move (put3_far (w := v0) (k := px) (b := w.heap.size + 1) (o := 0) (x := .int .i64 R) (y := .int .i64 C) (v := .slice qa (R * C) ma) (by have := PX.out; omega))) (hH.2.farK (b := w.heap.size + 1) (u1 := .int .i64 R) (u2 := .int .i64 C) (u3 := .slice qa (R * C) ma) (by have := sz8.out; omega))
        have R7 := Lib.hid (R6.out.put1 (u1 := .int .i64 R) (u2 := .int .i64 C) (u3 := .slice qa (R * C) ma))
        have B7 := Lib.hid (belowK (b := w.heap.size + 1) (u1 := .int .i64 R) (u2 := .int .i64 C) (u3 := .slice qa (R * C) ma) B6.out (by omega))
        have PA := Lib.hid (OA.out.setA (b := w.heap.size + 1) (OA.out.ne_box R6.out.a) (.int .i64 R) (.int .i64 C) (.slice qa (R * C) ma))
        have PU := Lib.hid (OU.out.setA (b := w.heap.size + 1) (OU.out.ne_box R6.out.a) (.int .i64 R) (.int .i64 C) (.slice qa (R * C) ma))
        have PV := Lib.hid (OV.out.setA (b := w.heap.size + 1) (OV.out.ne_box R6.out.a) (.int .i64 R) (.int .i64 C) (.slice qa (R * C) ma))
        refine hK.out _ _ (fun _ => hN) ?_
        clear hK K r0 r1 r2 f0 f1 f2 hH R6 B6 OA OU OV
        try simp only [Act.put, List.setIfInBounds_toArray, List.set_cons_zero, List.set_cons_succ]
        try simp only [show w.heap.size + 1 + 1 = w.heap.size + 2 from rfl, show w.heap.size + 1 + 1 + 1 = w.heap.size + 3 from rfl]
        generalize (((v0.setCell ⟨w.heap.size + 1, 0, none⟩ (.int .i64 R)).setCell ⟨w.heap.size + 1, 1, none⟩ (.int .i64 C)).setCell ⟨w.heap.size + 1, 2, none⟩ (.slice qa (R * C) ma)) = v0 at hN R7 B7 PA PU PV ⊢
        have hH := hN
        have R6 := R7
        have B6 := B7
        have OA := PA
        have OU := PU
        have OV := PV
        clear hN R7 B7 PA PU PV
        refine wpAnyT_ready (rs := [10]) (by kernel_rfl) (by simp) ?_
        refine AllReadyT.cons (by simp only [List.getElem?_toArray, List.getElem?_cons_succ, List.getElem?_cons_zero]; rfl) (fun K hK => ?_) AllReadyT.nil
        obtain ⟨r0, r1, r2, f0, f1, f2⟩ := R6.out.b.all
        go_simp
        try dsimp only
        have hN := And.intro (show Blk9 (((v0.setCell ⟨w.heap.size + 2, 0, none⟩ (.int .i64 R)).setCell ⟨w.heap.size + 2, 1, none⟩ (.int .i64 R)).setCell ⟨w.heap.size + 2, 2, none⟩ (.slice qu (R * R) mu)) px 57 (.int .i64 R) (.int .i64 C) (.slice qa (R * C) ma) (.int .i64 R) (.int .i64 R) (.slice qu (R * R) mu) (.int .i64 C) (.int .i64 C) (.slice qv (C * C) mv) from hH.1.move (put3_far (w := v0) (k := px) (b := w.heap.size + 2) (o := 0) (x := .int .i64 R) (y := .int .i64 R) (v := .slice qu (R * R) mu) (by have := PX.out; omega))) (hH.2.farK (b := w.heap.size + 2) (u1 := .int .i64 R) (u2 := .int .i64 R) (u3 := .slice qu (R * R) mu) (by have := sz8.out; omega))
        have R7 := Lib.hid (R6.out.put2 (u1 := .int .i64 R) (u2 := .int .i64 R) (u3 := .slice qu (R * R) mu))
        have B7 := Lib.hid (belowK (b := w.heap.size + 2) (u1 := .int .i64 R) (u2 := .int .i64 R) (u3 := .slice qu (R * R) mu) B6.out (by omega))
        have PA := Lib.hid (OA.out.setA (b := w.heap.size + 2) (OA.out.ne_box R6.out.b) (.int .i64 R) (.int .i64 R) (.slice qu (R * R) mu))
        have PU := Lib.hid (OU.out.setA (b := w.heap.size + 2) (OU.out.ne_box R6.out.b) (.int .i64 R) (.int .i64 R) (.slice qu (R * R) mu))
        have PV := Lib.hid (OV.out.setA (b := w.heap.size + 2) (OV.out.ne_box R6.out.b) (.int .i64 R) (.int .i64 R) (.slice qu (R * R) mu))
        refine hK.out _ _ (fun _ => hN) ?_
        clear hK K r0 r1 r2 f0 f1 f2 hH R6 B6 OA OU OV
        try simp only [Act.put, List.setIfInBounds_toArray, List.set_cons_zero, List.set_cons_succ]
        try simp only [show w.heap.size + 1 + 1 = w.heap.size + 2 from rfl, show w.heap.size + 1 + 1 + 1 = w.heap.size + 3 from rfl]
        generalize (((v0.setCell ⟨w.heap.size + 2, 0, none⟩ (.int .i64 R)).setCell ⟨w.heap.size + 2, 1, none⟩ (.int .i64 R)).setCell ⟨w.heap.size + 2, 2, none⟩ (.slice qu (R * R) mu)) = v0 at hN R7 B7 PA PU PV ⊢
        have hH := hN
        have R6 := R7
        have B6 := B7
        have OA := PA
        have OU := PU
        have OV := PV
        clear hN R7 B7 PA PU PV
        refine wpAnyT_ready (rs := [11]) (by kernel_rfl) (by simp) ?_
        refine AllReadyT.cons (by simp only [List.getElem?_toArray, List.getElem?_cons_succ, List.getElem?_cons_zero]; rfl) (fun K hK => ?_) AllReadyT.nil
        obtain ⟨r0, r1, r2, f0, f1, f2⟩ := R6.out.c.all
        go_simp
        try dsimp only
        have hN := And.intro (show Blk9 (((v0.setCell ⟨w.heap.size + 3, 0, none⟩ (.int .i64 C)).setCell ⟨w.heap.size + 3, 1, none⟩ (.int .i64 C)).setCell ⟨w.heap.size + 3, 2, none⟩ (.slice q9 (C * C) m9)) px 57 (.int .i64 R) (.int .i64 C) (.slice qa (R * C) ma) (.int .i64 R) (.int .i64 R) (.slice qu (R * R) mu) (.int .i64 C) (.int .i64 C) (.slice qv (C * C) mv) from hH.1.move (put3_far (w := v0) (k := px) (b := w.heap.size + 3) (o := 0) (x := .int .i64 C) (y := .int .i64 C) (v := .slice q9 (C * C) m9) (by have := PX.out; omega))) (hH.2.farK (b := w.heap.size + 3) (u1 := .int .i64 C) (u2 := .int .i64 C) (u3 := .slice q9 (C * C) m9) (by have := sz8.out; omega))
        have R7 := Lib.hid (R6.out.put3 (u1 := .int .i64 C) (u2 := .int .i64 C) (u3 := .slice q9 (C * C) m9))
        have B7 := Lib.hid (belowK (b := w.heap.size + 3) (u1 := .int .i64 C) (u2 := .int .i64 C) (u3 := .slice q9 (C * C) m9) B6.out (by omega))
        have PA := Lib.hid (OA.out.setA (b := w.heap.size + 3) (OA.out.ne_box R6.out.c) (.int .i64 C) (.int .i64 C) (.slice q9 (C * C) m9))
        have PU := Lib.hid (OU.out.setA (b := w.heap.size + 3) (OU.out.ne_box R6.out.c) (.int .i64 C) (.int .i64 C) (.slice q9 (C * C) m9))
        have PV := Lib.hid (OV.out.setA (b := w.heap.size + 3) (OV.out.ne_box R6.out.c) (.int .i64 C) (.int .i64 C) (.slice q9 (C * C) m9))
        refine hK.out _ _ (fun _ => hN) ?_
        clear hK K r0 r1 r2 f0 f1 f2 hH R6 B6 OA OU OV
        try simp only [Act.put, List.setIfInBounds_toArray, List.set_cons_zero, List.set_cons_succ]
        try simp only [show w.heap.size + 1 + 1 = w.heap.size + 2 from rfl, show w.heap.size + 1 + 1 + 1 = w.heap.size + 3 from rfl]
        generalize (((v0.setCell ⟨w.heap.size + 3, 0, none⟩ (.int .i64 C)).setCell ⟨w.heap.size + 3, 1, none⟩ (.int .i64 C)).setCell ⟨w.heap.size + 3, 2, none⟩ (.slice q9 (C * C) m9)) = v0 at hN R7 B7 PA PU PV ⊢
        have hH := hN
        have R6 := R7
        have B6 := B7
        have OA := PA
        have OU := PU
        have OV := PV
        clear hN R7 B7 PA PU PV
        refine wpAnyT_ready (rs := [12]) (by kernel_rfl) (by simp) ?_
        refine AllReadyT.cons (by simp only [List.getElem?_toArray, List.getElem?_cons_succ, List.getElem?_cons_zero]; rfl) (fun K hK => ?_) AllReadyT.nil
        go_simp
        try dsimp only
        refine hK.out _ _ (fun _ => hH) ?_
        clear hK K
        try simp only [Act.put, List.setIfInBounds_toArray, List.set_cons_zero, List.set_cons_succ]
        refine wpAnyT_done (by kernel_rfl) ?_ _
        go_wp2_with fail
        obtain ⟨E0, E1, E2⟩ := R6.out.all
        obtain ⟨E3, E4, E5⟩ := E1
        obtain ⟨E6, E7, E8⟩ := E2
        obtain ⟨E0, E1, E2⟩ := E0
        rw [V.out]
        exact bodyPost_ret (v := .tuple #[.agg #[.int .i64 R, .int .i64 C, .slice qa (R * C) ma], .agg #[.int .i64 R, .int .i64 R, .slice qu (R * R) mu], .agg #[.int .i64 C, .int .i64 C, .slice q9 (C * C) m9], .bool true]) (by simp [results, Try.results17, go_sem, E0, E1, E2, E3, E4, E5, E6, E7, E8]) rfl ⟨.slice qa (R * C) ma, .slice qu (R * R) mu, .slice q9 (C * C) m9, rfl, OA.out, OU.out, OV.out, DD.out, D1.out, D2.out, B6.out⟩
      have htR : t < R := by have := NR.out; omega
      have htC : t < C := by have := NR.out; omega
      obtain ⟨m0, hm⟩ : ∃ m0, N - t = m0 + 1 := ⟨N - t - 1, by omega⟩
      have EX : Hid (X = outS R C (m0 + 1) t s) := by rw [← hm]; exact EX.out
      have EM : Hid (N - (t + 1) = m0) := by show _ = _; omega
      clear hm
      obtain ⟨qa, qu, qv, ma, mu, mv, q⟩ := WS.out
      obtain ⟨c0, c1, c2, -⟩ := q.k.all
      have LC1 := Lib.hid (LC.out s t qa ma wr q.fA q.siz FN.out.ok htR htC)
      clear q
      rcases plS_says R C t s htR htC with ⟨hno, -⟩ | ⟨i, j, hP⟩
      · obtain ⟨e1, e2, e3⟩ := lc_none hno
        rw [e1, e2, e3] at LC1
        have V : Hid (X = some s) := by
          refine Lib.hid ?_
          rw [EX.out]
          have hf : fu0 R C t s = 0 + 1 := by unfold fu0; rw [hno]
          exact outS_false (by rw [hf]; exact loopS_none hno)
        clear EX e1 e2 e3 hno
        go_wp2_with fail
        refine LC1.out.mono ?_
        rintro e w6 ⟨rfl, hb⟩
        have WS6 := Lib.hid (WS.out.step hb)
        have RS6 := Lib.hid (RS.out.step hb)
        have BS6 := Lib.hid (BS.out.trans (hb.mono BS.out.size))
        clear hb LC1 WS RS BS c0 c1 c2
        have WS := WS6
        have RS := RS6
        have BS := BS6
        clear WS6 RS6 BS6
        obtain ⟨qa, qu, qv, ma, mu, mv, q⟩ := WS.out
        obtain ⟨-, -, -, -, -, -, c6, c7, c8⟩ := q.k.all
        have QX := Lib.hid q
        have TU1 := Lib.hid (TU.out s qv mv _ q.fV q.siz FN.out.ok)
        have L3 := Lib.hid q.siz.l3
        clear q
        go_wp2_with fail
        refine TU1.out.mono ?_
        rintro e w8 ⟨v, rfl, own, hb⟩
        dsimp only at own ⊢
        obtain ⟨q9, m9, rfl, -, -⟩ := own.form
        rw [L3.out] at own ⊢
        have QY := Lib.hid (QX.out.step hb)
        have RS8 := Lib.hid ((RS.out.step hb).old (.cells #[.int .i64 C, .int .i64 C, .slice q9 (C * C) m9] 26))
        have VK8 : Hid (Blk3 (w8.alloc (.cells #[.int .i64 C, .int .i64 C, .slice q9 (C * C) m9] 26)) w8.heap.size 26 (.int .i64 C) (.int .i64 C) (.slice q9 (C * C) m9)) := Blk3.at_ _ _ _ _ rfl
        have QZ := Lib.hid (QY.out.step ((Below.refl _ _).alloc (Nat.le_refl _) (.cells #[.int .i64 C, .int .i64 C, .slice q9 (C * C) m9] 26)))
        have OV8 := Lib.hid (own.keep ((Below.refl _ _).alloc (Nat.le_refl _) (.cells #[.int .i64 C, .int .i64 C, .slice q9 (C * C) m9] 26)))
        have BS8 := Lib.hid ((BS.out.trans (hb.mono BS.out.size)).alloc (by have := BS.out.size; have := hb.size; omega) (.cells #[.int .i64 C, .int .i64 C, .slice q9 (C * C) m9] 26))
        have D1 : Hid (∀ k, (Value.slice qa (R * C) ma).ownBlock = some k → (Value.slice q9 (C * C) m9).ownBlock ≠ some k) := fun k hk e => by have h1 := QX.out.fA.lt_of hk; have h2 := own.lt_of e; omega
        have D2 : Hid (∀ k, (Value.slice qu (R * R) mu).ownBlock = some k → (Value.slice q9 (C * C) m9).ownBlock ≠ some k) := fun k hk e => by have h1 := QX.out.fU.lt_of hk; have h2 := own.lt_of e; omega
        have sz8 : Hid (w.heap.size + 3 < w8.heap.size) := by have := PX.out; have := QY.out.k.lt; show _ < _; omega
        have SW8 := BS.out.size
        have SW9 := hb.size
        clear hb own QX QY TU1 WS RS BS c6 c7 c8
        go_upto_region 15 with fail
        obtain ⟨b9, hb9⟩ : ∃ b, w8.heap.size = b := ⟨_, rfl⟩
        rw [hb9] at VK8 sz8 ⊢
        have OV8 := Lib.hid (OV8.out.le (show w.heap.size ≤ _ by omega))
        generalize w8.alloc (.cells #[.int .i64 C, .int .i64 C, .slice q9 (C * C) m9] 26) = W8 at RS8 VK8 QZ OV8 BS8 ⊢
        clear hb9 SW8 SW9
        refine wp_region_T (S := fun w' => Blk9 w' px 57 (.int .i64 R) (.int .i64 C) (.slice qa (R * C) ma) (.int .i64 R) (.int .i64 R) (.slice qu (R * R) mu) (.int .i64 C) (.int .i64 C) (.slice qv (C * C) mv) ∧ Blk3 w' b9 26 (.int .i64 C) (.int .i64 C) (.slice q9 (C * C) m9)) (T := fun _ => false) (by kernel_rfl) ⟨QZ.out.k, VK8.out.drew⟩ (fun hH => ?_)
        have OA := Lib.hid (QZ.out.fA.moveA (w' := W8.drew) fun _ _ => rfl)
        have OU := Lib.hid (QZ.out.fU.moveA (w' := W8.drew) fun _ _ => rfl)
        have OV := Lib.hid (OV8.out.moveA (w' := W8.drew) fun _ _ => rfl)
        have R6 : Hid (Res3 _ _ _ _ _ _ _ _ _ _ W8.drew) := Lib.hid ⟨RS8.out.a.drew, RS8.out.b.drew, RS8.out.c.drew⟩
        have B6 := Lib.hid BS8.out.drew
        have DD := Lib.hid QZ.out.df
        generalize W8.drew = v0 at hH R6 B6 OA OU OV ⊢
        clear RS8 BS8 OV8 VK8 QZ
        refine wpAnyT_take (i := 0) (v := ?_) (by simp only [List.getElem?_toArray, List.getElem?_cons_zero]; rfl) (by kernel_rfl) (by kernel_rfl) (by kernel_rfl) (by kernel_rfl) (fun _ hj => by cases hj) (by exact fun _ _ _ h => h) (Or.inl ⟨by rfl, ?_⟩) hH ?_
        rotate_left
        · (intro wS hS; clear hS; go_simp; try rfl)
        try simp only [Act.put, List.setIfInBounds_toArray, List.set_cons_zero, List.set_cons_succ]
        refine wpAnyT_take (i := 1) (v := ?_) (by simp only [List.getElem?_toArray, List.getElem?_cons_succ, List.getElem?_cons_zero]; rfl) (by kernel_rfl) (by kernel_rfl) (by kernel_rfl) (by kernel_rfl) (fun _ hj => by cases hj) (by exact fun _ _ _ h => h) (Or.inl ⟨by rfl, ?_⟩) hH ?_
        rotate_left
        · (intro wS hS; clear hS; go_simp; try rfl)
        try simp only [Act.put, List.setIfInBounds_toArray, List.set_cons_zero, List.set_cons_succ]
        refine wpAnyT_take (i := 2) (v := ?_) (by simp only [List.getElem?_toArray, List.getElem?_cons_succ, List.getElem?_cons_zero]; rfl) (by kernel_rfl) (by kernel_rfl) (by kernel_rfl) (by kernel_rfl) (fun _ hj => by cases hj) (by exact fun _ _ _ h => h) (Or.inl ⟨by rfl, ?_⟩) hH ?_
        rotate_left
        · (intro wS hS; clear hS; go_simp; try rfl)
        try simp only [Act.put, List.setIfInBounds_toArray, List.set_cons_zero, List.set_cons_succ]
        refine wpAnyT_take (i := 3) (v := ?_) (by simp only [List.getElem?_toArray, List.getElem?_cons_succ, List.getElem?_cons_zero]; rfl) (by kernel_rfl) (by kernel_rfl) (by kernel_rfl) (by kernel_rfl) (fun _ hj => by cases hj) (by exact fun _ _ _ h => h) (Or.inl ⟨by rfl, ?_⟩) hH ?_
        rotate_left
        · (intro wS hS; (try dsimp only at hS); obtain ⟨k1, k2, k3, k4, k5, k6, k7, k8, k9⟩ := hS.1.all; go_simp; try rfl)
        try simp only [Act.put, List.setIfInBounds_toArray, List.set_cons_zero, List.set_cons_succ]
        refine wpAnyT_take (i := 4) (v := ?_) (by simp only [List.getElem?_toArray, List.getElem?_cons_succ, List.getElem?_cons_zero]; rfl) (by kernel_rfl) (by kernel_rfl) (by kernel_rfl) (by kernel_rfl) (fun _ hj => by cases hj) (by exact fun _ _ _ h => h) (Or.inl ⟨by rfl, ?_⟩) hH ?_
        rotate_left
        · (intro wS hS; clear hS; go_simp; try rfl)
        try simp only [Act.put, List.setIfInBounds_toArray, List.set_cons_zero, List.set_cons_succ]
        refine wpAnyT_take (i := 5) (v := ?_) (by simp only [List.getElem?_toArray, List.getElem?_cons_succ, List.getElem?_cons_zero]; rfl) (by kernel_rfl) (by kernel_rfl) (by kernel_rfl) (by kernel_rfl) (fun _ hj => by cases hj) (by exact fun _ _ _ h => h) (Or.inl ⟨by rfl, ?_⟩) hH ?_
        rotate_left
        · (intro wS hS; clear hS; go_simp; try rfl)
        try simp only [Act.put, List.setIfInBounds_toArray, List.set_cons_zero, List.set_cons_succ]
        refine wpAnyT_take (i := 6) (v := ?_) (by simp only [List.getElem?_toArray, List.getElem?_cons_succ, List.getElem?_cons_zero]; rfl) (by kernel_rfl) (by kernel_rfl) (by kernel_rfl) (by kernel_rfl) (fun _ hj => by cases hj) (by exact fun _ _ _ h => h) (Or.inl ⟨by rfl, ?_⟩) hH ?_
        rotate_left
        · (intro wS hS; clear hS; go_simp; try rfl)
        try simp only [Act.put, List.setIfInBounds_toArray, List.set_cons_zero, List.set_cons_succ]
        refine wpAnyT_take (i := 7) (v := ?_) (by simp only [List.getElem?_toArray, List.getElem?_cons_succ, List.getElem?_cons_zero]; rfl) (by kernel_rfl) (by kernel_rfl) (by kernel_rfl) (by kernel_rfl) (fun _ hj => by cases hj) (by exact fun _ _ _ h => h) (Or.inl ⟨by rfl, ?_⟩) hH ?_
        rotate_left
        · (intro wS hS; (try dsimp only at hS); obtain ⟨k1, k2, k3, k4, k5, k6, k7, k8, k9⟩ := hS.1.all; go_simp; try rfl)
        try simp only [Act.put, List.setIfInBounds_toArray, List.set_cons_zero, List.set_cons_succ]
        refine wpAnyT_take (i := 8) (v := ?_) (by simp only [List.getElem?_toArray, List.getElem?_cons_succ, List.getElem?_cons_zero]; rfl) (by kernel_rfl) (by kernel_rfl) (by kernel_rfl) (by kernel_rfl) (fun _ hj => by cases hj) (by exact fun _ _ _ h => h) (Or.inl ⟨by rfl, ?_⟩) hH ?_
        rotate_left
        · (intro wS hS; (try dsimp only at hS); obtain ⟨k1, k2, k3, -, -, -⟩ := hS.2.all; go_simp; try rfl)
        try simp only [Act.put, List.setIfInBounds_toArray, List.set_cons_zero, List.set_cons_succ]
        refine wpAnyT_ready (rs := [9]) (by kernel_rfl) (by simp) ?_
        refine AllReadyT.cons (by simp only [List.getElem?_toArray, List.getElem?_cons_succ, List.getElem?_cons_zero]; rfl) (fun K hK => ?_) AllReadyT.nil
        obtain ⟨r0, r1, r2, f0, f1, f2⟩ := R6.out.a.all
        go_simp
        try dsimp only
        have hN := And.intro (show Blk9 (((v0.setCell ⟨w.heap.size + 1, 0, none⟩ (.int .i64 R)).setCell ⟨w.heap.size + 1, 1, none⟩ (.int .i64 C)).setCell ⟨w.heap.size + 1, 2, none⟩ (.slice qa (R * C) ma)) px 57 (.int .i64 R) (.int .i64 C) (.slice qa (R * C) ma) (.int .i64 R) (.int .i64 R) (.slice qu (R * R) mu) (.int .i64 C) (.int .i64 C) (.slice qv (C * C) mv) from hH.1.move (put3_far (w := v0) (k := px) (b := w.heap.size + 1) (o := 0) (x := .int .i64 R) (y := .int .i64 C) (v := .slice qa (R * C) ma) (by have := PX.out; omega))) (hH.2.farK (b := w.heap.size + 1) (u1 := .int .i64 R) (u2 := .int .i64 C) (u3 := .slice qa (R * C) ma) (by have := sz8.out; omega))
        have R7 := Lib.hid (R6.out.put1 (u1 := .int .i64 R) (u2 := .int .i64 C) (u3 := .slice qa (R * C) ma))
        have B7 := Lib.hid (belowK (b := w.heap.size + 1) (u1 := .int .i64 R) (u2 := .int .i64 C) (u3 := .slice qa (R * C) ma) B6.out (by omega))
        have PA := Lib.hid (OA.out.setA (b := w.heap.size + 1) (OA.out.ne_box R6.out.a) (.int .i64 R) (.int .i64 C) (.slice qa (R * C) ma))
        have PU := Lib.hid (OU.out.setA (b := w.heap.size + 1) (OU.out.ne_box R6.out.a) (.int .i64 R) (.int .i64 C) (.slice qa (R * C) ma))
        have PV := Lib.hid (OV.out.setA (b := w.heap.size + 1) (OV.out.ne_box R6.out.a) (.int .i64 R) (.int .i64 C) (.slice qa (R * C) ma))
        refine hK.out _ _ (fun _ => hN) ?_
        clear hK K r0 r1 r2 f0 f1 f2 hH R6 B6 OA OU OV
        try simp only [Act.put, List.setIfInBounds_toArray, List.set_cons_zero, List.set_cons_succ]
        try simp only [show w.heap.size + 1 + 1 = w.heap.size + 2 from rfl, show w.heap.size + 1 + 1 + 1 = w.heap.size + 3 from rfl]
        generalize (((v0.setCell ⟨w.heap.size + 1, 0, none⟩ (.int .i64 R)).setCell ⟨w.heap.size + 1, 1, none⟩ (.int .i64 C)).setCell ⟨w.heap.size + 1, 2, none⟩ (.slice qa (R * C) ma)) = v0 at hN R7 B7 PA PU PV ⊢
        have hH := hN
        have R6 := R7
        have B6 := B7
        have OA := PA
        have OU := PU
        have OV := PV
        clear hN R7 B7 PA PU PV
        refine wpAnyT_ready (rs := [10]) (by kernel_rfl) (by simp) ?_
        refine AllReadyT.cons (by simp only [List.getElem?_toArray, List.getElem?_cons_succ, List.getElem?_cons_zero]; rfl) (fun K hK => ?_) AllReadyT.nil
        obtain ⟨r0, r1, r2, f0, f1, f2⟩ := R6.out.b.all
        go_simp
        try dsimp only
        have hN := And.intro (show Blk9 (((v0.setCell ⟨w.heap.size + 2, 0, none⟩ (.int .i64 R)).setCell ⟨w.heap.size + 2, 1, none⟩ (.int .i64 R)).setCell ⟨w.heap.size + 2, 2, none⟩ (.slice qu (R * R) mu)) px 57 (.int .i64 R) (.int .i64 C) (.slice qa (R * C) ma) (.int .i64 R) (.int .i64 R) (.slice qu (R * R) mu) (.int .i64 C) (.int .i64 C) (.slice qv (C * C) mv) from hH.1.move (put3_far (w := v0) (k := px) (b := w.heap.size + 2) (o := 0) (x := .int .i64 R) (y := .int .i64 R) (v := .slice qu (R * R) mu) (by have := PX.out; omega))) (hH.2.farK (b := w.heap.size + 2) (u1 := .int .i64 R) (u2 := .int .i64 R) (u3 := .slice qu (R * R) mu) (by have := sz8.out; omega))
        have R7 := Lib.hid (R6.out.put2 (u1 := .int .i64 R) (u2 := .int .i64 R) (u3 := .slice qu (R * R) mu))
        have B7 := Lib.hid (belowK (b := w.heap.size + 2) (u1 := .int .i64 R) (u2 := .int .i64 R) (u3 := .slice qu (R * R) mu) B6.out (by omega))
        have PA := Lib.hid (OA.out.setA (b := w.heap.size + 2) (OA.out.ne_box R6.out.b) (.int .i64 R) (.int .i64 R) (.slice qu (R * R) mu))
        have PU := Lib.hid (OU.out.setA (b := w.heap.size + 2) (OU.out.ne_box R6.out.b) (.int .i64 R) (.int .i64 R) (.slice qu (R * R) mu))
        have PV := Lib.hid (OV.out.setA (b := w.heap.size + 2) (OV.out.ne_box R6.out.b) (.int .i64 R) (.int .i64 R) (.slice qu (R * R) mu))
        refine hK.out _ _ (fun _ => hN) ?_
        clear hK K r0 r1 r2 f0 f1 f2 hH R6 B6 OA OU OV
        try simp only [Act.put, List.setIfInBounds_toArray, List.set_cons_zero, List.set_cons_succ]
        try simp only [show w.heap.size + 1 + 1 = w.heap.size + 2 from rfl, show w.heap.size + 1 + 1 + 1 = w.heap.size + 3 from rfl]
        generalize (((v0.setCell ⟨w.heap.size + 2, 0, none⟩ (.int .i64 R)).setCell ⟨w.heap.size + 2, 1, none⟩ (.int .i64 R)).setCell ⟨w.heap.size + 2, 2, none⟩ (.slice qu (R * R) mu)) = v0 at hN R7 B7 PA PU PV ⊢
        have hH := hN
        have R6 := R7
        have B6 := B7
        have OA := PA
        have OU := PU
        have OV := PV
        clear hN R7 B7 PA PU PV
        refine wpAnyT_ready (rs := [11]) (by kernel_rfl) (by simp) ?_
        refine AllReadyT.cons (by simp only [List.getElem?_toArray, List.getElem?_cons_succ, List.getElem?_cons_zero]; rfl) (fun K hK => ?_) AllReadyT.nil
        obtain ⟨r0, r1, r2, f0, f1, f2⟩ := R6.out.c.all
        go_simp
        try dsimp only
        have hN := And.intro (show Blk9 (((v0.setCell ⟨w.heap.size + 3, 0, none⟩ (.int .i64 C)).setCell ⟨w.heap.size + 3, 1, none⟩ (.int .i64 C)).setCell ⟨w.heap.size + 3, 2, none⟩ (.slice q9 (C * C) m9)) px 57 (.int .i64 R) (.int .i64 C) (.slice qa (R * C) ma) (.int .i64 R) (.int .i64 R) (.slice qu (R * R) mu) (.int .i64 C) (.int .i64 C) (.slice qv (C * C) mv) from hH.1.move (put3_far (w := v0) (k := px) (b := w.heap.size + 3) (o := 0) (x := .int .i64 C) (y := .int .i64 C) (v := .slice q9 (C * C) m9) (by have := PX.out; omega))) (hH.2.farK (b := w.heap.size + 3) (u1 := .int .i64 C) (u2 := .int .i64 C) (u3 := .slice q9 (C * C) m9) (by have := sz8.out; omega))
        have R7 := Lib.hid (R6.out.put3 (u1 := .int .i64 C) (u2 := .int .i64 C) (u3 := .slice q9 (C * C) m9))
        have B7 := Lib.hid (belowK (b := w.heap.size + 3) (u1 := .int .i64 C) (u2 := .int .i64 C) (u3 := .slice q9 (C * C) m9) B6.out (by omega))
        have PA := Lib.hid (OA.out.setA (b := w.heap.size + 3) (OA.out.ne_box R6.out.c) (.int .i64 C) (.int .i64 C) (.slice q9 (C * C) m9))
        have PU := Lib.hid (OU.out.setA (b := w.heap.size + 3) (OU.out.ne_box R6.out.c) (.int .i64 C) (.int .i64 C) (.slice q9 (C * C) m9))
        have PV := Lib.hid (OV.out.setA (b := w.heap.size + 3) (OV.out.ne_box R6.out.c) (.int .i64 C) (.int .i64 C) (.slice q9 (C * C) m9))
        refine hK.out _ _ (fun _ => hN) ?_
        clear hK K r0 r1 r2 f0 f1 f2 hH R6 B6 OA OU OV
        try simp only [Act.put, List.setIfInBounds_toArray, List.set_cons_zero, List.set_cons_succ]
        try simp only [show w.heap.size + 1 + 1 = w.heap.size + 2 from rfl, show w.heap.size + 1 + 1 + 1 = w.heap.size + 3 from rfl]
        generalize (((v0.setCell ⟨w.heap.size + 3, 0, none⟩ (.int .i64 C)).setCell ⟨w.heap.size + 3, 1, none⟩ (.int .i64 C)).setCell ⟨w.heap.size + 3, 2, none⟩ (.slice q9 (C * C) m9)) = v0 at hN R7 B7 PA PU PV ⊢
        have hH := hN
        have R6 := R7
        have B6 := B7
        have OA := PA
        have OU := PU
        have OV := PV
        clear hN R7 B7 PA PU PV
        refine wpAnyT_ready (rs := [12]) (by kernel_rfl) (by simp) ?_
        refine AllReadyT.cons (by simp only [List.getElem?_toArray, List.getElem?_cons_succ, List.getElem?_cons_zero]; rfl) (fun K hK => ?_) AllReadyT.nil
        go_simp
        try dsimp only
        refine hK.out _ _ (fun _ => hH) ?_
        clear hK K
        try simp only [Act.put, List.setIfInBounds_toArray, List.set_cons_zero, List.set_cons_succ]
        refine wpAnyT_done (by kernel_rfl) ?_ _
        go_wp2_with fail
        obtain ⟨E0, E1, E2⟩ := R6.out.all
        obtain ⟨E3, E4, E5⟩ := E1
        obtain ⟨E6, E7, E8⟩ := E2
        obtain ⟨E0, E1, E2⟩ := E0
        rw [V.out]
        exact bodyPost_ret (v := .tuple #[.agg #[.int .i64 R, .int .i64 C, .slice qa (R * C) ma], .agg #[.int .i64 R, .int .i64 R, .slice qu (R * R) mu], .agg #[.int .i64 C, .int .i64 C, .slice q9 (C * C) m9], .bool true]) (by simp [results, Try.results17, go_sem, E0, E1, E2, E3, E4, E5, E6, E7, E8]) rfl ⟨.slice qa (R * C) ma, .slice qu (R * R) mu, .slice q9 (C * C) m9, rfl, OA.out, OU.out, OV.out, DD.out, D1.out, D2.out, B6.out⟩
      obtain ⟨e1, e2, e3⟩ := lc_some hP.eq
      rw [e1, e2, e3] at LC1
      have MP1 := Lib.hid (fun w' q1 => MP.out M px t s w' q1 htR htC FN.out IN.out (by rw [hP.eq]; simp))
      obtain ⟨LF, hLF⟩ : ∃ LF, loopS R C t (fu0 R C t s) s = LF := ⟨_, rfl⟩
      have XN : Hid (LF = none → X = none) := fun h => by rw [EX.out]; exact outS_none (by rw [hLF, h])
      have XT : Hid (∀ u, LF = some (u, true) → X = outS R C m0 (t + 1) (ng3 R C t u)) := fun u h => by rw [EX.out]; exact outS_true (by rw [hLF, h])
      have NS : Hid (∀ u, LF = some (u, true) → Fin3 R C M (ng3 R C t u) ∧ SmI R C (mxC C (ng3 R C t u).1) (t + 1)) := fun u h => by
        obtain ⟨g1, g2, -, g4⟩ := loopS_says htR htC _ s FN.out IN.out (hLF.trans h)
        obtain ⟨g5, g6, g7, g8⟩ := g4 rfl
        exact ng3_says g1 g2 htR htC g5 g6 g7 g8
      rw [hLF] at MP1
      clear EX e1 e2 e3 hP hLF
      go_wp2_with fail
      refine LC1.out.mono ?_
      rintro e w6 ⟨rfl, hb⟩
      have WS6 := Lib.hid (WS.out.step hb)
      have RS6 := Lib.hid (RS.out.step hb)
      have BS6 := Lib.hid (BS.out.trans (hb.mono BS.out.size))
      clear hb LC1 WS RS BS c0 c1 c2
      go_wp2_with fail
      refine (MP1.out _ WS6.out).mono ?_
      rintro e w7 ⟨hf, hx⟩
      have RS7 := Lib.hid (RS6.out.frs hf (fun k hk => by have := PX.out; omega))
      have BS7 := Lib.hid (BS6.out.trans (hf.below (B := w.heap.size) (fun k hk => by have := PX.out; omega) BS6.out.size))
      clear hf MP1 WS6 RS6 BS6
      rcases hx with ⟨hn, rfl⟩ | ⟨u, hu, rfl, hw⟩
      · have V := Lib.hid (XN.out hn)
        clear hn
        obtain ⟨r0, r1, r2, f0, f1, f2⟩ := RS7.out.a.all
        obtain ⟨e0, e1, e2, l0, l1, l2⟩ := RS7.out.b.all
        obtain ⟨g0, g1, g2, m0, m1, m2⟩ := RS7.out.c.all
        go_wp2_with fail
        obtain ⟨E0, E1, E2⟩ := RS7.out.zero.all
        obtain ⟨E3, E4, E5⟩ := E1
        obtain ⟨E6, E7, E8⟩ := E2
        obtain ⟨E0, E1, E2⟩ := E0
        refine bodyPost_ret (v := .tuple #[.agg #[.int .i64 0, .int .i64 0, .slice none 0 0], .agg #[.int .i64 0, .int .i64 0, .slice none 0 0], .agg #[.int .i64 0, .int .i64 0, .slice none 0 0], .bool false]) (by simp [results, Try.results17, go_sem, E0, E1, E2, E3, E4, E5, E6, E7, E8]) rfl ?_
        rw [V.out]
        exact ⟨_, _, _, rfl, .inl ⟨rfl, rfl⟩, .inl ⟨rfl, rfl⟩, .inl ⟨rfl, rfl⟩, fun k hk => by simp [Value.ownBlock] at hk, fun k hk => by simp [Value.ownBlock] at hk, fun k hk => by simp [Value.ownBlock] at hk, belowK (belowK (belowK BS7.out (by omega)) (by omega)) (by omega)⟩
      · have W7 := Lib.hid hw
        obtain ⟨g1, g2⟩ := NS.out u hu
        have F2 := Lib.hid g1
        have I2 := Lib.hid g2
        have X2 := Lib.hid (XT.out u hu)
        clear g1 g2 hw hu XN XT NS
        go_wp2_with fail
        go_roundw
        case rel => exact ⟨t + 1, ng3 R C t u, by go_num, by omega, F2.out, I2.out, by rw [EM.out]; exact X2.out, W7.out, RS7.out, BS7.out⟩
        case measure => simp [intOf]; omega
end Go.Proofs.Ytpelnfenfeoeeaa
end

section
/-
  Chapter 13, in the program: FactorsOf.
-/
namespace Go.Proofs.Ytpelnfenfeoeeaa
set_option maxRecDepth 100000
open Go.RowKit
theorem zeroI (w : World) : (zeroValue 3).run Try.prog w = .ok (.int .i64 0) w := by kernel_rfl
theorem iDelF (z : Int) (w : World) : Calls Try.prog 69 #[.int .i64 z] w fun e w' => e = .returned (.bool (decide (z = 0))) ∧ w' = w := by
  by_cases h : z = 0
  · have e1 : (z == 0) = true := by simp [h]
    rw [decide_eq_true h]
    clear h
    go_enter Try.func69, Try.ntmps69
    go_wp2_with fail
    go_ret
    exact ⟨rfl, rfl⟩
  · have e1 : (z == 0) = false := by simpa using h
    rw [decide_eq_false h]
    clear h
    go_enter Try.func69, Try.ntmps69
    go_wp2_with fail
    go_ret
    exact ⟨rfl, rfl⟩
set_option maxHeartbeats 1000000 in
theorem iIdxF (N T g : Nat) (v : Nat → Int) (w : World) (h : Ints w g (rwL N v)) (hN : N ≤ 600) (h1 : ∀ i, i < T → v i ≠ 0) (h2 : T < N → v T = 0) (r : Int) (hr1 : T < N → r = T) (hr2 : ¬ T < N → r = -1) :
    Calls Try.prog 121 #[.slice (some ⟨g, 0, none⟩) N N, .func (.func 69) #[] #[]] w fun e w' => e = .returned (.int .i64 r) ∧ w' = w := by
  have H := Lib.hid h
  have R1 := Lib.hid hr1
  have R2 := Lib.hid hr2
  have H1 := Lib.hid h1
  have H2 := Lib.hid h2
  clear h h1 h2 hr1 hr2
  go_enter Try.func121, Try.ntmps121
  go_wp2_with fail
  go_loopw [5, 8] (fun _ v8 wr => ∃ k : Nat, v8 = .int .i64 k ∧ k ≤ T ∧ wr = w) (fun _ v8 _ => T - (intOf v8).toNat)
  case atStart => exact ⟨0, rfl, Nat.zero_le _, rfl⟩
  case round =>
    obtain ⟨k, rfl, hk, rfl⟩ := hrel
    by_cases hlt : k < N
    · have hc := H.out.cell (i := k) (by rw [rwL_length]; exact hlt)
      rw [rwL_at hlt] at hc
      have hcall := Lib.hid (iDelF (v k) wr)
      have HV1 := Lib.hid (fun h : k < T => H1.out k h)
      have HV2 : Hid (k = T → v k = 0) := fun h => by rw [h]; exact H2.out (by omega)
      obtain ⟨x, hx⟩ : ∃ x, v k = x := ⟨_, rfl⟩
      rw [hx] at hc hcall HV1 HV2
      clear hx
      have k0 : (k : Int) < (N : Int) := by omega
      by_cases hkT : k < T
      · have hd : decide (x = 0) = false := decide_eq_false (HV1.out hkT)
        rw [hd] at hcall
        go_wp2_with fail
        refine hcall.out.mono ?_
        rintro e w' ⟨rfl, hw⟩
        rw [hw]
        clear hw hcall hd
        go_wp2_with fail
        go_roundw
        case rel => exact ⟨k + 1, by go_num, by omega, trivial⟩
        case measure => simp [intOf]; omega
      · have hkT2 : k = T := by omega
        have hd : decide (x = 0) = true := decide_eq_true (HV2.out hkT2)
        rw [hd] at hcall
        have RES : Hid (r = (k : Int)) := by refine Lib.hid ?_; rw [R1.out (by omega), hkT2]
        clear hkT2 hkT
        go_wp2_with fail
        refine hcall.out.mono ?_
        rintro e w' ⟨rfl, hw⟩
        rw [hw]
        clear hw hcall hd
        go_wp2_with fail
        go_ret
        exact ⟨by rw [RES.out]; rfl, rfl⟩
    · have RES : Hid (r = -1) := R2.out (by omega)
      go_wp2_with fail
      go_ret
      exact ⟨by rw [RES.out]; rfl, rfl⟩
theorem ints_zero {g : Nat} {zs : List Int} : ∀ (n o : Nat) (w : World), Ints w g zs → o + n ≤ zs.length → (∀ i, o ≤ i → i < o + n → zs.getD i 0 = 0) → Ints (w.setCells g o (List.replicate n (.int .i64 0))) g zs ∧ w.grownBy (w.setCells g o (List.replicate n (.int .i64 0))) (some g)
  | 0, o, w, h, _, _ => ⟨h, World.grownBy.refl _ _⟩
  | n + 1, o, w, h, hl, hz => by
    have h1 := h.set o 0
    have e : zs.set o 0 = zs := by
      refine list_getD (by simp) fun p hp => ?_
      rw [List.length_set] at hp
      rw [getD_set _ _ _ _ (by omega)]
      by_cases ep : p = o
      · rw [if_pos ep, ep, hz o (Nat.le_refl _) (by omega)]
      · rw [if_neg ep]
    rw [e] at h1
    obtain ⟨a1, a2⟩ := ints_zero n (o + 1) _ h1 (by omega) (fun i q1 q2 => hz i (by omega) (by omega))
    refine ⟨a1, (grown_set_one (a := ⟨g, o, none⟩) (World.grownBy.refl w _) rfl _).trans a2⟩
set_option maxHeartbeats 2000000 in
theorem iDelete (N T g : Nat) (v : Nat → Int) (w : World) (h : Ints w g (rwL N v)) (hT : T ≤ N) (hN : N ≤ 600) (h1 : ∀ i, i < T → v i ≠ 0) (h2 : ∀ i, T ≤ i → i < N → v i = 0) :
    Calls Try.prog 68 #[.slice (some ⟨g, 0, none⟩) N N, .func (.func 69) #[] #[]] w fun e w' => e = .returned (.slice (some ⟨g, 0, none⟩) T N) ∧ Ints w' g (rwL N v) ∧ w.grownBy w' (some g) := by
  have H := Lib.hid h
  have IX := Lib.hid (iIdxF N T g v w h hN h1 (fun h9 => h2 T (Nat.le_refl _) h9) (if T < N then (T : Int) else -1) (fun h9 => if_pos h9) (fun h9 => if_neg h9))
  have H2 := Lib.hid h2
  have DL : Hid (∀ j w', T ≤ j → j < N → Calls Try.prog 69 #[.int .i64 (v j)] w' fun e w2 => e = .returned (.bool true) ∧ w2 = w') := fun j w' q1 q2 => by
    have := iDelF (v j) w'
    rw [decide_eq_true (h2 j q1 q2)] at this
    exact this
  clear h h1 h2
  by_cases hTN : T < N
  · rw [if_pos hTN] at IX
    have n1 : ((T : Int) == -1) = false := beq_eq_false_iff_ne.2 (by omega)
    have hcl : ∀ ty, (Builtin.clear_ #[22] ty #[.slice (some ⟨g, T, none⟩) (N - T) (N - T)]).run Try.prog w = .ok (.tuple #[]) (w.setCells g T (List.replicate (N - T) (.int .i64 0))) := fun ty =>
      Lib.run_clear_slice w 22 3 ty (.int .i64 0) underlying_ints (fun w => zeroI w) rfl rfl g T (N - T) (N - T) (by omega) (fun t ht => by rw [H.out.cell (i := T + t) (by rw [rwL_length]; omega)]; rfl) (fun t _ => H.out.free (T + t))
    obtain ⟨z1, z2⟩ := ints_zero (N - T) T w H.out (by rw [rwL_length]; omega) (fun i q1 q2 => by rw [rwL_at (by omega)]; exact H2.out i q1 (by omega))
    have Z1 := Lib.hid z1
    have Z2 := Lib.hid z2
    clear z1 z2 H2
    go_enter Try.func68, Try.ntmps68
    go_wp2_with fail
    refine IX.out.mono ?_
    rintro e w' ⟨rfl, hw⟩
    rw [hw]
    clear hw IX
    go_wp2_with fail
    go_loopw [5, 6, 7] (fun v5 v6 _ wr => ∃ j : Nat, v5 = .int .i64 T ∧ v6 = .int .i64 j ∧ T ≤ j ∧ j ≤ N ∧ wr = w) (fun _ v6 _ _ => N - (intOf v6).toNat)
    case atStart => exact ⟨T + 1, rfl, by go_num, by omega, by omega, rfl⟩
    case round =>
      obtain ⟨j, rfl, rfl, hj1, hj2, rfl⟩ := hrel
      by_cases hlt : j < N
      · have hc := H.out.cell (i := j) (by rw [rwL_length]; exact hlt)
        rw [rwL_at hlt] at hc
        have hcall := Lib.hid (DL.out j wr hj1 hlt)
        have k0 : (j : Int) < (N : Int) := by omega
        generalize v j = x at hc hcall
        clear hcl
        go_wp2_with fail
        refine hcall.out.mono ?_
        rintro e w' ⟨rfl, hw⟩
        rw [hw]
        clear hw hcall
        go_wp2_with fail
        go_roundw
        case rel => exact ⟨j + 1, rfl, by go_num, by omega, by omega, trivial⟩
        case measure => simp [intOf]; omega
      · have t0 : (T : Int) ≤ (N : Int) := by omega
        go_wp2_with fail
        go_ret
        exact ⟨rfl, Z1.out, Z2.out⟩
  · rw [if_neg hTN] at IX
    obtain rfl : N = T := by omega
    go_enter Try.func68, Try.ntmps68
    go_wp2_with fail
    refine IX.out.mono ?_
    rintro e w' ⟨rfl, hw⟩
    rw [hw]
    clear hw IX
    go_wp2_with fail
    go_ret
    exact ⟨rfl, H.out, World.grownBy.refl _ _⟩
theorem Own.front3 {B n m P : Nat} {w : World} {q : Option Addr} {zs : List Int} (h : Own B w (.slice q n m) zs) (hP : P ≤ zs.length) : Own B w (.slice q P m) (zs.take P) := by
  have hl : (zs.take P).length = P := by rw [List.length_take]; omega
  rcases h with ⟨e, h0⟩ | ⟨g, c, e, hB, ⟨rest, hg⟩, h1, h2⟩
  · injection e with e1 e2 e3
    subst e1 e2 e3 h0
    have : P = 0 := by simpa using hP
    subst this
    exact .inl ⟨rfl, rfl⟩
  · injection e with e1 e2 e3
    subst e1 e2 e3
    refine .inr ⟨g, m, by rw [hl], hB, ⟨(zs.drop P).map (Value.int .i64) ++ rest, ?_⟩, by omega, by omega⟩
    rw [hg, ← List.append_assoc, ← List.map_append, List.take_append_drop]
def FcRes (R : List Int × Bool) (w : World) (e : Ending) (w' : World) : Prop := ∃ v, e = .returned (.tuple #[v, .bool R.2]) ∧ Own w.heap.size w' v R.1 ∧ Below w.heap.size w w'
theorem fcX_no {r c : Int} {xs : List Int} (h : (smR r c xs).ok = false) : fcX r c xs = ([], false) := by unfold fcX; rw [if_neg (by rw [h]; decide)]
theorem fcX_yes {r c : Int} {xs : List Int} (h : (smR r c xs).ok = true) : ∃ (R C T : Nat) (v : Nat → Int), r = R ∧ c = C ∧ R ≤ 24 ∧ C ≤ 24 ∧ (smR r c xs).d.r = R ∧ (smR r c xs).d.c = C ∧ (smR r c xs).d.zs.length = R * C ∧ T ≤ min R C ∧ (∀ i, i < min R C → mxC C (smR r c xs).d.zs i i = v i) ∧ (∀ i, i < T → v i ≠ 0) ∧ (∀ i, T ≤ i → v i = 0) ∧ fcX r c xs = (rwL T v, true) := by
  obtain ⟨R, C, s, f, rfl, rfl, hR, hC, -, -, -, -, e, hF, hS⟩ := smR_says h
  obtain ⟨T, t1, t2, t3, t4⟩ := fcL_form hS
  have ed : (smR R C xs).d = ⟨true, R, C, s.1⟩ := by rw [e]
  refine ⟨R, C, T, f, rfl, rfl, hR, hC, by rw [ed], by rw [ed], by rw [ed]; exact hF.siz.l1, t1, fun i hi => ?_, t2, t3, ?_⟩
  · rw [ed]
    have := hS.dia i i (by omega) (by omega)
    rw [if_pos rfl] at this
    exact this
  · unfold fcX
    rw [if_pos h, ed]
    show (fcL R C s.1 (min R C), true) = _
    rw [t4]; rfl
set_option maxHeartbeats 2000000 in
theorem iFactors (r c : Int) (a : Option Addr) (m : Nat) (xs : List Int) (w : World) (h : Rd w a xs) (hn : xs.length ≤ 16777216) :
    Calls Try.prog 24 #[.agg #[.int .i64 r, .int .i64 c, .slice a xs.length m]] w (FcRes (fcX r c xs) w) := by
  have SM : Hid (∀ w', Below w.heap.size w w' → Calls Try.prog 17 #[.agg #[.int .i64 r, .int .i64 c, .slice a xs.length m]] w' (SmG w' (smR r c xs))) := fun w' hb => iSmithForm r c a m xs w' (h.below hb) hn
  have B0 : Hid (Below w.heap.size w (w.alloc (.cells #[.int .i64 r, .int .i64 c, .slice a xs.length m] 26))) := (Below.refl _ _).alloc (Nat.le_refl _) _
  have S0 : Hid ((w.alloc (.cells #[.int .i64 r, .int .i64 c, .slice a xs.length m] 26)).heap.size = w.heap.size + 1) := by show _ = _; simp
  have NO : Hid ((smR r c xs).ok = false → fcX r c xs = ([], false)) := fcX_no
  have YES : Hid ((smR r c xs).ok = true → ∃ (R C T : Nat) (v : Nat → Int), r = R ∧ c = C ∧ R ≤ 24 ∧ C ≤ 24 ∧ (smR r c xs).d.r = R ∧ (smR r c xs).d.c = C ∧ (smR r c xs).d.zs.length = R * C ∧ T ≤ min R C ∧ (∀ i, i < min R C → mxC C (smR r c xs).d.zs i i = v i) ∧ (∀ i, i < T → v i ≠ 0) ∧ (∀ i, T ≤ i → v i = 0) ∧ fcX r c xs = (rwL T v, true)) := fcX_yes
  obtain ⟨A, hA⟩ : ∃ A, smR r c xs = A := ⟨_, rfl⟩
  rw [hA] at SM NO YES
  obtain ⟨F, hF⟩ : ∃ F, fcX r c xs = F := ⟨_, rfl⟩
  rw [hF] at NO YES ⊢
  generalize xs.length = L at SM B0 S0 ⊢
  clear h hn hA hF
  go_enter Try.func24, Try.ntmps24
  go_wp2_with fail
  refine (SM.out _ B0.out).mono ?_
  rintro e w1 ⟨va, vb, vc, rfl, o1, o2, o3, -, -, -, hb⟩
  have B1 := Lib.hid (B0.out.trans (hb.mono B0.out.size))
  have sz := hb.size
  obtain ⟨qa, ma, rfl, -, -⟩ := o1.form
  obtain ⟨qb, mb, rfl, -, -⟩ := o2.form
  obtain ⟨qc, mc, rfl, -, -⟩ := o3.form
  clear hb o2 o3 SM
  cases hk : A.ok with
  | false =>
    have V := Lib.hid (NO.out hk)
    clear YES o1 sz
    have B2 := Lib.hid (((B1.out.alloc B1.out.size (.cells #[.int .i64 A.d.r, .int .i64 A.d.c, .slice qa A.d.zs.length ma] 26)).alloc (by have := B1.out.size; simp; omega) (.cells #[.int .i64 A.u.r, .int .i64 A.u.c, .slice qb A.u.zs.length mb] 26)).alloc (by have := B1.out.size; simp; omega) (.cells #[.int .i64 A.v.r, .int .i64 A.v.c, .slice qc A.v.zs.length mc] 26))
    go_wp2_with fail
    rw [V.out]
    exact bodyPost_ret (v := .tuple #[.slice none 0 0, .bool false]) (by simp [results, Try.results24, go_sem]) rfl ⟨_, rfl, .inl ⟨rfl, rfl⟩, B2.out⟩
  | true =>
    obtain ⟨R, C, T, v, rfl, rfl, hR, hC, d1, d2, d3, t1, t2, t3, t4, t5⟩ := YES.out hk
    rw [d1, d2, d3]
    have RDD := o1.rdS
    have CA := o1.celA
    rw [d3] at CA
    clear YES NO hk
    have B2 : Hid (∀ o5 o6 o7, Below w1.heap.size w1 (((w1.alloc o5).alloc o6).alloc o7)) := fun o5 o6 o7 => (((Below.refl _ _).alloc (Nat.le_refl _) _).alloc (by simp) _).alloc (by simp; omega) _
    have DG : Hid (∀ w', Below w1.heap.size w1 w' → Calls Try.prog 64 #[.agg #[.int .i64 R, .int .i64 C, .slice qa (R * C) ma]] w' (LineRes (min R C) v w')) := fun w' hb => by
      have := iDiagOf R C qa (R * C) ma A.d.zs w' (RDD.below hb) CA d3 rfl hR hC
      refine this.mono ?_
      rintro e w2 ⟨g, q1, q2, q3, q4⟩
      rw [rwL_congr t2] at q3
      exact ⟨g, q1, q2, q3, q4⟩
    obtain ⟨N, hN⟩ : ∃ N, min R C = N := ⟨_, rfl⟩
    have N24 : N ≤ 600 := by omega
    rw [hN] at DG t1
    have DE : Hid (∀ g w', Ints w' g (rwL N v) → Calls Try.prog 68 #[.slice (some ⟨g, 0, none⟩) N N, .func (.func 69) #[] #[]] w' fun e w2 => e = .returned (.slice (some ⟨g, 0, none⟩) T N) ∧ Ints w2 g (rwL N v) ∧ w'.grownBy w2 (some g)) := fun g w' hi => iDelete N T g v w' hi t1 N24 t3 (fun i q1 _ => t4 i q1)
    have FF := Lib.hid t5
    have TN := Lib.hid t1
    have TK : Hid ((rwL N v).take T = rwL T v) := by
      refine Lib.hid ?_
      unfold rwL
      rw [← List.map_take, List.take_range, Nat.min_eq_left t1]
    clear d1 d2 d3 t1 t2 t3 t4 t5 RDD CA o1 hN sz
    have BZ := Lib.hid (B2.out (.cells #[.int .i64 R, .int .i64 C, .slice qa (R * C) ma] 26) (.cells #[.int .i64 A.u.r, .int .i64 A.u.c, .slice qb A.u.zs.length mb] 26) (.cells #[.int .i64 A.v.r, .int .i64 A.v.c, .slice qc A.v.zs.length mc] 26))
    have K5 : Hid (Blk3 (((w1.alloc (.cells #[.int .i64 R, .int .i64 C, .slice qa (R * C) ma] 26)).alloc (.cells #[.int .i64 A.u.r, .int .i64 A.u.c, .slice qb A.u.zs.length mb] 26)).alloc (.cells #[.int .i64 A.v.r, .int .i64 A.v.c, .slice qc A.v.zs.length mc] 26)) w1.heap.size 26 (.int .i64 R) (.int .i64 C) (.slice qa (R * C) ma)) := ((Blk3.at_ _ _ _ _ rfl).old _).old _
    go_upto_region 2 with fail
    generalize ((w1.alloc (.cells #[.int .i64 R, .int .i64 C, .slice qa (R * C) ma] 26)).alloc (.cells #[.int .i64 A.u.r, .int .i64 A.u.c, .slice qb A.u.zs.length mb] 26)).alloc (.cells #[.int .i64 A.v.r, .int .i64 A.v.c, .slice qc A.v.zs.length mc] 26) = W2 at BZ K5 ⊢
    obtain ⟨p0, p1, p2, -, -, -⟩ := K5.out.all
    go_wp2_with fail
    refine (DG.out _ BZ.out).mono ?_
    rintro e w3 ⟨g, rfl, hg, hi, hb⟩
    have B3 := Lib.hid ((B1.out.trans (BZ.out.mono B1.out.size)).trans (hb.mono (by have := B1.out.size; have := BZ.out.size; omega)))
    have I3 := Lib.hid hi
    have G3 : Hid (w.heap.size ≤ g) := by show _ ≤ _; have := B1.out.size; have := BZ.out.size; omega
    clear hb hi hg p0 p1 p2 DG BZ K5 B2
    go_wp2_with fail
    refine (DE.out g _ I3.out).mono ?_
    rintro e w4 ⟨rfl, hi, hg⟩
    have B4 := Lib.hid (below_of_one hg G3.out B3.out.size)
    have B5 := Lib.hid (B3.out.trans B4.out)
    have OW : Hid (Own w.heap.size w4 (.slice (some ⟨g, 0, none⟩) T N) (rwL T v)) := by
      have : Own w.heap.size w4 (.slice (some ⟨g, 0, none⟩) N N) (rwL N v) := .inr ⟨g, N, by rw [rwL_length], G3.out, hi, by rw [rwL_length]; exact Nat.le_refl _, by rw [rwL_length]; omega⟩
      have := this.front3 (P := T) (by rw [rwL_length]; exact TN.out)
      rw [TK.out] at this
      exact this
    clear hi hg
    go_wp2_with fail
    rw [FF.out]
    exact bodyPost_ret (v := .tuple #[.slice (some ⟨g, 0, none⟩) T N, .bool true]) (by simp [results, Try.results24, go_sem]) rfl ⟨_, rfl, OW.out, B5.out⟩
end Go.Proofs.Ytpelnfenfeoeeaa
end

section
/-
  Plain mathematics of chapter 13: all choices of k of n numbers in order, and what MinorGcd answers.
-/
namespace Go.Proofs.Ytpelnfenfeoeeaa
end Go.Proofs.Ytpelnfenfeoeeaa
end

section
/-
  Plain mathematics of chapter 12: the rank of stepped forms of whatever kind (echelon, Hermite). Nothing of a program is used.
-/
namespace Go.Proofs.Ytpelnfenfeoeeaa
structure TriP (r c : Nat) (A : Mx) (q : Nat → Nat) (t : Nat) : Prop where
  le : t ≤ r
  col : ∀ k, k < t → q k < c
  inc : ∀ k l, k < l → l < t → q k < q l
  nz : ∀ k, k < t → A k (q k) ≠ 0
  left : ∀ k j, k < t → j < q k → A k j = 0
  rest : ∀ i j, t ≤ i → i < r → j < c → A i j = 0
theorem HerP.tri {r c t : Nat} {A : Mx} {q : Nat → Nat} (h : HerP r c A q t) : TriP r c A q t := ⟨h.le, h.col, h.inc, fun k hk => by have := h.pos k hk; omega, h.left, h.rest⟩
theorem Ech.tri {r c t : Nat} {A : Mx} {q : Nat → Nat} (h : Ech r c A q t) : TriP r c A q t := ⟨h.le, h.col, h.inc, fun k hk => by have := h.pos k hk; omega, h.left, h.rest⟩
theorem SubL.span {r s c : Nat} {A B : Mx} (h : SubL r s c A B) : SubSp r s c A B := fun i hi => by
  obtain ⟨k, hk⟩ := h i hi
  exact ⟨1, k, by decide, fun j hj => by rw [Int.one_mul]; exact hk j hj⟩
section
variable {r c t : Nat} {A : Mx} {q : Nat → Nat}
theorem TriP.indep (h : TriP r c A q t) {l : Nat → Int} (hz : ∀ j, j < c → (sumN t fun i => l i * A i j) = 0) : ∀ i, i < t → l i = 0 := by
  rcases first_nz l t with h0 | ⟨a, ha, hla, h0⟩
  · exact h0
  · exfalso
    have e := hz (q a) (h.col a ha)
    rw [sumN_one (a := a) ha (fun i hi hia => by
      rcases Nat.lt_trichotomy i a with h1 | h1 | h1
      · rw [h0 i h1, Int.zero_mul]
      · exact absurd h1 hia
      · rw [h.left i (q a) hi (h.inc a i h1 hi), Int.mul_zero])] at e
    rcases Int.mul_eq_zero.mp e with h1 | h1
    · exact hla h1
    · exact h.nz a ha h1
theorem TriP.few (h : TriP r c A q t) {n : Nat} {K : Mx} (hs : SubSp r n c A K) : t ≤ n := by
  refine Classical.byContradiction fun hn => ?_
  obtain ⟨d, C, hd, hC⟩ := one_den hs
  obtain ⟨l, ⟨i, hi, hli⟩, h0⟩ := ker_some n t C (by omega)
  have hr : t ≤ r := h.le
  have hz : ∀ j, j < c → (sumN t fun i => (l i * d) * A i j) = 0 := fun j hj => by
    have e : (sumN t fun i => (l i * d) * A i j) = sumN t fun i => sumN n fun k => l i * C i k * K k j := sumN_congr fun i hi => by
      rw [Int.mul_assoc, hC i j (by omega) hj, sumN_mul_left]
      exact sumN_congr fun k _ => by rw [Int.mul_assoc]
    rw [e, sumN_swap]
    refine sumN_all_zero fun k hk => ?_
    rw [← sumN_mul, h0 k hk, Int.zero_mul]
  have := h.indep hz i hi
  rcases Int.mul_eq_zero.mp this with h1 | h1
  · exact hli h1
  · exact hd h1
theorem TriP.cut (h : TriP r c A q t) {s : Nat} {M : Mx} (hs : SubSp s r c M A) : SubSp s t c M A := fun i hi => by
  obtain ⟨d, k, hd, hk⟩ := hs i hi
  refine ⟨d, k, hd, fun j hj => ?_⟩
  rw [hk j hj]
  obtain ⟨m, hm⟩ : ∃ m, r = t + m := ⟨r - t, by have := h.le; omega⟩
  have key : ∀ m, t + m ≤ r → (sumN (t + m) fun i => k i * A i j) = sumN t fun i => k i * A i j := by
    intro m
    induction m with
    | zero => intro _; rfl
    | succ m ih =>
      intro h2
      show sumN (t + m) _ + k (t + m) * A (t + m) j = _
      rw [ih (by omega), h.rest (t + m) j (by omega) (by omega) hj, Int.mul_zero, Int.add_zero]
  rw [hm]
  exact key m (by omega)
end
section
variable {r s c t t' : Nat} {M A B : Mx} {q q' : Nat → Nat}
theorem TriP.le_rank (h : TriP r c A q t) (h' : TriP s c B q' t') (hs : SubSp r s c A B) : t ≤ t' := h.few (h'.cut hs)
theorem TriP.rank (h : TriP r c A q t) (h' : TriP s c B q' t') (h1 : SubSp r s c A B) (h2 : SubSp s r c B A) : t = t' := Nat.le_antisymm (h.le_rank h' h1) (h'.le_rank h h2)
theorem TriP.tr_le (hA : TriP r c A q t) (hMA : SubSp s r c M A) (hB : TriP c s B q' t') (hBM : SubSp c c s B (trX M)) : t' ≤ t := by
  obtain ⟨d, K, hd, hK⟩ := one_den (hA.cut hMA)
  have hsub : SubSp c t s (trX M) (trX K) := fun j hj => ⟨d, fun k => A k j, hd, fun i hi => by
    show d * M i j = sumN t fun k => A k j * K i k
    rw [hK i j hi hj]
    exact sumN_congr fun k _ => Int.mul_comm _ _⟩
  exact hB.few (hBM.trans hsub)
theorem TriP.tr (hA : TriP r c A q t) (hMA : SubSp r r c M A) (hAM : SubSp r r c A M) (hB : TriP c r B q' t') (hBM : SubSp c c r B (trX M)) (hMB : SubSp c c r (trX M) B) : t' = t := by
  have h1 := hA.tr_le hMA hB hBM
  have h2 := TriP.tr_le (M := trX M) hB hMB hA hAM
  omega
end
end Go.Proofs.Ytpelnfenfeoeeaa
end

section
/-
  Plain mathematics of chapter 11: solutions by determinants, that there is only one, and lifting. Nothing of a program is used.
-/
namespace Go.Proofs.Ytpelnfenfeoeeaa
def rcX (A : Mx) (j : Nat) (b : Nat → Int) : Mx := fun i k => if k = j then b i else A i k
theorem mnr_rcX {A : Mx} {j i : Nat} {b : Nat → Int} : mnr (rcX A j b) i j = mnr A i j := by
  funext r c
  show (if skp j c = j then _ else _) = _
  rw [if_neg (skp_ne j c)]
  rfl
theorem cramer : ∀ {n : Nat} (A : Mx) (b : Nat → Int) {k : Nat}, k < n → (sumN n fun j => A k j * det n (rcX A j b)) = det n A * b k
  | 0, _, _, k, h => by omega
  | n + 1, A, b, k, hk => by
    have e : (sumN (n + 1) fun j => A k j * det (n + 1) (rcX A j b)) = sumN (n + 1) fun j => sumN (n + 1) fun i => A k j * adjX n A j i * b i := by
      refine sumN_congr fun j hj => ?_
      rw [det_col_at n (rcX A j b) j hj, sumN_mul_left]
      refine sumN_congr fun i _ => ?_
      rw [mnr_rcX]
      show A k j * (sg (i + j) * (if j = j then b i else A i j) * det n (mnr A i j)) = A k j * (sg (i + j) * det n (mnr A i j)) * b i
      rw [if_pos rfl]
      grind
    rw [e, sumN_swap]
    have e2 : (sumN (n + 1) fun i => sumN (n + 1) fun j => A k j * adjX n A j i * b i) = sumN (n + 1) fun i => (if k = i then det (n + 1) A else 0) * b i := by
      refine sumN_congr fun i hi => ?_
      rw [← sumN_mul, ← mul_adj n A k i hk hi]
      rfl
    rw [e2, sumN_one (a := k) hk (fun i _ hne => by rw [if_neg (fun e => hne e.symm), Int.zero_mul]), if_pos rfl]
theorem ker_zero : ∀ {n : Nat} (A : Mx) (z : Nat → Int), det n A ≠ 0 → (∀ i, i < n → (sumN n fun j => A i j * z j) = 0) → ∀ j, j < n → z j = 0
  | 0, _, _, _, _, j, hj => by omega
  | n + 1, A, z, hd, h, j, hj => by
    have e : (sumN (n + 1) fun i => adjX n A j i * sumN (n + 1) fun k => A i k * z k) = det (n + 1) A * z j := by
      have e1 : (sumN (n + 1) fun i => adjX n A j i * sumN (n + 1) fun k => A i k * z k) = sumN (n + 1) fun i => sumN (n + 1) fun k => adjX n A j i * A i k * z k := by
        refine sumN_congr fun i _ => ?_
        rw [sumN_mul_left]
        exact sumN_congr fun k _ => (Int.mul_assoc _ _ _).symm
      rw [e1, sumN_swap]
      have e2 : (sumN (n + 1) fun k => sumN (n + 1) fun i => adjX n A j i * A i k * z k) = sumN (n + 1) fun k => (if j = k then det (n + 1) A else 0) * z k := by
        refine sumN_congr fun k hk => ?_
        rw [← sumN_mul, ← adj_mul n A j k hj hk]
        rfl
      rw [e2, sumN_one (a := j) hj (fun i _ hne => by rw [if_neg (fun e => hne e.symm), Int.zero_mul]), if_pos rfl]
    rw [sumN_all_zero (fun i hi => by rw [h i hi, Int.mul_zero])] at e
    rcases Int.mul_eq_zero.mp e.symm with h1 | h1
    · exact absurd h1 hd
    · exact h1
end Go.Proofs.Ytpelnfenfeoeeaa
end

section
/-
  Plain mathematics of chapter 13: the numbers of a Smith form that are not 0 are as many as the rank. Nothing of a program is used.
-/
namespace Go.Proofs.Ytpelnfenfeoeeaa
def IndR (n c : Nat) (X : Mx) : Prop := ∀ l : Nat → Int, (∀ j, j < c → (sumN n fun i => l i * X i j) = 0) → ∀ i, i < n → l i = 0
theorem IndR.few {n m c : Nat} {X K : Mx} (h : IndR n c X) (hs : SubSp n m c X K) : n ≤ m := by
  refine Classical.byContradiction fun hn => ?_
  obtain ⟨d, C, hd, hC⟩ := one_den hs
  obtain ⟨l, ⟨i, hi, hli⟩, h0⟩ := ker_some m n C (by omega)
  have hz : ∀ j, j < c → (sumN n fun i => (l i * d) * X i j) = 0 := fun j hj => by
    have e : (sumN n fun i => (l i * d) * X i j) = sumN n fun i => sumN m fun k => l i * C i k * K k j := sumN_congr fun i hi => by
      rw [Int.mul_assoc, hC i j hi hj, sumN_mul_left]
      exact sumN_congr fun k _ => by rw [Int.mul_assoc]
    rw [e, sumN_swap]
    refine sumN_all_zero fun k hk => ?_
    rw [← sumN_mul, h0 k hk, Int.zero_mul]
  rcases Int.mul_eq_zero.mp (h _ hz i hi) with h1 | h1
  · exact hli h1
  · exact hd h1
def rmX (c : Nat) (X V : Mx) : Mx := fun i j => sumN c fun b => X i b * V b j
theorem rm_comb (c n : Nat) (X V : Mx) (l : Nat → Int) (j : Nat) : (sumN n fun i => l i * rmX c X V i j) = sumN c fun b => (sumN n fun i => l i * X i b) * V b j := by
  have e : (sumN n fun i => l i * rmX c X V i j) = sumN n fun i => sumN c fun b => l i * X i b * V b j := sumN_congr fun i _ => by
    show l i * (sumN c fun b => X i b * V b j) = _
    rw [sumN_mul_left]
    exact sumN_congr fun b _ => (Int.mul_assoc _ _ _).symm
  rw [e, sumN_swap]
  exact sumN_congr fun b _ => (sumN_mul _ _ _).symm
theorem IndR.mulV {n c : Nat} {X V : Mx} (h : IndR n c X) (hv : det c V ≠ 0) : IndR n c (rmX c X V) := fun l hl => by
  refine h l ?_
  refine ker_zero (trX V) (fun b => sumN n fun i => l i * X i b) (by rw [det_tr]; exact hv) fun j hj => ?_
  have := hl j hj
  rw [rm_comb] at this
  rw [← this]
  exact sumN_congr fun b _ => Int.mul_comm _ _
theorem IndR.ofV {n c : Nat} {X V : Mx} (h : IndR n c (rmX c X V)) : IndR n c X := fun l hl => h l fun j _ => by
  rw [rm_comb]
  exact sumN_all_zero fun b hb => by rw [hl b hb, Int.zero_mul]
theorem IndR.congr {n c : Nat} {X Y : Mx} (h : IndR n c X) (e : ∀ i j, i < n → j < c → Y i j = X i j) : IndR n c Y := fun l hl => h l fun j hj => by
  rw [← hl j hj]
  exact sumN_congr fun i hi => by rw [e i j hi hj]
theorem SubSp.mulV {n m c : Nat} {X Y V : Mx} (h : SubSp n m c X Y) : SubSp n m c (rmX c X V) (rmX c Y V) := fun i hi => by
  obtain ⟨d, k, hd, hk⟩ := h i hi
  refine ⟨d, k, hd, fun j _ => ?_⟩
  rw [rm_comb]
  show d * (sumN c fun b => X i b * V b j) = _
  rw [sumN_mul_left]
  exact sumN_congr fun b hb => by rw [← hk b hb, Int.mul_assoc]
theorem TriP.indR {r c t : Nat} {A : Mx} {q : Nat → Nat} (h : TriP r c A q t) : IndR t c A := fun _ hl => h.indep hl
theorem SmP.tri {r c T : Nat} {D : Mx} {f : Nat → Int} (h : SmP r c D f) (hr : T ≤ r) (hc : T ≤ c) (h1 : ∀ i, i < T → f i ≠ 0) (h2 : ∀ i, T ≤ i → f i = 0) : TriP r c D (fun k => k) T := by
  refine ⟨hr, fun k hk => by show k < c; omega, fun k l hkl _ => hkl, fun k hk => ?_, fun k j hk hj => ?_, fun i j hi hiR hj => ?_⟩
  · rw [h.dia k k (by omega) (by omega), if_pos rfl]; exact h1 k hk
  · rw [h.dia k j (by omega) (by have : j < k := hj; omega), if_neg (by have : j < k := hj; omega)]
  · rw [h.dia i j hiR hj]
    split
    · exact h2 i hi
    · rfl
theorem Acc3.rank {r c T t : Nat} {U V M D B : Mx} {f : Nat → Int} {q : Nat → Nat} (h : Acc3 r c U V M D) (hD : SmP r c D f) (hr : T ≤ r) (hc : T ≤ c) (h1 : ∀ i, i < T → f i ≠ 0) (h2 : ∀ i, T ≤ i → f i = 0) (hB : TriP r c B q t) (a1 : SubSp r r c M B) (a2 : SubSp r r c B M) : T = t := by
  have tri := hD.tri hr hc h1 h2
  have hu : det r U ≠ 0 := by rcases h.uu with e | e <;> rw [e] <;> decide
  have hv : det c V ≠ 0 := by rcases h.vv with e | e <;> rw [e] <;> decide
  refine Nat.le_antisymm ?_ ?_
  · have i1 : IndR T c (rmX c (mulX r U M) V) := tri.indR.congr fun i j hi hj => h.mul i j (by omega) hj
    refine i1.ofV.few (K := B) (hB.cut fun i hi => ?_)
    exact ((sub_mul U M).trans a1) i (by omega)
  · have i2 : IndR t c (rmX c B V) := hB.indR.mulV hv
    have e : SubSp r r c (rmX c (mulX r U M) V) D := fun i hi => (InSp.row (A := D) hi).congr fun j hj => h.mul i j hi hj
    refine i2.few (K := D) (tri.cut fun i hi => ?_)
    have hle := hB.le
    exact (((a2.trans (span_mul hu)).mulV (V := V)).trans e) i (by omega)
end Go.Proofs.Ytpelnfenfeoeeaa
end

section
/-
  The mathematics of the laws of chapter 13: as many rows in all three forms; Smith forms come with their matrices, and no change of bases changes them.
-/
namespace Go.Proofs.Ytpelnfenfeoeeaa
open Go.RowKit
theorem bas_says {r c : Int} {xs : List Int} (h : (basR r c xs).ok = true) : ∃ (R C T : Nat) (B : Mx) (q : Nat → Nat), r = R ∧ c = C ∧ xs.length = R * C ∧ nums xs = true ∧ (basR r c xs).r = T ∧ TriP R C B q T ∧ SubSp R R C B (mxC C xs) ∧ SubSp R R C (mxC C xs) B := by
  have hok : (herR r c xs).ok = true := by
    cases hk : (herR r c xs).ok with
    | true => rfl
    | false => unfold basR at h; rw [if_neg (by rw [hk]; decide)] at h; cases h
  obtain ⟨R, C, s, rfl, rfl, R24, C24, ex, eh, SZ⟩ := herR_ok hok
  have hm : isMat R C xs = true := by
    cases hm : isMat (R : Int) C xs with
    | true => rfl
    | false => unfold herR at hok; rw [if_neg (by rw [hm]; decide)] at hok; cases hok
  obtain ⟨-, -, hl, nx⟩ := isMat_says hm
  have hl : xs.length = R * C := by rw [← Int.natCast_mul] at hl; omega
  obtain ⟨f, p, T, hP⟩ := herX_says hl nx ex
  obtain ⟨a1, a2⟩ := f.acc.sub
  have h1 := rowsN_her hP R (Nat.le_refl _)
  have h2 := hP.le
  refine ⟨R, C, T, mxC C s.1, p, rfl, rfl, hl, nx, ?_, hP.tri, a1.span, a2.span⟩
  unfold basR
  rw [if_pos hok, eh]
  show ((rowsN C s.1 R : Nat) : Int) = T
  omega
theorem ech_says2 {r c : Int} {xs : List Int} (h : (echR r c xs).ok = true) : ∃ (R C : Nat) (B : Mx) (q : Nat → Nat), r = R ∧ c = C ∧ xs.length = R * C ∧ TriP R C B q (echR r c xs).pv.length ∧ SubSp R R C B (mxC C xs) ∧ SubSp R R C (mxC C xs) B := by
  obtain ⟨-, R, C, ys, pv, rfl, rfl, hR, hC, hx, nx, he, e, hy, -⟩ := echR_ok h
  obtain ⟨e1, e2, e3, -⟩ := echM_says hx nx he
  refine ⟨R, C, mxC C ys, fun k => pv.getD k 0, rfl, rfl, hx, ?_, e2, e3⟩
  rw [e]
  show TriP R C (mxC C ys) (fun k => pv.getD k 0) (pvI pv).length
  rw [pvI_length]
  exact e1.tri
theorem bas_rank {r c : Int} {xs : List Int} (h : (basR r c xs).ok = true) (h' : (echR r c xs).ok = true) : (basR r c xs).r = ((echR r c xs).pv.length : Nat) := by
  obtain ⟨R, C, T, B, q, rfl, rfl, hl, nx, e, t1, a1, a2⟩ := bas_says h
  obtain ⟨R', C', B', q', e1, e2, -, t2, b1, b2⟩ := ech_says2 h'
  obtain rfl : R = R' := by omega
  obtain rfl : C = C' := by omega
  rw [e, t1.rank t2 (a1.trans b2) (b1.trans a2)]
theorem fac_rank {r c : Int} {xs : List Int} (h : (fcX r c xs).2 = true) (h' : (echR r c xs).ok = true) : (fcX r c xs).1.length = (echR r c xs).pv.length := by
  have hok : (smR r c xs).ok = true := by
    cases hk : (smR r c xs).ok with
    | true => rfl
    | false => unfold fcX at h; rw [if_neg (by rw [hk]; decide)] at h; cases h
  obtain ⟨R, C, s, f, rfl, rfl, R24, C24, -, hl, nx, hx, e, hF, hS⟩ := smR_says hok
  obtain ⟨R', C', B', q', e1, e2, -, t2, b1, b2⟩ := ech_says2 h'
  obtain rfl : R = R' := by omega
  obtain rfl : C = C' := by omega
  obtain ⟨T, hT, z1, z2, hl2⟩ := fcL_form hS
  have hk := hF.acc.rank hS (by omega) (by omega) z1 z2 t2 b2 b1
  rw [← hk]
  unfold fcX
  rw [if_pos hok, e]
  show (fcL R C s.1 (min R C)).length = T
  rw [hl2]; simp
theorem bas_turn {r c : Int} {xs : List Int} {m : MR} (h : (basR r c xs).ok = true) (hm : turnM r c xs = m) (h' : (basR m.r m.c m.zs).ok = true) : (basR m.r m.c m.zs).r = (basR r c xs).r := by
  obtain ⟨R, C, T, B, q, rfl, rfl, hl, nx, e, t1, a1, a2⟩ := bas_says h
  have hmat : isMat R C xs = true := by
    cases hq : isMat (R : Int) C xs with
    | true => rfl
    | false =>
      have hk : (herR (R : Int) C xs).ok = false := by unfold herR; rw [if_neg (by rw [hq]; decide)]; rfl
      unfold basR at h
      rw [if_neg (by rw [hk]; decide)] at h
      cases h
  rw [turnM_ok hmat] at hm
  subst hm
  obtain ⟨R', C', T', B', q', e1, e2, hl', nx', e', t2, b1, b2⟩ := bas_says h'
  have e1 : (C : Int) = R' := e1
  have e2 : (R : Int) = C' := e2
  obtain rfl : C = R' := by omega
  obtain rfl : R = C' := by omega
  have ht : ∀ i j, i < C → j < R → mxC R (turnL R C xs) i j = trX (mxC C xs) i j := fun i j hi hj => by
    show (turnL R C xs).getD (i * R + j) 0 = xs.getD (j * C + i) 0
    exact turnL_at R C xs hj hi
  have c1 : SubSp C C R (trX (mxC C xs)) (mxC R (turnL R C xs)) := fun i hi => (InSp.row (A := mxC R (turnL R C xs)) hi).congr fun j hj => (ht i j hi hj).symm
  have c2 : SubSp C C R (mxC R (turnL R C xs)) (trX (mxC C xs)) := fun i hi => (InSp.row (A := trX (mxC C xs)) hi).congr fun j hj => ht i j hi hj
  have b1 : SubSp C C R B' (mxC R (turnL R C xs)) := b1
  have b2 : SubSp C C R (mxC R (turnL R C xs)) B' := b2
  rw [e', e, t1.tr a2 a1 t2 (b1.trans c2) (c1.trans b2)]
end Go.Proofs.Ytpelnfenfeoeeaa
end
