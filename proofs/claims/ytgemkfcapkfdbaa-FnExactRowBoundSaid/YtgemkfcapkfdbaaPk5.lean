/-
  Texts of this seat, joined: ChiS · NumIDiv · PdI
-/
import Derived.Test.YtgemkfcapkfdbaaRows
import Derived.WalkKit
import Derived.BigQuiet
import Derived.Deep.QuietTactic
import Derived.Lib.Hide
import Derived.StillTailTactics
import Derived.Test.YtgemkfcapkfdbaaPk1
import Derived.Test.YtgemkfcapkfdbaaPk3
import Derived.Test.YtgemkfcapkfdbaaPk4

section
/-
  Chapter 9, in the model: AreModuli, ChineseOf, SymmetricOf.
-/
namespace Go.Proofs.Ytgemkfcapkfdbaa
set_option maxRecDepth 100000
open Go.RowKit

theorem mulB_pos {P x : Int} (h : 0 ≤ P ∧ P ≤ 400000000) (h' : 0 ≤ x ∧ x ≤ 400000000) : mulB P x = if P * x ≤ 400000000 then P * x else badN := by
  have q0 : 0 ≤ P * x := Int.mul_nonneg h.1 h'.1
  rw [mulB_num ⟨by omega, h.2⟩ ⟨by omega, h'.2⟩]
  by_cases h5 : P * x ≤ 400000000
  · rw [if_pos h5, fitB_num ⟨by omega, h5⟩]
  · rw [if_neg h5]
    unfold fitB
    exact if_neg fun h => h5 h.2
set_option maxHeartbeats 1000000 in
theorem sModu (a : Option Addr) (m : Nat) (xs : List Int) (w : World) (h : Rd w a xs) (hn : xs.length ≤ 16777216) :
    Calls Try.prog 24 #[.slice a xs.length m] w fun e w' => e = .returned (.bool (modB xs)) ∧ ∃ n, w' = w.drewN n := by
  have LG : Hid (¬ xs.length ≤ 8 → modB xs = false) := modB_long
  have LO : Hid (∀ (i : Nat) (P x : Int), ModTo xs i P → i < xs.length → xs.getD i 0 = x → ¬ (2 ≤ x ∧ x ≤ 400000000) → modB xs = false) := fun i P x h1 h2 h3 h4 => h1.low h2 (by rw [show atL xs i = x from h3]; exact h4)
  have GC : Hid (∀ (i : Nat) (P x : Int), ModTo xs i P → i < xs.length → xs.getD i 0 = x → P.gcd x ≠ 1 → modB xs = false) := fun i P x h1 h2 h3 h4 => h1.gcd h2 (by rw [show atL xs i = x from h3]; exact h4)
  have BG : Hid (∀ (i : Nat) (P x : Int), ModTo xs i P → i < xs.length → xs.getD i 0 = x → 400000000 < P * x → modB xs = false) := fun i P x h1 h2 h3 h4 => h1.big h2 (by rw [show atL xs i = x from h3]; exact h4)
  have ST : Hid (∀ (i : Nat) (P x : Int), ModTo xs i P → i < xs.length → xs.getD i 0 = x → 2 ≤ x ∧ x ≤ 400000000 → P.gcd x = 1 → P * x ≤ 400000000 → ModTo xs (i + 1) (P * x)) := fun i P x h1 h2 h3 h4 h5 h6 => by
    have h3 : atL xs i = x := h3
    rw [← h3] at h4 h5 h6 ⊢
    exact h1.step h2 h4 h5 h6
  have AL : Hid (∀ P, ModTo xs xs.length P → xs.length ≤ 8 → modB xs = true) := fun P h1 h2 => h1.all h2
  have RD := Lib.hid h
  obtain ⟨N, hN⟩ : ∃ N, xs.length = N := ⟨_, rfl⟩
  have CE : Hid (∀ (k : Nat) (wr : World) (n : Nat), wr = w.drewN n → k < N → ∀ b o, a = some ⟨b, o, none⟩ → True) := fun _ _ _ _ _ _ _ _ => trivial
  have Z := Lib.hid (ModTo.zero xs)
  rw [hN] at LG LO GC BG ST AL hn ⊢
  have XN := Lib.hid hN
  generalize modB xs = bb at LG LO GC BG AL ⊢
  clear h hN CE
  by_cases h8 : N ≤ 8
  · go_enter Try.func24, Try.ntmps24
    go_wp2_with fail
    go_loopw [3, 4] (fun v3 v4 wr => ∃ (i : Nat) (P : Int), v3 = .int .i64 P ∧ v4 = .int .i64 i ∧ i ≤ N ∧ ModTo xs i P ∧ ∃ n, wr = w.drewN n) (fun _ v4 _ => N - (intOf v4).toNat)
    case atStart => exact ⟨0, 1, rfl, rfl, by omega, Z.out, 0, rfl⟩
    case round =>
      obtain ⟨i, P, rfl, rfl, hi, hm, n, rfl⟩ := hrel
      have M := Lib.hid hm
      have p0 := hm.pos
      have p1 := hm.num
      clear hm
      by_cases hlt : i < N
      · obtain ⟨b, o, rfl, hcell⟩ := (RD.out.drewN n) i (by rw [XN.out]; exact hlt)
        obtain ⟨x, hx⟩ : ∃ x, xs.getD i 0 = x := ⟨_, rfl⟩
        rw [hx] at hcell
        have X := Lib.hid hx
        clear hx
        by_cases hr : 2 ≤ x ∧ x ≤ 400000000
        · go_wp2_with fail
          refine (sIn_t x 2 400000000 _ hr.1 hr.2).mono ?_
          rintro e w' ⟨rfl, rfl⟩
          go_wp2_with fail
          refine (sGcd P x _ ⟨by omega, p1⟩ ⟨by omega, hr.2⟩).mono ?_
          rintro e w' ⟨rfl, k, rfl⟩
          have hcell2 : (w.drewN (n + k)).cell? ⟨b, o + i, none⟩ = some (.int .i64 x) := hcell
          by_cases hg : P.gcd x = 1
          · have g1 : ((P.gcd x : Nat) : Int) = 1 := by rw [hg]; rfl
            rw [g1]
            clear g1
            have MB := Lib.hid (mulB_pos ⟨Int.le_of_lt p0, p1⟩ ⟨(by omega : 0 ≤ x), hr.2⟩)
            go_wp2_with fail
            refine (sMulB P x _).mono ?_
            rintro e w' ⟨rfl, rfl⟩
            rw [MB.out]
            by_cases h5 : P * x ≤ 400000000
            · have S := Lib.hid (ST.out i P x M.out hlt X.out hr hg h5)
              have q0 : 0 < P * x := Int.mul_pos (by omega) (by omega)
              rw [if_pos h5]
              obtain ⟨y, hy⟩ : ∃ y, P * x = y := ⟨_, rfl⟩
              rw [hy] at q0 h5 S ⊢
              have n0 : (y == -4611686018427387904) = false := by simp; omega
              clear hy
              go_wp2_with fail
              go_roundw
              case rel => exact ⟨i + 1, y, rfl, by go_num, by omega, S.out, n + k, rfl⟩
              case measure => simp [intOf]; omega
            · have V := Lib.hid (BG.out i P x M.out hlt X.out (by omega))
              rw [if_neg h5]
              go_wp2_with fail
              go_ret
              exact ⟨by rw [V.out]; rfl, n + k, rfl⟩
          · have V := Lib.hid (GC.out i P x M.out hlt X.out hg)
            have n0 : (((P.gcd x : Nat) : Int) != 1) = true := by simp; omega
            generalize ((P.gcd x : Nat) : Int) = gg at n0 ⊢
            clear hg
            go_wp2_with fail
            go_ret
            exact ⟨by rw [V.out]; rfl, n + k, rfl⟩
        · have V := Lib.hid (LO.out i P x M.out hlt X.out hr)
          have hr' : x < 2 ∨ 400000000 < x := by omega
          clear hr
          go_wp2_with fail
          refine (sIn_f x 2 400000000 _ hr').mono ?_
          rintro e w' ⟨rfl, rfl⟩
          go_wp2_with fail
          go_ret
          exact ⟨by rw [V.out]; rfl, n, rfl⟩
      · obtain rfl : i = N := by omega
        have V := Lib.hid (AL.out P M.out h8)
        go_wp2_with fail
        go_ret
        exact ⟨by rw [V.out]; simp; omega, n, rfl⟩
  · have V := Lib.hid (LG.out h8)
    have n0 : decide (((N : Nat) : Int) ≤ 8) = false := by simp; omega
    go_enter Try.func24, Try.ntmps24
    go_wp2_with fail
    go_loopw [3, 4] (fun v3 v4 wr => v3 = .int .i64 1 ∧ v4 = .int .i64 0 ∧ wr = w) (fun _ v4 _ => 0)
    case atStart => exact ⟨rfl, rfl, rfl⟩
    case round =>
      obtain ⟨rfl, rfl, rfl⟩ := hrel
      go_wp2_with fail
      go_ret
      exact ⟨by rw [V.out]; rfl, 0, rfl⟩

/-- One round of the loop over the residues: what it reads, what it finds, and that nothing overflows. -/
theorem chi_round {rs ms : List Int} {i : Nat} {x : Int} (hm : modB ms = true) (hi : i < ms.length) (h : ChiP (atL rs) (atL ms) i x) :
    ∃ p r P u z T : Int, ms.getD i 0 = p ∧ rs.getD i 0 = r ∧ prodI (atL ms) i = P ∧ (2 ≤ p ∧ p ≤ 400000000) ∧ (1 ≤ P ∧ P ≤ 400000000) ∧ (0 ≤ x ∧ x ≤ 400000000) ∧ egAns (P % p) p = (1, u, z) ∧ (-400000000 ≤ u ∧ u ≤ 400000000) ∧ (r - x) % p * (u % p) % p = T ∧ (0 ≤ T ∧ T ≤ 400000000) ∧ (0 ≤ (r - x) % p * (u % p) ∧ (r - x) % p * (u % p) ≤ 160000000000000000) ∧ (0 ≤ P * T ∧ P * T ≤ 400000000) ∧ (0 ≤ x + P * T ∧ x + P * T ≤ 400000000) ∧ (1 ≤ P * p ∧ P * p ≤ 400000000) ∧ ChiP (atL rs) (atL ms) (i + 1) (x + P * T) ∧ prodI (atL ms) (i + 1) = P * p := by
  obtain ⟨-, hmo, hr, hp⟩ := modB_says hm
  obtain ⟨p2, p4⟩ := hr i hi
  have P1 := (hmo.less (Nat.le_of_lt hi)).pos
  have P4 := hp i (by omega)
  have Q4 := hp (i + 1) hi
  have eQ : prodI (atL ms) (i + 1) = prodI (atL ms) i * atL ms i := rfl
  obtain ⟨x0, x1⟩ := h.1
  have y0 : 0 ≤ prodI (atL ms) i % atL ms i := Int.emod_nonneg _ (by omega)
  have y1 : prodI (atL ms) i % atL ms i < atL ms i := Int.emod_lt_of_pos _ (by omega)
  obtain ⟨u, z, e, huz, b1, b2, -, -⟩ := egAns_is (prodI (atL ms) i % atL ms i) (atL ms i) ⟨by omega, by omega⟩ ⟨by omega, by omega⟩
  have hg : ((prodI (atL ms) i % atL ms i).gcd (atL ms i) : Int) = 1 := by rw [gcd_emod, (hmo i hi).2]; rfl
  have st := chi_step (rs := rs) (u := u) (y := z) hm hi h (g := ((prodI (atL ms) i % atL ms i).gcd (atL ms i) : Int)) (by exact huz) rfl
  obtain ⟨t0, t1⟩ := chT_can (x := x) (r := atL rs i) (p := atL ms i) (u := u) (by omega)
  obtain ⟨c0, c1⟩ := chT_mul (x := x) (r := atL rs i) (p := atL ms i) (u := u) (by omega)
  have c2 : atL ms i * atL ms i ≤ 400000000 * 400000000 := Int.mul_le_mul p4 p4 (by omega) (by decide)
  have m0 : 0 ≤ prodI (atL ms) i * chT x (atL rs i) (atL ms i) u := Int.mul_nonneg (by omega) t0
  have s1 := st.1.2
  have q1 : 0 < prodI (atL ms) i * atL ms i := Int.mul_pos P1 (by omega)
  rw [hg] at e
  exact ⟨atL ms i, atL rs i, prodI (atL ms) i, u, z, chT x (atL rs i) (atL ms i) u, rfl, rfl, rfl, ⟨p2, p4⟩, ⟨by omega, P4⟩, ⟨x0, by omega⟩, e, ⟨b1, b2⟩, rfl, ⟨t0, by omega⟩, ⟨c0, by omega⟩, ⟨m0, by omega⟩, ⟨by omega, by omega⟩, ⟨by omega, by omega⟩, st, rfl⟩
theorem chi_done {rs ms : List Int} {x P : Int} (h1 : modB ms = true) (h2 : rs.length = ms.length) (h3 : ∀ k, k < ms.length → NumP (rs.getD k 0)) (h : ChiP (atL rs) (atL ms) ms.length x) (hP : prodI (atL ms) ms.length = P) : chiX rs ms = (x, P, true) := by
  rw [← hP]
  exact chiX_yes h1 h2 (nums_true (by rw [h2]; exact h3)) h
set_option maxHeartbeats 2000000 in
theorem sChin (a a' : Option Addr) (m m' : Nat) (rs ms : List Int) (w : World) (h : Rd w a rs) (h' : Rd w a' ms) (hn : rs.length ≤ 16777216) (hn' : ms.length ≤ 16777216) :
    Calls Try.prog 13 #[.slice a rs.length m, .slice a' ms.length m'] w fun e w' => e = .returned (.tuple #[.int .i64 (chiX rs ms).1, .int .i64 (chiX rs ms).2.1, .bool (chiX rs ms).2.2]) ∧ ∃ n, w' = w.drewN n := by
  have MO : Hid (∀ w', (∃ n, w' = w.drewN n) → Calls Try.prog 24 #[.slice a' ms.length m'] w' fun e w2 => e = .returned (.bool (modB ms)) ∧ ∃ n, w2 = w'.drewN n) := fun w' hw => by
    obtain ⟨n, rfl⟩ := hw
    exact sModu a' m' ms _ (h'.drewN n) hn'
  have N1 : Hid (modB ms = false → chiX rs ms = (0, 0, false)) := fun h => chiX_no (.inl h)
  have N2 : Hid (rs.length ≠ ms.length → chiX rs ms = (0, 0, false)) := fun h => chiX_no (.inr (.inl h))
  have N3 : Hid (∀ i, i < rs.length → ¬ NumP (rs.getD i 0) → chiX rs ms = (0, 0, false)) := fun i h1 h2 => chiX_no (.inr (.inr (nums_false h1 h2)))
  have ST : Hid (∀ (i : Nat) (x : Int), modB ms = true → i < ms.length → ChiP (atL rs) (atL ms) i x → _) := fun i x h1 h2 h3 => chi_round h1 h2 h3
  have DN : Hid (∀ x P : Int, modB ms = true → rs.length = ms.length → (∀ k, k < ms.length → NumP (rs.getD k 0)) → ChiP (atL rs) (atL ms) ms.length x → prodI (atL ms) ms.length = P → chiX rs ms = (x, P, true)) := fun x P h1 h2 h3 h4 h5 => chi_done h1 h2 h3 h4 h5
  have Z := Lib.hid (ChiP.zero (atL rs) (atL ms))
  have R1 := Lib.hid h
  have R2 := Lib.hid h'
  obtain ⟨L, hL⟩ : ∃ L, rs.length = L := ⟨_, rfl⟩
  obtain ⟨N, hN⟩ : ∃ N, ms.length = N := ⟨_, rfl⟩
  rw [hL] at N2 N3 DN hn ⊢
  rw [hN] at MO N2 ST DN hn' ⊢
  have XL := Lib.hid hL
  have XN := Lib.hid hN
  generalize chiX rs ms = RES at N1 N2 N3 DN ⊢
  clear h h' hL hN
  go_enter Try.func13, Try.ntmps13
  go_wp2_with fail
  refine (MO.out _ ⟨0, rfl⟩).mono ?_
  rintro e w1 ⟨rfl, n0, rfl⟩
  obtain ⟨bm, hbm⟩ : ∃ b, modB ms = b := ⟨_, rfl⟩
  rw [hbm] at N1 ST DN ⊢
  clear hbm
  cases bm with
  | false =>
    have V := Lib.hid (N1.out rfl)
    go_wp2_with fail
    rw [V.out]
    exact bodyPost_ret (v := .tuple #[.int .i64 0, .int .i64 0, .bool false]) (by simp [results, Try.results13, go_sem]) rfl ⟨rfl, n0, rfl⟩
  | true =>
    by_cases hLN : L = N
    · subst hLN
      go_wp2_with fail
      go_loopw [7, 8, 9] (fun v7 v8 v9 wr => ∃ (i : Nat) (x P : Int), v7 = .int .i64 x ∧ v8 = .int .i64 P ∧ v9 = .int .i64 i ∧ i ≤ L ∧ ChiP (atL rs) (atL ms) i x ∧ prodI (atL ms) i = P ∧ (∀ k, k < i → NumP (rs.getD k 0)) ∧ ∃ n, wr = w.drewN n) (fun _ _ v9 _ => L - (intOf v9).toNat)
      case atStart => exact ⟨0, 0, 1, rfl, rfl, rfl, by omega, Z.out, rfl, fun k hk => by omega, n0, rfl⟩
      case round =>
        obtain ⟨i, x, P, rfl, rfl, rfl, hi, hx, hP, hk, n, rfl⟩ := hrel
        have X := Lib.hid hx
        have HP := Lib.hid hP
        have HK := Lib.hid hk
        clear hx hP hk
        by_cases hlt : i < L
        · obtain ⟨p, r, P', u, z, T, ep, er, eP, ⟨p2, p4⟩, ⟨P1, P4⟩, ⟨x0, x1⟩, eg, ⟨u0, u1⟩, eT, ⟨T0, T1⟩, ⟨c0, c1⟩, ⟨m0, m1⟩, ⟨s0, s1⟩, ⟨q0, q1⟩, st, eQ⟩ := ST.out i x (by first | rfl | trivial) hlt X.out
          obtain rfl : P = P' := HP.out.symm.trans eP
          obtain ⟨b, o, rfl, hc1⟩ := (R1.out.drewN n) i (by rw [XL.out]; exact hlt)
          obtain ⟨b', o', rfl, hc2⟩ := (R2.out.drewN n) i (by rw [XN.out]; exact hlt)
          rw [er] at hc1
          rw [ep] at hc2
          have ER := Lib.hid er
          have SS := Lib.hid st
          have EQ := Lib.hid eQ
          clear er ep eP st eQ
          by_cases hr : -400000000 ≤ r ∧ r ≤ 400000000
          · obtain ⟨y, hy⟩ : ∃ y, P % p = y := ⟨_, rfl⟩
            have y0 : 0 ≤ y := by rw [← hy]; exact Int.emod_nonneg _ (by omega)
            have y1 : y < p := by rw [← hy]; exact Int.emod_lt_of_pos _ (by omega)
            have n1 : (p == 0) = false := by simp; omega
            rw [hy] at eg
            have HX : Hid (egVal (egAns y p) = .tuple #[.int .i64 1, .int .i64 u, .int .i64 z, .bool true]) := by show _ = _; rw [eg]; rfl
            have d0 : Int.tmod P p = y := by rw [Int.tmod_eq_emod_of_nonneg (by omega)]; exact hy
            clear eg
            go_wp2_with fail
            refine (sIsNum_t r _ hr.1 hr.2).mono ?_
            rintro e w' ⟨rfl, rfl⟩
            go_wp2_with fail
            refine (sExt y p _ ⟨by omega, by omega⟩ ⟨by omega, by omega⟩).mono ?_
            rintro e w' ⟨rfl, n2, rfl⟩
            rw [HX.out]
            have hc3 : (w.drewN (n + n2)).cell? ⟨b, o + i, none⟩ = some (.int .i64 r) := hc1
            have d1 : IntKind.i64.wrap (r - x) = r - x := IntWalk.i64_in _ (by omega)
            obtain ⟨A, hA⟩ : ∃ A, (r - x) % p = A := ⟨_, rfl⟩
            obtain ⟨B, hB⟩ : ∃ B, u % p = B := ⟨_, rfl⟩
            rw [hA, hB] at c0 c1 eT
            have HA := Lib.hid hA
            have HB := Lib.hid hB
            obtain ⟨C, hC⟩ : ∃ C, A * B = C := ⟨_, rfl⟩
            rw [hC] at c0 c1 eT
            have d2 : IntKind.i64.wrap (A * B) = C := by rw [hC]; exact IntWalk.i64_in _ (by omega)
            have d3 : Int.tmod C p = T := by rw [Int.tmod_eq_emod_of_nonneg c0]; exact eT
            obtain ⟨D, hD⟩ : ∃ D, P * T = D := ⟨_, rfl⟩
            rw [hD] at m0 m1 s0 s1 SS
            have d4 : IntKind.i64.wrap (P * T) = D := by rw [hD]; exact IntWalk.i64_in _ (by omega)
            obtain ⟨E, hE⟩ : ∃ E, x + D = E := ⟨_, rfl⟩
            rw [hE] at s0 s1 SS
            have d5 : IntKind.i64.wrap (x + D) = E := by rw [hE]; exact IntWalk.i64_in _ (by omega)
            obtain ⟨F, hF⟩ : ∃ F, P * p = F := ⟨_, rfl⟩
            rw [hF] at q0 q1 EQ
            have d6 : IntKind.i64.wrap (P * p) = F := by rw [hF]; exact IntWalk.i64_in _ (by omega)
            clear hA hB hC hD hE hF eT
            go_wp2_with fail
            refine (sMod (r - x) p _ (by omega) (by omega)).mono ?_
            rintro e w' ⟨rfl, rfl⟩
            rw [HA.out]
            go_wp2_with fail
            refine (sMod u p _ (by omega) (by omega)).mono ?_
            rintro e w' ⟨rfl, rfl⟩
            rw [HB.out]
            go_wp2_with fail
            go_roundw
            case rel => exact ⟨i + 1, E, F, rfl, rfl, by go_num, by omega, SS.out, EQ.out, fun k hk => by
              rcases Nat.lt_or_ge k i with h1 | h1
              · exact HK.out k h1
              · obtain rfl : k = i := by omega
                rw [ER.out]; exact hr, n + n2, rfl⟩
            case measure => simp [intOf]; omega
          · have V := Lib.hid (N3.out i hlt (by rw [ER.out]; exact hr))
            have hr' : r < -400000000 ∨ 400000000 < r := by omega
            clear hr c0 c1 m0 m1 s0 s1 q0 q1 eT eg
            go_wp2_with fail
            refine (sIsNum_f r _ hr').mono ?_
            rintro e w' ⟨rfl, rfl⟩
            go_wp2_with fail
            rw [V.out]
            exact bodyPost_ret (v := .tuple #[.int .i64 0, .int .i64 0, .bool false]) (by simp [results, Try.results13, go_sem]) rfl ⟨rfl, n, rfl⟩
        · obtain rfl : i = L := by omega
          have V := Lib.hid (DN.out x P (by first | rfl | trivial) (by first | rfl | trivial) HK.out X.out HP.out)
          go_wp2_with fail
          rw [V.out]
          exact bodyPost_ret (v := .tuple #[.int .i64 x, .int .i64 P, .bool true]) (by simp [results, Try.results13, go_sem]) rfl ⟨rfl, n, rfl⟩
    · have V := Lib.hid (N2.out hLN)
      have n1 : ((L : Int) != (N : Int)) = true := by simp; omega
      clear hLN
      go_wp2_with fail
      rw [V.out]
      exact bodyPost_ret (v := .tuple #[.int .i64 0, .int .i64 0, .bool false]) (by simp [results, Try.results13, go_sem]) rfl ⟨rfl, n0, rfl⟩
theorem sSymm (x m : Int) (w : World) : Calls Try.prog 27 #[.int .i64 x, .int .i64 m] w fun e w' => e = .returned (.tuple #[.int .i64 (symX x m).1, .bool (symX x m).2]) ∧ w = w' := by
  by_cases h1 : NumP x
  · by_cases h2 : 1 ≤ m ∧ m ≤ 400000000
    · obtain ⟨r, hr⟩ : ∃ r, x % m = r := ⟨_, rfl⟩
      have r0 : 0 ≤ r := by rw [← hr]; exact Int.emod_nonneg _ (by omega)
      have r1 : r < m := by rw [← hr]; exact Int.emod_lt_of_pos _ (by omega)
      have V := Lib.hid (symX_yes ⟨h1, h2⟩)
      have E : Hid (symM x m = if m < 2 * r then r - m else r) := by show _ = _; rw [← hr]; rfl
      have R := Lib.hid hr
      have d1 : IntKind.i64.wrap (2 * r) = 2 * r := IntWalk.i64_in _ (by omega)
      have d2 : IntKind.i64.wrap (r - m) = r - m := IntWalk.i64_in _ (by omega)
      clear hr
      go_enter Try.func27, Try.ntmps27
      go_wp2_with fail
      refine (sIsNum_t x _ h1.1 h1.2).mono ?_
      rintro e w' ⟨rfl, rfl⟩
      go_wp2_with fail
      refine (sIn_t m 1 400000000 _ h2.1 h2.2).mono ?_
      rintro e w' ⟨rfl, rfl⟩
      go_wp2_with fail
      refine (sMod x m _ (by omega) (by omega)).mono ?_
      rintro e w' ⟨rfl, rfl⟩
      rw [R.out]
      by_cases h3 : m < 2 * r
      · go_wp2_with fail
        rw [V.out, E.out, if_pos h3]
        exact bodyPost_ret (v := .tuple #[.int .i64 (r - m), .bool true]) (by simp [results, Try.results27, go_sem]) rfl ⟨rfl, rfl⟩
      · go_wp2_with fail
        rw [V.out, E.out, if_neg (by omega)]
        exact bodyPost_ret (v := .tuple #[.int .i64 r, .bool true]) (by simp [results, Try.results27, go_sem]) rfl ⟨rfl, rfl⟩
    · have V := Lib.hid (symX_no (x := x) (m := m) (fun h => h2 h.2))
      have h2' : m < 1 ∨ 400000000 < m := by omega
      clear h2
      go_enter Try.func27, Try.ntmps27
      go_wp2_with fail
      refine (sIsNum_t x _ h1.1 h1.2).mono ?_
      rintro e w' ⟨rfl, rfl⟩
      go_wp2_with fail
      refine (sIn_f m 1 400000000 _ h2').mono ?_
      rintro e w' ⟨rfl, rfl⟩
      go_wp2_with fail
      rw [V.out]
      exact bodyPost_ret (v := .tuple #[.int .i64 0, .bool false]) (by simp [results, Try.results27, go_sem]) rfl ⟨rfl, rfl⟩
  · have V := Lib.hid (symX_no (x := x) (m := m) (fun h => h1 h.1))
    have h1' : x < -400000000 ∨ 400000000 < x := by unfold NumP at h1; omega
    clear h1
    go_enter Try.func27, Try.ntmps27
    go_wp2_with fail
    refine (sIsNum_f x _ h1').mono ?_
    rintro e w' ⟨rfl, rfl⟩
    go_wp2_with fail
    rw [V.out]
    exact bodyPost_ret (v := .tuple #[.int .i64 0, .bool false]) (by simp [results, Try.results27, go_sem]) rfl ⟨rfl, rfl⟩
end Go.Proofs.Ytgemkfcapkfdbaa
end

section
/-
  Chapter 1, in the program: DivideFloor.
-/
namespace Go.Proofs.Ytgemkfcapkfdbaa
open Go.RowKit

set_option maxHeartbeats 400000 in
theorem iDiv (n d : Int) (w : World) (hn1 : -400000000 ≤ n) (hn2 : n ≤ 400000000) (hd1 : -400000000 ≤ d) (hd2 : d ≤ 400000000) (hd0 : d ≠ 0) :
    Calls Try.prog 41 #[.int .i64 n, .int .i64 d] w fun e w' => e = .returned (.tuple #[.int .i64 (n / d), .int .i64 (n % d), .bool true]) ∧ ∃ n, w' = w.drewN n := by
  have hz : (d == 0) = false := by simpa using hd0
  obtain ⟨b1, b2⟩ := tdiv_bd n d hn1 hn2
  have l := tmod_small n d hd0
  have l1 : -400000000 ≤ n.tmod d := by omega
  have l2 : n.tmod d ≤ 400000000 := by omega
  clear l
  by_cases h : n.tmod d < 0
  · have hn : n < 0 := by
      rcases Int.lt_or_le n 0 with h' | h'
      · exact h'
      · have := Int.tmod_nonneg d h'; omega
    by_cases hd : 0 < d
    · have E := Lib.hid (tdiv_down n d hd h)
      go_enter Try.func41, Try.ntmps41
      go_wp2_with (first | (go_at_call 36; refine (iIsNum_t _ _ (by omega) (by omega)).mono ?_; rintro e w' ⟨rfl, rfl⟩) | go_quiet (fail))
      go_ret3
      exact ⟨by rw [E.out.1, E.out.2]; rfl, _, rfl⟩
    · have E : Hid (n / d = n.tdiv d + 1 ∧ n % d = n.tmod d - d) := by
        obtain ⟨c, rfl⟩ : ∃ c, d = -c := ⟨-d, by omega⟩
        exact iDiv_neg n c (by omega) h
      have hd' : decide (0 < d) = false := by simpa using hd
      go_enter Try.func41, Try.ntmps41
      go_wp2_with (first | (go_at_call 36; refine (iIsNum_t _ _ (by omega) (by omega)).mono ?_; rintro e w' ⟨rfl, rfl⟩) | go_quiet (fail))
      go_ret3
      exact ⟨by rw [E.out.1, E.out.2]; rfl, _, rfl⟩
  · have E := Lib.hid (iDiv_pos n d hd0 (by omega))
    have h' : decide (n.tmod d < 0) = false := by simpa using h
    have hp : 0 ≤ n % d := Int.emod_nonneg n hd0
    have hp' : decide (n % d < 0) = false := by simpa using hp
    go_enter Try.func41, Try.ntmps41
    go_wp2_with (first | (go_at_call 36; refine (iIsNum_t _ _ (by omega) (by omega)).mono ?_; rintro e w' ⟨rfl, rfl⟩) | go_quiet (fail))
    go_ret3
    exact ⟨by rw [E.out.1, E.out.2]; rfl, _, rfl⟩

theorem iDiv_f (n d : Int) (w : World) (h : ¬ ((-400000000 ≤ n ∧ n ≤ 400000000) ∧ (-400000000 ≤ d ∧ d ≤ 400000000) ∧ d ≠ 0)) :
    Calls Try.prog 41 #[.int .i64 n, .int .i64 d] w fun e w' => e = .returned (.tuple #[.int .i64 0, .int .i64 0, .bool false]) ∧ w = w' := by
  by_cases hn : -400000000 ≤ n ∧ n ≤ 400000000
  · by_cases hd : -400000000 ≤ d ∧ d ≤ 400000000
    · have h0 : d = 0 := by omega
      subst h0
      clear h hd
      go_enter Try.func41, Try.ntmps41
      go_wp2_with fail
      refine (iIsNum_t _ _ hn.1 hn.2).mono ?_
      rintro e w' ⟨rfl, rfl⟩
      go_wp2_with fail
      refine (iIsNum_t _ _ (by omega) (by omega)).mono ?_
      rintro e w' ⟨rfl, rfl⟩
      go_wp2_with fail
      go_ret3
      exact ⟨rfl, rfl⟩
    · have hd' : d < -400000000 ∨ 400000000 < d := by omega
      clear h hd
      go_enter Try.func41, Try.ntmps41
      go_wp2_with fail
      refine (iIsNum_t _ _ hn.1 hn.2).mono ?_
      rintro e w' ⟨rfl, rfl⟩
      go_wp2_with fail
      refine (iIsNum_f _ _ hd').mono ?_
      rintro e w' ⟨rfl, rfl⟩
      go_wp2_with fail
      go_ret3
      exact ⟨rfl, rfl⟩
  · have hn' : n < -400000000 ∨ 400000000 < n := by omega
    clear h hn
    go_enter Try.func41, Try.ntmps41
    go_wp2_with fail
    refine (iIsNum_f _ _ hn').mono ?_
    rintro e w' ⟨rfl, rfl⟩
    go_wp2_with fail
    go_ret3
    exact ⟨rfl, rfl⟩

end Go.Proofs.Ytgemkfcapkfdbaa
end

section
/-
  Chapter 9, in the program: productOf, AreModuli, SymmetricOf.
-/
namespace Go.Proofs.Ytgemkfcapkfdbaa
set_option maxRecDepth 100000
open Go.RowKit

/-! ### productOf -/
def pdTo (xs : List Int) : Nat → Option Int
  | 0 => some 1
  | i + 1 => match pdTo xs i with
    | none => none
    | some P => if NumP (xs.getD i 0) ∧ NumP (P * xs.getD i 0) then some (P * xs.getD i 0) else none
def pdX (xs : List Int) : Int × Bool := match pdTo xs xs.length with | some P => (P, true) | none => (0, false)
theorem pdTo_none {xs : List Int} {i : Nat} (h : pdTo xs i = none) : ∀ j, i ≤ j → pdTo xs j = none
  | 0, hj => by obtain rfl : i = 0 := by omega
                exact h
  | j + 1, hj => by
    rcases Nat.lt_or_ge i (j + 1) with h1 | h1
    · show (match pdTo xs j with | none => none | some P => _) = none
      rw [pdTo_none h j (by omega)]
    · obtain rfl : i = j + 1 := by omega
      exact h
theorem pdTo_yes {xs : List Int} {i : Nat} {P x : Int} (h : pdTo xs i = some P) (hx : xs.getD i 0 = x) (h1 : NumP x) (h2 : NumP (P * x)) : pdTo xs (i + 1) = some (P * x) := by
  show (match pdTo xs i with | none => none | some P => if NumP (xs.getD i 0) ∧ NumP (P * xs.getD i 0) then some (P * xs.getD i 0) else none) = _
  rw [h, hx]
  exact if_pos ⟨h1, h2⟩
theorem pdTo_no {xs : List Int} {i : Nat} {P x : Int} (h : pdTo xs i = some P) (hx : xs.getD i 0 = x) (h1 : ¬ (NumP x ∧ NumP (P * x))) : pdTo xs (i + 1) = none := by
  show (match pdTo xs i with | none => none | some P => if NumP (xs.getD i 0) ∧ NumP (P * xs.getD i 0) then some (P * xs.getD i 0) else none) = _
  rw [h, hx]
  exact if_neg h1
theorem pdX_no {xs : List Int} {i : Nat} (hi : i ≤ xs.length) (h : pdTo xs i = none) : pdX xs = (0, false) := by
  unfold pdX; rw [pdTo_none h _ hi]
theorem pdX_yes {xs : List Int} {P : Int} (h : pdTo xs xs.length = some P) : pdX xs = (P, true) := by
  unfold pdX; rw [h]
theorem pdTo_says {xs : List Int} : ∀ {i : Nat} {P : Int}, pdTo xs i = some P → NumP P ∧ prodI (atL xs) i = P ∧ ∀ k, k < i → NumP (xs.getD k 0) ∧ NumP (prodI (atL xs) (k + 1))
  | 0, P, h => by
    cases h
    exact ⟨⟨by decide, by decide⟩, rfl, fun k hk => absurd hk (by omega)⟩
  | i + 1, P, h => by
    cases hb : pdTo xs i with
    | none => rw [pdTo_none hb (i + 1) (by omega)] at h; cases h
    | some Q =>
      obtain ⟨q0, q1, q2⟩ := pdTo_says hb
      by_cases h1 : NumP (xs.getD i 0) ∧ NumP (Q * xs.getD i 0)
      · rw [pdTo_yes hb rfl h1.1 h1.2] at h
        cases h
        have e : prodI (atL xs) (i + 1) = Q * xs.getD i 0 := by show prodI (atL xs) i * atL xs i = _; rw [q1]; rfl
        refine ⟨h1.2, e, fun k hk => ?_⟩
        rcases Nat.lt_or_ge k i with h2 | h2
        · exact q2 k h2
        · obtain rfl : k = i := by omega
          exact ⟨h1.1, by rw [e]; exact h1.2⟩
      · rw [pdTo_no hb rfl h1] at h; cases h
set_option maxHeartbeats 1000000 in
theorem iProd (a : Option Addr) (m : Nat) (xs : List Int) (w : World) (h : Rd w a xs) (hn : xs.length ≤ 16777216) :
    Calls Try.prog 42 #[.slice a xs.length m] w fun e w' => e = .returned (.tuple #[.int .i64 (pdX xs).1, .bool (pdX xs).2]) ∧ w = w' := by
  have YS : Hid (∀ (i : Nat) (P x : Int), pdTo xs i = some P → xs.getD i 0 = x → NumP x → NumP (P * x) → pdTo xs (i + 1) = some (P * x)) := fun i P x h1 h2 h3 h4 => pdTo_yes h1 h2 h3 h4
  have NO : Hid (∀ (i : Nat) (P x : Int), i < xs.length → pdTo xs i = some P → xs.getD i 0 = x → ¬ (NumP x ∧ NumP (P * x)) → pdX xs = (0, false)) := fun i P x h1 h2 h3 h4 => pdX_no (i := i + 1) h1 (pdTo_no h2 h3 h4)
  have DN : Hid (∀ P, pdTo xs xs.length = some P → pdX xs = (P, true)) := fun P h => pdX_yes h
  have SA : Hid (∀ i P, pdTo xs i = some P → NumP P) := fun i P h => (pdTo_says h).1
  have Z : Hid (pdTo xs 0 = some 1) := rfl
  have RD := Lib.hid h
  obtain ⟨N, hN⟩ : ∃ N, xs.length = N := ⟨_, rfl⟩
  rw [hN] at NO DN hn ⊢
  have XN := Lib.hid hN
  generalize pdX xs = RES at NO DN ⊢
  clear h hN
  go_enter Try.func42, Try.ntmps42
  go_wp2_with fail
  go_loopw [4, 9] (fun v4 v9 wr => ∃ (i : Nat) (P : Int), v4 = .int .i64 P ∧ v9 = .int .i64 i ∧ i ≤ N ∧ pdTo xs i = some P ∧ wr = w) (fun _ v9 _ => N - (intOf v9).toNat)
  case atStart => exact ⟨0, 1, rfl, rfl, by omega, Z.out, rfl⟩
  case round =>
    obtain ⟨i, P, rfl, rfl, hi, hp, rfl⟩ := hrel
    have HP := Lib.hid hp
    obtain ⟨P0, P1⟩ := SA.out i P hp
    clear hp
    by_cases hlt : i < N
    · obtain ⟨b, o, rfl, hcell⟩ := RD.out i (by rw [XN.out]; exact hlt)
      obtain ⟨x, hx⟩ : ∃ x, xs.getD i 0 = x := ⟨_, rfl⟩
      rw [hx] at hcell
      have X := Lib.hid hx
      clear hx
      by_cases hr : -400000000 ≤ x ∧ x ≤ 400000000
      · obtain ⟨c0, c1⟩ := mul_num P x ⟨P0, P1⟩ hr
        obtain ⟨Q, hQ⟩ : ∃ Q, P * x = Q := ⟨_, rfl⟩
        rw [hQ] at c0 c1
        have d1 : IntKind.i64.wrap (P * x) = Q := by rw [hQ]; exact IntWalk.i64_in _ (by omega)
        have HQ := Lib.hid hQ
        clear hQ
        by_cases hq : -400000000 ≤ Q ∧ Q ≤ 400000000
        · have S := Lib.hid (YS.out i P x HP.out X.out hr (by rw [HQ.out]; exact hq))
          rw [HQ.out] at S
          go_wp2_with fail
          refine (iIsNum_t x _ hr.1 hr.2).mono ?_
          rintro e w' ⟨rfl, rfl⟩
          go_wp2_with fail
          refine (iIsNum_t Q _ hq.1 hq.2).mono ?_
          rintro e w' ⟨rfl, rfl⟩
          go_wp2_with fail
          go_roundw
          case rel => exact ⟨i + 1, Q, rfl, by go_num, by omega, S.out, by first | rfl | trivial⟩
          case measure => simp [intOf]; omega
        · have V := Lib.hid (NO.out i P x hlt HP.out X.out (by rw [HQ.out]; exact fun h => hq h.2))
          have hq' : Q < -400000000 ∨ 400000000 < Q := by omega
          clear hq
          go_wp2_with fail
          refine (iIsNum_t x _ hr.1 hr.2).mono ?_
          rintro e w' ⟨rfl, rfl⟩
          go_wp2_with fail
          refine (iIsNum_f Q _ hq').mono ?_
          rintro e w' ⟨rfl, rfl⟩
          go_wp2_with fail
          rw [V.out]
          exact bodyPost_ret (v := .tuple #[.int .i64 0, .bool false]) (by simp [results, Try.results42, go_sem]) rfl ⟨rfl, rfl⟩
      · have V := Lib.hid (NO.out i P x hlt HP.out X.out (fun h => hr h.1))
        have hr' : x < -400000000 ∨ 400000000 < x := by omega
        clear hr
        go_wp2_with fail
        refine (iIsNum_f x _ hr').mono ?_
        rintro e w' ⟨rfl, rfl⟩
        go_wp2_with fail
        rw [V.out]
        exact bodyPost_ret (v := .tuple #[.int .i64 0, .bool false]) (by simp [results, Try.results42, go_sem]) rfl ⟨rfl, rfl⟩
    · obtain rfl : i = N := by omega
      have V := Lib.hid (DN.out P HP.out)
      go_wp2_with fail
      rw [V.out]
      exact bodyPost_ret (v := .tuple #[.int .i64 P, .bool true]) (by simp [results, Try.results42, go_sem]) rfl ⟨rfl, rfl⟩

/-! ### AreModuli -/
theorem modB_prod {l : List Int} (h : modB l = true) : pdX l = (prodI (atL l) l.length, true) := by
  obtain ⟨-, hmo, hr, hp⟩ := modB_says h
  have key : ∀ i, i ≤ l.length → pdTo l i = some (prodI (atL l) i) := by
    intro i
    induction i with
    | zero => intro _; rfl
    | succ i ih =>
      intro hi
      have h1 := hr i (by omega)
      have h2 := hp (i + 1) hi
      have h3 := (hmo.less hi).pos
      have e : prodI (atL l) (i + 1) = prodI (atL l) i * atL l i := rfl
      rw [e] at h2 h3 ⊢
      exact pdTo_yes (ih (by omega)) rfl ⟨by show -400000000 ≤ atL l i; omega, h1.2⟩ ⟨by show -400000000 ≤ prodI (atL l) i * atL l i; omega, h2⟩
  exact pdX_yes (key _ (Nat.le_refl _))
theorem modB_pair {l : List Int} (h : modB l = true) {i j : Nat} (hj : j < i) (hi : i < l.length) : (atL l j).gcd (atL l i) = 1 := by
  obtain ⟨-, hmo, -, -⟩ := modB_says h
  have h1 := (hmo i hi).2
  have h2 : atL l j ∣ prodI (atL l) i := prodI_dvd hj
  exact Nat.eq_one_of_dvd_one (by rw [← h1]; exact Int.gcd_dvd_gcd_of_dvd_left _ h2)
theorem prodI_cop {f : Nat → Int} {x : Int} : ∀ {i : Nat}, (∀ j, j < i → (f j).gcd x = 1) → (prodI f i).gcd x = 1
  | 0, _ => Int.one_gcd
  | i + 1, h => by
    show (prodI f i * f i).gcd x = 1
    have h1 := prodI_cop (i := i) fun j hj => h j (by omega)
    have h2 := h i (by omega)
    unfold Int.gcd at h1 h2 ⊢
    rw [Int.natAbs_mul]
    exact Nat.Coprime.mul_left h1 h2
theorem modB_of {l : List Int} (h8 : l.length ≤ 8) (hp : (pdX l).2 = true) (h2 : ∀ i, i < l.length → 2 ≤ atL l i) (hg : ∀ i j, j < i → i < l.length → (atL l j).gcd (atL l i) = 1) : modB l = true := by
  unfold pdX at hp
  cases hb : pdTo l l.length with
  | none => rw [hb] at hp; cases hp
  | some P =>
    obtain ⟨-, -, hs⟩ := pdTo_says hb
    exact modB_true h8 fun i hi => modOk_true ⟨h2 i hi, (hs i hi).1.2⟩ (prodI_cop fun j hj => hg i j hj hi) (hs i hi).2.2
theorem pdX_nums {l : List Int} (hp : (pdX l).2 = true) {i : Nat} (hi : i < l.length) : NumP (l.getD i 0) := by
  unfold pdX at hp
  cases hb : pdTo l l.length with
  | none => rw [hb] at hp; cases hp
  | some P => exact ((pdTo_says hb).2.2 i hi).1
set_option maxHeartbeats 2000000 in
theorem iModu (a : Option Addr) (m : Nat) (xs : List Int) (w : World) (h : Rd w a xs) (hn : xs.length ≤ 16777216) (hm : xs.length ≤ m) :
    Calls Try.prog 15 #[.slice a xs.length m] w fun e w' => e = .returned (.bool (modB xs)) ∧ ∃ n, w' = w.drewN n := by
  have LG : Hid (¬ xs.length ≤ 8 → modB xs = false) := modB_long
  have PR : Hid (Calls Try.prog 42 #[.slice a xs.length m] w fun e w' => e = .returned (.tuple #[.int .i64 (pdX xs).1, .bool (pdX xs).2]) ∧ w = w') := iProd a m xs w h hn
  have NP : Hid ((pdX xs).2 = false → modB xs = false) := fun h => by
    cases hb : modB xs with
    | false => rfl
    | true => rw [modB_prod hb] at h; cases h
  have LO : Hid (∀ (i : Nat) (x : Int), i < xs.length → xs.getD i 0 = x → x < 2 → modB xs = false) := fun i x h1 h2 h3 => modB_bad h1 (modOk_low (by show ¬ (2 ≤ xs.getD i 0 ∧ _); omega))
  have GC : Hid (∀ (i j : Nat) (x y : Int), j < i → i < xs.length → xs.getD j 0 = x → xs.getD i 0 = y → x.gcd y ≠ 1 → modB xs = false) := fun i j x y h1 h2 h3 h4 h5 => by
    cases hb : modB xs with
    | false => rfl
    | true => exact absurd (by rw [← h3, ← h4]; exact modB_pair hb h1 h2) h5
  have YS : Hid (xs.length ≤ 8 → (pdX xs).2 = true → (∀ i, i < xs.length → 2 ≤ xs.getD i 0) → (∀ i j, j < i → i < xs.length → (xs.getD j 0).gcd (xs.getD i 0) = 1) → modB xs = true) := fun h1 h2 h3 h4 => modB_of h1 h2 h3 h4
  have NU : Hid ((pdX xs).2 = true → ∀ (i : Nat) (x : Int), i < xs.length → xs.getD i 0 = x → NumP x) := fun h1 i x h2 h3 => by rw [← h3]; exact pdX_nums h1 h2
  have RD := Lib.hid h
  obtain ⟨N, hN⟩ : ∃ N, xs.length = N := ⟨_, rfl⟩
  rw [hN] at LG PR LO GC YS NU hn hm ⊢
  have XN := Lib.hid hN
  generalize pdX xs = PX at PR NP YS NU
  generalize modB xs = bb at LG NP LO GC YS ⊢
  obtain ⟨pv, pb⟩ := PX
  clear h hN
  by_cases h8 : N ≤ 8
  · go_enter Try.func15, Try.ntmps15
    go_wp2_with fail
    refine PR.out.mono ?_
    rintro e w1 ⟨rfl, rfl⟩
    cases pb with
    | false =>
      have V := Lib.hid (NP.out rfl)
      go_wp2_with fail
      go_ret
      exact ⟨by rw [V.out]; rfl, 0, rfl⟩
    | true =>
      go_wp2_with fail
      go_loopw [21] (fun v21 wr => ∃ i : Nat, v21 = .int .i64 i ∧ i ≤ N ∧ (∀ k, k < i → 2 ≤ xs.getD k 0 ∧ ∀ j, j < k → (xs.getD j 0).gcd (xs.getD k 0) = 1) ∧ ∃ n, wr = w.drewN n) (fun v21 _ => N - (intOf v21).toNat)
      case atStart => exact ⟨0, rfl, by omega, fun k hk => by omega, 0, rfl⟩
      case round =>
        obtain ⟨i, rfl, hi, hk, n, rfl⟩ := hrel
        have HK := Lib.hid hk
        clear hk
        by_cases hlt : i < N
        · obtain ⟨b, o, rfl, hcell⟩ := (RD.out.drewN n) i (by rw [XN.out]; exact hlt)
          obtain ⟨x, hx⟩ : ∃ x, xs.getD i 0 = x := ⟨_, rfl⟩
          rw [hx] at hcell
          have X := Lib.hid hx
          clear hx
          obtain ⟨x0, x1⟩ := NU.out (by first | rfl | trivial) i x hlt X.out
          by_cases h2 : x < 2
          · have V := Lib.hid (LO.out i x hlt X.out h2)
            go_wp2_with fail
            go_ret
            exact ⟨by rw [V.out]; rfl, n, rfl⟩
          · go_wp2_with fail
            go_loopw [32] (fun v32 wr => ∃ j : Nat, v32 = .int .i64 j ∧ j ≤ i ∧ (∀ k, k < j → (xs.getD k 0).gcd x = 1) ∧ ∃ n, wr = w.drewN n) (fun v32 _ => i - (intOf v32).toNat)
            case atStart => exact ⟨0, rfl, by omega, fun k hk => by omega, n, rfl⟩
            case round =>
              obtain ⟨j, rfl, hj, hg, n2, rfl⟩ := hrel
              have HG := Lib.hid hg
              clear hg hcell
              by_cases hlj : j < i
              · obtain ⟨b', o', e', hcell⟩ := (RD.out.drewN n2) j (by rw [XN.out]; omega)
                cases e'
                obtain ⟨y, hy⟩ : ∃ y, xs.getD j 0 = y := ⟨_, rfl⟩
                rw [hy] at hcell
                have Y := Lib.hid hy
                clear hy
                obtain ⟨y0, y1⟩ := NU.out (by first | rfl | trivial) j y (by omega) Y.out
                by_cases hg1 : y.gcd x = 1
                · have g1 : ((y.gcd x : Nat) : Int) = 1 := by rw [hg1]; rfl
                  go_wp2_with fail
                  refine (iGcd y x _ ⟨y0, y1⟩ ⟨x0, x1⟩).mono ?_
                  rintro e w' ⟨rfl, k, rfl⟩
                  rw [g1]
                  clear g1
                  go_wp2_with fail
                  go_roundw
                  case rel => exact ⟨j + 1, by go_num, by omega, fun k hk => by
                    rcases Nat.lt_or_ge k j with h1 | h1
                    · exact HG.out k h1
                    · obtain rfl : k = j := by omega
                      rw [Y.out]; exact hg1, n2 + k, rfl⟩
                  case measure => simp [intOf]; omega
                · have V := Lib.hid (GC.out i j y x hlj hlt Y.out X.out hg1)
                  have g0 : y.gcd x ≠ 0 := fun e => by
                    have := Int.gcd_eq_zero_iff.mp e
                    omega
                  have g1 : decide (((y.gcd x : Nat) : Int) > 1) = true := by simp; omega
                  go_wp2_with fail
                  refine (iGcd y x _ ⟨y0, y1⟩ ⟨x0, x1⟩).mono ?_
                  rintro e w' ⟨rfl, k, rfl⟩
                  generalize ((y.gcd x : Nat) : Int) = gg at g1 ⊢
                  clear g0 hg1
                  go_wp2_with fail
                  go_ret
                  exact ⟨by rw [V.out]; rfl, n2 + k, rfl⟩
              · obtain rfl : j = i := by omega
                go_wp2_with fail
                go_roundw
                case rel => exact ⟨j + 1, by go_num, by omega, fun k hk => by
                  rcases Nat.lt_or_ge k j with h1 | h1
                  · exact HK.out k h1
                  · obtain rfl : k = j := by omega
                    rw [X.out]; exact ⟨by omega, HG.out⟩, n2, by first | rfl | trivial⟩
                case measure => simp [intOf]; omega
        · obtain rfl : i = N := by omega
          have V := Lib.hid (YS.out h8 (by first | rfl | trivial) (fun k hk => (HK.out k hk).1) (fun k j h1 h2 => (HK.out k h2).2 j h1))
          go_wp2_with fail
          go_ret
          exact ⟨by rw [V.out]; rfl, n, rfl⟩
  · have V := Lib.hid (LG.out h8)
    have n0 : decide (((N : Nat) : Int) > 8) = true := by simp; omega
    go_enter Try.func15, Try.ntmps15
    go_wp2_with fail
    go_ret
    exact ⟨by rw [V.out]; rfl, 0, rfl⟩

/-! ### SymmetricOf -/
theorem iSymm (x m : Int) (w : World) : Calls Try.prog 14 #[.int .i64 x, .int .i64 m] w fun e w' => e = .returned (.tuple #[.int .i64 (symX x m).1, .bool (symX x m).2]) ∧ ∃ n, w' = w.drewN n := by
  by_cases h1 : NumP x ∧ 1 ≤ m ∧ m ≤ 400000000
  · obtain ⟨⟨x0, x1⟩, m0, m1⟩ := h1
    obtain ⟨r, hr⟩ : ∃ r, x % m = r := ⟨_, rfl⟩
    have r0 : 0 ≤ r := by rw [← hr]; exact Int.emod_nonneg _ (by omega)
    have r1 : r < m := by rw [← hr]; exact Int.emod_lt_of_pos _ (by omega)
    have V := Lib.hid (symX_yes (x := x) (m := m) ⟨⟨x0, x1⟩, m0, m1⟩)
    have E : Hid (symM x m = if m < 2 * r then r - m else r) := by show _ = _; rw [← hr]; rfl
    have R := Lib.hid hr
    have d1 : IntKind.i64.wrap (2 * r) = 2 * r := IntWalk.i64_in _ (by omega)
    have d2 : IntKind.i64.wrap (r - m) = r - m := IntWalk.i64_in _ (by omega)
    clear hr
    go_enter Try.func14, Try.ntmps14
    go_wp2_with fail
    refine (iDiv x m _ x0 x1 (by omega) (by omega) (by omega)).mono ?_
    rintro e w' ⟨rfl, n, rfl⟩
    rw [R.out]
    by_cases h3 : m < 2 * r
    · go_wp2_with fail
      rw [V.out, E.out, if_pos h3]
      exact bodyPost_ret (v := .tuple #[.int .i64 (r - m), .bool true]) (by simp [results, Try.results14, go_sem]) rfl ⟨rfl, n, rfl⟩
    · go_wp2_with fail
      rw [V.out, E.out, if_neg (by omega)]
      exact bodyPost_ret (v := .tuple #[.int .i64 r, .bool true]) (by simp [results, Try.results14, go_sem]) rfl ⟨rfl, n, rfl⟩
  · have V := Lib.hid (symX_no h1)
    by_cases h2 : (-400000000 ≤ x ∧ x ≤ 400000000) ∧ (-400000000 ≤ m ∧ m ≤ 400000000) ∧ m ≠ 0
    · obtain ⟨⟨x0, x1⟩, ⟨m0, m1⟩, mz⟩ := h2
      have n0 : decide (m < 1) = true := by simp; unfold NumP at h1; omega
      have mz' : m ≠ 0 := mz
      generalize x % m = r
      clear h1
      go_enter Try.func14, Try.ntmps14
      go_wp2_with fail
      refine (iDiv x m _ x0 x1 m0 m1 mz').mono ?_
      rintro e w' ⟨rfl, n, rfl⟩
      clear mz mz'
      go_wp2_with fail
      rw [V.out]
      exact bodyPost_ret (v := .tuple #[.int .i64 0, .bool false]) (by simp [results, Try.results14, go_sem]) rfl ⟨rfl, n, rfl⟩
    · clear h1
      go_enter Try.func14, Try.ntmps14
      go_wp2_with fail
      refine (iDiv_f x m _ h2).mono ?_
      rintro e w' ⟨rfl, rfl⟩
      clear h2
      go_wp2_with fail
      rw [V.out]
      exact bodyPost_ret (v := .tuple #[.int .i64 0, .bool false]) (by simp [results, Try.results14, go_sem]) rfl ⟨rfl, 0, rfl⟩
end Go.Proofs.Ytgemkfcapkfdbaa
end
