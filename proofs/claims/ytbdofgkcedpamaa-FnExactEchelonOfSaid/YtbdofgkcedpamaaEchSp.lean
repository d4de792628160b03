/-
  Chapter 7, in the model: SameSpace.
-/
import Derived.Test.YtbdofgkcedpamaaEchT
import Derived.StillTailTactics
import Derived.BigQuiet
namespace Go.Proofs.Ytbdofgkcedpamaa
set_option maxRecDepth 100000
open Go.RowKit

theorem echR_ok {r c : Int} {xs : List Int} (h : (echR r c xs).ok = true) : isMat r c xs = true ∧ ∃ (R C : Nat) (ys : List Int) (pv : List Nat), r = R ∧ c = C ∧ R ≤ 24 ∧ C ≤ 24 ∧ xs.length = R * C ∧ nums xs = true ∧ echM R C xs = some (ys, pv) ∧ echR r c xs = ⟨R, C, ys, pvI pv, true⟩ ∧ ys.length = R * C ∧ pv.length ≤ R := by
  unfold echR at h
  by_cases hm : isMat r c xs = true
  · rw [if_pos hm] at h
    obtain ⟨⟨r0, r1⟩, ⟨c0, c1⟩, hl, nx⟩ := isMat_says hm
    obtain ⟨R, rfl⟩ := Int.eq_ofNat_of_zero_le r0
    obtain ⟨C, rfl⟩ := Int.eq_ofNat_of_zero_le c0
    have hx : xs.length = R * C := by rw [← Int.natCast_mul] at hl; omega
    have e1 : echR R C xs = ER.of R C (echM R C xs) := if_pos hm
    cases he : echM R C xs with
    | none =>
      have h2 : (ER.of R C (echM R C xs)).ok = true := h
      rw [he] at h2; exact absurd h2 (by simp [ER.of, ER.no])
    | some o =>
      obtain ⟨ys, pv⟩ := o
      obtain ⟨h1, -, -, h4, -, -⟩ := echM_says hx nx he
      rw [he] at e1
      exact ⟨hm, R, C, ys, pv, rfl, rfl, by omega, by omega, hx, nx, he, e1, h4, h1.le⟩
  · rw [if_neg hm] at h; exact absurd h (by simp [ER.no])
def spOf (r c : Int) (xs : List Int) (r2 c2 : Int) (ys : List Int) : Bool × Bool :=
  if (echR r c xs).ok = true ∧ (echR r2 c2 ys).ok = true ∧ c = c2 then
    (decide ((echR r c xs).pv.length = (echR r2 c2 ys).pv.length) && decide (∀ i, i < (echR r c xs).pv.length * c.toNat → (echR r c xs).zs.getD i 0 = (echR r2 c2 ys).zs.getD i 0), true)
  else (false, false)
structure SpSt (w : World) (s2 x y : Nat) (r c r2 c2 : Int) (a a2 qa qd : Option Addr) (L m L2 m2 ca cd : Nat) (A D : ER) (wr : World) : Prop where
  b1 : Blk3 wr w.heap.size 26 (.int .i64 r) (.int .i64 c) (.slice a L m)
  b2 : Blk3 wr s2 26 (.int .i64 r2) (.int .i64 c2) (.slice a2 L2 m2)
  bx : Blk3 wr x 26 (.int .i64 A.r) (.int .i64 A.c) (.slice qa A.zs.length ca)
  by_ : Blk3 wr y 26 (.int .i64 D.r) (.int .i64 D.c) (.slice qd D.zs.length cd)
  rx : Rd wr qa A.zs
  ry : Rd wr qd D.zs
  bel : Below w.heap.size w wr
theorem SpSt.drewN {w : World} {s2 x y : Nat} {r c r2 c2 : Int} {a a2 qa qd : Option Addr} {L m L2 m2 ca cd : Nat} {A D : ER} {wr : World} (h : SpSt w s2 x y r c r2 c2 a a2 qa qd L m L2 m2 ca cd A D wr) (n : Nat) : SpSt w s2 x y r c r2 c2 a a2 qa qd L m L2 m2 ca cd A D (wr.drewN n) :=
  ⟨h.b1.drewN n, h.b2.drewN n, h.bx.drewN n, h.by_.drewN n, h.rx.drewN n, h.ry.drewN n, below_drewN h.bel n⟩
set_option maxHeartbeats 2000000 in
theorem sSameSpace (r c : Int) (a : Option Addr) (m : Nat) (xs : List Int) (r2 c2 : Int) (a2 : Option Addr) (m2 : Nat) (ys : List Int) (w : World) (h : Rd w a xs) (hn : xs.length ≤ 16777216) (ha : Spot a) (h2 : Rd w a2 ys) (hn2 : ys.length ≤ 16777216) (ha2 : Spot a2) :
    Calls Try.prog 26 #[.agg #[.int .i64 r, .int .i64 c, .slice a xs.length m], .agg #[.int .i64 r2, .int .i64 c2, .slice a2 ys.length m2]] w (Gives (.tuple #[.bool (spOf r c xs r2 c2 ys).1, .bool (spOf r c xs r2 c2 ys).2]) w) := by
  have E1 : Hid (∀ w', Below w.heap.size w w' → Calls Try.prog 13 #[.agg #[.int .i64 r, .int .i64 c, .slice a xs.length m]] w' (EchG w' (echR r c xs))) := fun w' hb => sEchelonOf r c a m xs w' (h.below hb) hn ha
  have E2 : Hid (∀ w', Below w.heap.size w w' → Calls Try.prog 13 #[.agg #[.int .i64 r2, .int .i64 c2, .slice a2 ys.length m2]] w' (EchG w' (echR r2 c2 ys))) := fun w' hb => sEchelonOf r2 c2 a2 m2 ys w' (h2.below hb) hn2 ha2
  have O1 : Hid ((echR r c xs).ok = true → ∃ R C : Nat, r = R ∧ c = C ∧ R ≤ 24 ∧ C ≤ 24 ∧ (echR r c xs).zs.length = R * C ∧ (echR r c xs).pv.length ≤ R) := fun ho => by
    obtain ⟨-, R, C, us, pv, e1, e2, h1, h2, -, -, -, e3, h4, h5⟩ := echR_ok ho
    exact ⟨R, C, e1, e2, h1, h2, by rw [e3]; exact h4, by rw [e3]; show (pvI pv).length ≤ R; rw [pvI_length]; exact h5⟩
  have O2 : Hid ((echR r2 c2 ys).ok = true → ∃ R C : Nat, r2 = R ∧ c2 = C ∧ R ≤ 24 ∧ C ≤ 24 ∧ (echR r2 c2 ys).zs.length = R * C ∧ (echR r2 c2 ys).pv.length ≤ R) := fun ho => by
    obtain ⟨-, R, C, us, pv, e1, e2, h1, h2, -, -, -, e3, h4, h5⟩ := echR_ok ho
    exact ⟨R, C, e1, e2, h1, h2, by rw [e3]; exact h4, by rw [e3]; show (pvI pv).length ≤ R; rw [pvI_length]; exact h5⟩
  have PF : Hid (¬ ((echR r c xs).ok = true ∧ (echR r2 c2 ys).ok = true ∧ c = c2) → spOf r c xs r2 c2 ys = (false, false)) := fun h => if_neg h
  have PT : Hid ((echR r c xs).ok = true → (echR r2 c2 ys).ok = true → c = c2 → spOf r c xs r2 c2 ys = (decide ((echR r c xs).pv.length = (echR r2 c2 ys).pv.length) && decide (∀ i, i < (echR r c xs).pv.length * c.toNat → (echR r c xs).zs.getD i 0 = (echR r2 c2 ys).zs.getD i 0), true)) := fun h1 h2 h3 => if_pos ⟨h1, h2, h3⟩
  generalize spOf r c xs r2 c2 ys = P at PF PT ⊢
  generalize echR r c xs = A at E1 O1 PF PT ⊢
  generalize echR r2 c2 ys = D at E2 O2 PF PT ⊢
  clear h hn ha h2 hn2 ha2
  generalize xs.length = L at E1 ⊢
  generalize ys.length = L2 at E2 ⊢
  go_enter Try.func26, Try.ntmps26
  go_upto_region 1 with fail
  have K0 : Hid (Blk3 ((w.alloc (.cells #[.int .i64 r, .int .i64 c, .slice a L m] 26)).alloc (.cells #[.int .i64 r2, .int .i64 c2, .slice a2 L2 m2] 26)) w.heap.size 26 (.int .i64 r) (.int .i64 c) (.slice a L m)) := (Blk3.at_ _ _ _ _ rfl).old _
  have K1 : Hid (Blk3 ((w.alloc (.cells #[.int .i64 r, .int .i64 c, .slice a L m] 26)).alloc (.cells #[.int .i64 r2, .int .i64 c2, .slice a2 L2 m2] 26)) (w.heap.size + 1) 26 (.int .i64 r2) (.int .i64 c2) (.slice a2 L2 m2)) := Blk3.at_ _ _ _ _ (by simp)
  have B0 : Hid (Below w.heap.size w ((w.alloc (.cells #[.int .i64 r, .int .i64 c, .slice a L m] 26)).alloc (.cells #[.int .i64 r2, .int .i64 c2, .slice a2 L2 m2] 26))) := ((Below.refl _ _).alloc (Nat.le_refl _) _).alloc (by simp) _
  generalize (w.alloc (.cells #[.int .i64 r, .int .i64 c, .slice a L m] 26)).alloc (.cells #[.int .i64 r2, .int .i64 c2, .slice a2 L2 m2] 26) = W0 at K0 K1 B0 ⊢
  obtain ⟨p0, p1, p2, -, -, -⟩ := K0.out.all
  go_wp2_with fail
  refine (E1.out _ B0.out).mono ?_
  rintro e w1 ⟨va, vb, rfl, oa, ob, hd, hb⟩
  obtain ⟨qa, ca, hva, hra, -⟩ := oa.form
  obtain ⟨qb, cb, hvb, -, -⟩ := ob.form
  subst hva hvb
  have sb := hb.size
  have K0 := Lib.hid ((K0.out.step hb).old (.cells #[.int .i64 A.r, .int .i64 A.c, .slice qa A.zs.length ca] 26))
  have K1 := Lib.hid ((K1.out.step hb).old (.cells #[.int .i64 A.r, .int .i64 A.c, .slice qa A.zs.length ca] 26))
  have Bx := B0.out.trans (hb.mono B0.out.size)
  have B1 := Lib.hid (Bx.alloc Bx.size (.cells #[.int .i64 A.r, .int .i64 A.c, .slice qa A.zs.length ca] 26))
  have X1 : Hid (Blk3 (w1.alloc (.cells #[.int .i64 A.r, .int .i64 A.c, .slice qa A.zs.length ca] 26)) w1.heap.size 26 (.int .i64 A.r) (.int .i64 A.c) (.slice qa A.zs.length ca)) := Blk3.at_ _ _ _ _ rfl
  have RX := Lib.hid (hra.below ((Below.refl _ _).alloc (Nat.le_refl _) (.cells #[.int .i64 A.r, .int .i64 A.c, .slice qa A.zs.length ca] 26)))
  clear hb oa ob hd p0 p1 p2 Bx hra sb
  go_upto_region 2 with fail
  generalize w1.alloc (.cells #[.int .i64 A.r, .int .i64 A.c, .slice qa A.zs.length ca] 26) = W1 at K0 K1 B1 X1 RX ⊢
  obtain ⟨p0, p1, p2, -, -, -⟩ := K1.out.all
  go_wp2_with fail
  refine (E2.out _ B1.out).mono ?_
  rintro e w2 ⟨vc, vd, rfl, oc, od, hd, hb⟩
  obtain ⟨qd, cd, hvc, hrd, -⟩ := oc.form
  obtain ⟨qe, ce, hvd, -, -⟩ := od.form
  subst hvc hvd
  have Bx := B1.out.trans (hb.mono B1.out.size)
  have ST : Hid (SpSt w (w.heap.size + 1) w1.heap.size w2.heap.size r c r2 c2 a a2 qa qd L m L2 m2 ca cd A D (w2.alloc (.cells #[.int .i64 D.r, .int .i64 D.c, .slice qd D.zs.length cd] 26))) := ⟨(K0.out.step hb).old _, (K1.out.step hb).old _, (X1.out.step hb).old _, Blk3.at_ _ _ _ _ rfl, (RX.out.below hb).below ((Below.refl _ _).alloc (Nat.le_refl _) _), hrd.below ((Below.refl _ _).alloc (Nat.le_refl _) _), Bx.alloc Bx.size _⟩
  clear hb oc od hd p0 p1 p2 Bx hrd K0 K1 X1 RX B1 B0
  go_upto_region 3 with fail
  generalize w2.alloc (.cells #[.int .i64 D.r, .int .i64 D.c, .slice qd D.zs.length cd] 26) = W2 at ST ⊢
  obtain ⟨p0, p1, p2, -, -, -⟩ := ST.out.b1.all
  obtain ⟨t0, t1, t2, -, -, -⟩ := ST.out.b2.all
  have BL := Lib.hid ST.out.bel
  generalize A.ok = k1 at O1 PF PT ⊢
  generalize D.ok = k2 at O2 PF PT ⊢
  cases k1 with
  | false =>
    have PN := Lib.hid (PF.out (fun h => absurd h.1 (by decide)))
    go_wp2_with fail
    exact bodyPost_ret (v := .tuple #[.bool false, .bool false]) (by simp [results, Try.results26, go_sem]) rfl ⟨by rw [PN.out], BL.out⟩
  | true =>
    cases k2 with
    | false =>
      have PN := Lib.hid (PF.out (fun h => absurd h.2.1 (by decide)))
      go_wp2_with fail
      exact bodyPost_ret (v := .tuple #[.bool false, .bool false]) (by simp [results, Try.results26, go_sem]) rfl ⟨by rw [PN.out], BL.out⟩
    | true =>
      by_cases hc : c = c2
      · subst hc
        obtain ⟨R, C, rfl, rfl, hR, hC, hz, hp⟩ := O1.out rfl
        obtain ⟨R2, C2, -, e2, hR2, hC2, hz2, hp2⟩ := O2.out rfl
        obtain rfl : C = C2 := by omega
        have PP := Lib.hid (PT.out rfl rfl rfl)
        have n1 : ((C : Int) != (C : Int)) = false := by simp
        generalize hna : A.pv.length = na at hp PP ⊢
        generalize hnd : D.pv.length = nd at hp2 PP ⊢
        clear e2 PF PT O1 O2 hna hnd
        have l1 : na * C ≤ R * C := Nat.mul_le_mul_right _ hp
        have l2 : nd * C ≤ R2 * C := Nat.mul_le_mul_right _ hp2
        have l3 : R * C ≤ 24 * 24 := Nat.mul_le_mul hR hC
        rw [← hz] at l1
        rw [← hz2] at l2
        rw [← hz] at l3
        have HL1 := Lib.hid l1
        have HL2 := Lib.hid l2
        have T2 : Hid (A.zs.length ≤ 576) := l3
        have n5 : IntKind.i64.wrap ((na : Int) * (C : Int)) = ((na * C : Nat) : Int) := by
          rw [← Int.natCast_mul]; exact IntWalk.i64_in _ (by omega)
        have PQ : Hid (P = (decide (na = nd) && decide (∀ i, i < na * C → A.zs.getD i 0 = D.zs.getD i 0), true)) := by
          have h := PP.out
          rw [show (C : Int).toNat = C from by omega] at h
          exact h
        clear l1 l2 l3 hz hz2 PP hp hp2
        by_cases hl : na = nd
        · subst hl
          have n2 : ((na : Int) != (na : Int)) = false := by simp
          generalize hT : na * C = T at HL1 HL2 n5 PQ
          clear hT
          go_wp2_with fail
          clear p0 p1 p2 t0 t1 t2
          go_loopw [4, 5, 12] (fun _ _ v12 wr => ∃ i : Nat, v12 = .int .i64 i ∧ i ≤ T ∧ (∀ k, k < i → A.zs.getD k 0 = D.zs.getD k 0) ∧ SpSt w (w.heap.size + 1) w1.heap.size w2.heap.size R C r2 C a a2 qa qd L m L2 m2 ca cd A D wr) (fun _ _ v12 _ => T - (intOf v12).toNat)
          case atStart => exact ⟨0, rfl, by omega, fun k hk => by omega, ST.out⟩
          case round =>
            clear ST BL
            obtain ⟨i, rfl, hi, hsame, hst⟩ := hrel
            have ST := Lib.hid hst
            have SM := Lib.hid hsame
            have BL := Lib.hid hst.bel
            clear hst hsame
            obtain ⟨p0, p1, p2, -, -, -⟩ := ST.out.b1.all
            obtain ⟨x0, x1, x2, -, -, -⟩ := ST.out.bx.all
            obtain ⟨y0, y1, y2, -, -, -⟩ := ST.out.by_.all
            have h1 := HL1.out
            have h576 := T2.out
            have h2 := HL2.out
            by_cases hlt : i < T
            · obtain ⟨bx, ox, hqx, hcx⟩ := ST.out.rx i (by omega)
              obtain ⟨bd, od, hqd, hcd⟩ := ST.out.ry i (by omega)
              subst hqx hqd
              have i1 : (i : Int) < (A.zs.length : Int) := by omega
              have i2 : (i : Int) < (D.zs.length : Int) := by omega
              have i0 : (0 : Int) ≤ (i : Int) := by omega
              generalize A.zs.length = la at x2 i1 h1 h576 ST HL1 T2
              generalize D.zs.length = ld at y2 i2 h2 ST HL2
              obtain ⟨vx, hvx⟩ : ∃ vx, A.zs.getD i 0 = vx := ⟨_, rfl⟩
              obtain ⟨vy, hvy⟩ : ∃ vy, D.zs.getD i 0 = vy := ⟨_, rfl⟩
              have VX := Lib.hid hvx
              have VY := Lib.hid hvy
              rw [hvx] at hcx
              rw [hvy] at hcd
              clear hvx hvy
              by_cases he : vx = vy
              · have n3 : (vx != vy) = false := by simp [he]
                have SM2 : Hid (∀ k, k < i + 1 → A.zs.getD k 0 = D.zs.getD k 0) := fun k hk => by
                  rcases Nat.lt_or_ge k i with h3 | h3
                  · exact SM.out k h3
                  · obtain rfl : k = i := by omega
                    rw [VX.out, VY.out, he]
                clear he
                go_wp2_with fail
                go_quiet (fail)
                go_wp2_with fail
                go_roundw
                case rel => exact ⟨i + 1, by go_num, by omega, SM2.out, by first | exact ST.out | exact ST.out.drewN _⟩
                case measure => simp [intOf]; omega
              · have n3 : (vx != vy) = true := by simpa using he
                have PN : Hid (P = (false, true)) := by
                  show P = _
                  rw [PQ.out, decide_eq_false (p := ∀ i, i < T → A.zs.getD i 0 = D.zs.getD i 0) (fun h => he (by rw [← VX.out, ← VY.out]; exact h i hlt))]
                  simp
                clear he
                go_wp2_with fail
                go_quiet (fail)
                go_wp2_with fail
                exact bodyPost_ret (v := .tuple #[.bool false, .bool true]) (by simp [results, Try.results26, go_sem]) rfl ⟨by rw [PN.out], by first | exact BL.out | exact below_drewN BL.out _⟩
            · have PN : Hid (P = (true, true)) := by
                show P = _
                rw [PQ.out, decide_eq_true (p := ∀ i, i < T → A.zs.getD i 0 = D.zs.getD i 0) (fun k hk => SM.out k (by omega))]
                simp
              go_wp2_with fail
              exact bodyPost_ret (v := .tuple #[.bool true, .bool true]) (by simp [results, Try.results26, go_sem]) rfl ⟨by rw [PN.out], BL.out⟩
        · have n2 : ((na : Int) != (nd : Int)) = true := by simp; omega
          have PN : Hid (P = (false, true)) := by show P = _; rw [PQ.out, decide_eq_false hl]; rfl
          clear hl
          go_wp2_with fail
          exact bodyPost_ret (v := .tuple #[.bool false, .bool true]) (by simp [results, Try.results26, go_sem]) rfl ⟨by rw [PN.out], BL.out⟩
      · have n1 : (c != c2) = true := by simpa using hc
        have hc2 := hc
        clear hc
        have PN := Lib.hid (PF.out (fun h => hc2 h.2.2))
        clear hc2
        go_wp2_with fail
        exact bodyPost_ret (v := .tuple #[.bool false, .bool false]) (by simp [results, Try.results26, go_sem]) rfl ⟨by rw [PN.out], BL.out⟩
end Go.Proofs.Ytbdofgkcedpamaa
