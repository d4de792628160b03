/-
  Texts of this seat, joined: EsI
-/
import Derived.Test.YtbdofgkcedpamaaPk6

section
/-
  Chapter 7, in the program: SameSpace.
-/
namespace Go.Proofs.Ytbdofgkcedpamaa
set_option maxRecDepth 100000
open Go.RowKit

theorem Own.form2 {B : Nat} {w : World} {v : Value} {zs : List Int} (h : Own B w v zs) : ∃ (a : Option Addr) (cap : Nat), v = .slice a zs.length cap ∧ Rd w a zs ∧ zs.length ≤ 16777216 ∧ Spot a ∧ zs.length ≤ cap ∧ (a = none → cap = 0) := by
  rcases h with ⟨rfl, rfl⟩ | ⟨g, cap, rfl, _, hi, hl, hc⟩
  · exact ⟨none, 0, rfl, Rd.nil _ _, by simp, .inl rfl, Nat.le_refl _, fun _ => rfl⟩
  · exact ⟨_, _, rfl, hi.rd, hc, .inr ⟨g, 0, rfl⟩, hl, fun h => by cases h⟩
theorem pv_none {r c : Nat} {xs ys : List Int} {pv : List Nat} (hc : c = 0) (h : echM r c xs = some (ys, pv)) : pv.length = 0 := by
  subst hc
  injection h with h
  injection h with h1 h2
  rw [← h2]; rfl
theorem same_take {na nd c : Nat} {xs ys : List Int} (h1 : na * c ≤ xs.length) (h2 : nd * c ≤ ys.length) (z1 : c = 0 → na = 0) (z2 : c = 0 → nd = 0) : decide (xs.take (na * c) = ys.take (nd * c)) = (decide (na = nd) && decide (∀ i, i < na * c → xs.getD i 0 = ys.getD i 0)) := by
  have e1 : (xs.take (na * c)).length = na * c := by rw [List.length_take]; omega
  have e2 : (ys.take (nd * c)).length = nd * c := by rw [List.length_take]; omega
  by_cases hn : na = nd
  · subst hn
    rw [decide_eq_true (p := na = na) rfl, Bool.true_and]
    congr 1
    refine propext ⟨fun h i hi => ?_, fun h => ?_⟩
    · have h3 : (xs.take (na * c)).getD i 0 = (ys.take (na * c)).getD i 0 := by rw [h]
      simpa [List.getD, hi] using h3
    · refine List.ext_getElem (by rw [e1, e2]) fun i h3 h4 => ?_
      rw [e1] at h3
      have h5 := h i h3
      simp only [List.getElem_take]
      simpa [List.getD, show i < xs.length by omega, show i < ys.length by omega] using h5
  · rw [decide_eq_false hn, Bool.false_and]
    refine decide_eq_false fun h => hn ?_
    have h3 : na * c = nd * c := by rw [← e1, ← e2, h]
    rcases Nat.eq_zero_or_pos c with h0 | h0
    · rw [z1 h0, z2 h0]
    · exact Nat.eq_of_mul_eq_mul_right h0 h3
set_option maxHeartbeats 2000000 in
theorem iSameSpace (r c : Int) (a : Option Addr) (m : Nat) (xs : List Int) (r2 c2 : Int) (a2 : Option Addr) (m2 : Nat) (ys : List Int) (w : World) (h : Rd w a xs) (hn : xs.length ≤ 16777216) (h2 : Rd w a2 ys) (hn2 : ys.length ≤ 16777216) :
    Calls Try.prog 27 #[.agg #[.int .i64 r, .int .i64 c, .slice a xs.length m], .agg #[.int .i64 r2, .int .i64 c2, .slice a2 ys.length m2]] w (Gives (.tuple #[.bool (spOf r c xs r2 c2 ys).1, .bool (spOf r c xs r2 c2 ys).2]) w) := by
  have E1 : Hid (∀ w', Below w.heap.size w w' → Calls Try.prog 15 #[.agg #[.int .i64 r, .int .i64 c, .slice a xs.length m]] w' (EchG w' (echR r c xs))) := fun w' hb => iEchelonOf r c a m xs w' (h.below hb) hn
  have E2 : Hid (∀ w', Below w.heap.size w w' → Calls Try.prog 15 #[.agg #[.int .i64 r2, .int .i64 c2, .slice a2 ys.length m2]] w' (EchG w' (echR r2 c2 ys))) := fun w' hb => iEchelonOf r2 c2 a2 m2 ys w' (h2.below hb) hn2
  have O1 : Hid ((echR r c xs).ok = true → ∃ R C : Nat, r = R ∧ c = C ∧ R ≤ 24 ∧ C ≤ 24 ∧ (echR r c xs).zs.length = R * C ∧ (echR r c xs).pv.length ≤ R ∧ (C = 0 → (echR r c xs).pv.length = 0)) := fun ho => by
    obtain ⟨-, R, C, us, pv, e1, e2, h1, h2, -, -, he, e3, h4, h5⟩ := echR_ok ho
    exact ⟨R, C, e1, e2, h1, h2, by rw [e3]; exact h4, by rw [e3]; show (pvI pv).length ≤ R; rw [pvI_length]; exact h5, fun hC => by rw [e3]; show (pvI pv).length = 0; rw [pvI_length]; exact pv_none hC he⟩
  have O2 : Hid ((echR r2 c2 ys).ok = true → ∃ R C : Nat, r2 = R ∧ c2 = C ∧ R ≤ 24 ∧ C ≤ 24 ∧ (echR r2 c2 ys).zs.length = R * C ∧ (echR r2 c2 ys).pv.length ≤ R ∧ (C = 0 → (echR r2 c2 ys).pv.length = 0)) := fun ho => by
    obtain ⟨-, R, C, us, pv, e1, e2, h1, h2, -, -, he, e3, h4, h5⟩ := echR_ok ho
    exact ⟨R, C, e1, e2, h1, h2, by rw [e3]; exact h4, by rw [e3]; show (pvI pv).length ≤ R; rw [pvI_length]; exact h5, fun hC => by rw [e3]; show (pvI pv).length = 0; rw [pvI_length]; exact pv_none hC he⟩
  have PF : Hid (¬ ((echR r c xs).ok = true ∧ (echR r2 c2 ys).ok = true ∧ c = c2) → spOf r c xs r2 c2 ys = (false, false)) := fun h => if_neg h
  have PT : Hid ((echR r c xs).ok = true → (echR r2 c2 ys).ok = true → c = c2 → spOf r c xs r2 c2 ys = (decide ((echR r c xs).pv.length = (echR r2 c2 ys).pv.length) && decide (∀ i, i < (echR r c xs).pv.length * c.toNat → (echR r c xs).zs.getD i 0 = (echR r2 c2 ys).zs.getD i 0), true)) := fun h1 h2 h3 => if_pos ⟨h1, h2, h3⟩
  generalize spOf r c xs r2 c2 ys = P at PF PT ⊢
  generalize echR r c xs = A at E1 O1 PF PT ⊢
  generalize echR r2 c2 ys = D at E2 O2 PF PT ⊢
  clear h hn h2 hn2
  generalize xs.length = L at E1 ⊢
  generalize ys.length = L2 at E2 ⊢
  go_enter Try.func27, Try.ntmps27
  go_upto_region 1 with fail
  have K0 : Hid (Blk3 ((w.alloc (.cells #[.int .i64 r, .int .i64 c, .slice a L m] 26)).alloc (.cells #[.int .i64 r2, .int .i64 c2, .slice a2 L2 m2] 26)) w.heap.size 26 (.int .i64 r) (.int .i64 c) (.slice a L m)) := (Blk3.at_ _ _ _ _ rfl).old _
  have K1 : Hid (Blk3 ((w.alloc (.cells #[.int .i64 r, .int .i64 c, .slice a L m] 26)).alloc (.cells #[.int .i64 r2, .int .i64 c2, .slice a2 L2 m2] 26)) (w.heap.size + 1) 26 (.int .i64 r2) (.int .i64 c2) (.slice a2 L2 m2)) := Blk3.at_ _ _ _ _ (by simp)
  have B0 : Hid (Below w.heap.size w ((w.alloc (.cells #[.int .i64 r, .int .i64 c, .slice a L m] 26)).alloc (.cells #[.int .i64 r2, .int .i64 c2, .slice a2 L2 m2] 26))) := ((Below.refl _ _).alloc (Nat.le_refl _) _).alloc (by simp) _
  generalize (w.alloc (.cells #[.int .i64 r, .int .i64 c, .slice a L m] 26)).alloc (.cells #[.int .i64 r2, .int .i64 c2, .slice a2 L2 m2] 26) = W0 at K0 K1 B0 ⊢
  obtain ⟨p0, p1, p2, -, -, -⟩ := K0.out.all
  go_wp2_with fail
  refine (E1.out _ B0.out).mono ?_
  rintro e w1 ⟨va, vb, rfl, oa, ob, hd, hb⟩
  obtain ⟨qa, ca, hva, hra, na16, sqa, lca, -⟩ := oa.form2
  obtain ⟨qb, cb, hvb, -, -⟩ := ob.form
  subst hva hvb
  have sb := hb.size
  have K0 := Lib.hid ((K0.out.step hb).old (.cells #[.int .i64 A.r, .int .i64 A.c, .slice qa A.zs.length ca] 26))
  have K1 := Lib.hid ((K1.out.step hb).old (.cells #[.int .i64 A.r, .int .i64 A.c, .slice qa A.zs.length ca] 26))
  have Bx := B0.out.trans (hb.mono B0.out.size)
  have B1 := Lib.hid (Bx.alloc Bx.size (.cells #[.int .i64 A.r, .int .i64 A.c, .slice qa A.zs.length ca] 26))
  have X1 : Hid (Blk3 (w1.alloc (.cells #[.int .i64 A.r, .int .i64 A.c, .slice qa A.zs.length ca] 26)) w1.heap.size 26 (.int .i64 A.r) (.int .i64 A.c) (.slice qa A.zs.length ca)) := Blk3.at_ _ _ _ _ rfl
  have RX := Lib.hid (hra.below ((Below.refl _ _).alloc (Nat.le_refl _) (.cells #[.int .i64 A.r, .int .i64 A.c, .slice qa A.zs.length ca] 26)))
  clear hb oa ob hd p0 p1 p2 Bx hra sb
  go_upto_region 2 with fail
  generalize w1.alloc (.cells #[.int .i64 A.r, .int .i64 A.c, .slice qa A.zs.length ca] 26) = W1 at K0 K1 B1 X1 RX ⊢
  obtain ⟨p0, p1, p2, -, -, -⟩ := K1.out.all
  go_wp2_with fail
  refine (E2.out _ B1.out).mono ?_
  rintro e w2 ⟨vc, vd, rfl, oc, od, hd, hb⟩
  obtain ⟨qd, cd, hvc, hrd, nd16, sqd, lcd, -⟩ := oc.form2
  obtain ⟨qe, ce, hvd, -, -⟩ := od.form
  subst hvc hvd
  have Bx := B1.out.trans (hb.mono B1.out.size)
  have ST : Hid (SpSt w (w.heap.size + 1) w1.heap.size w2.heap.size r c r2 c2 a a2 qa qd L m L2 m2 ca cd A D (w2.alloc (.cells #[.int .i64 D.r, .int .i64 D.c, .slice qd D.zs.length cd] 26))) := ⟨(K0.out.step hb).old _, (K1.out.step hb).old _, (X1.out.step hb).old _, Blk3.at_ _ _ _ _ rfl, (RX.out.below hb).below ((Below.refl _ _).alloc (Nat.le_refl _) _), hrd.below ((Below.refl _ _).alloc (Nat.le_refl _) _), Bx.alloc Bx.size _⟩
  clear hb oc od hd p0 p1 p2 Bx hrd K0 K1 X1 RX B1 B0
  go_upto_region 3 with fail
  generalize w2.alloc (.cells #[.int .i64 D.r, .int .i64 D.c, .slice qd D.zs.length cd] 26) = W2 at ST ⊢
  obtain ⟨p0, p1, p2, -, -, -⟩ := ST.out.b1.all
  obtain ⟨t0, t1, t2, -, -, -⟩ := ST.out.b2.all
  have BL := Lib.hid ST.out.bel
  generalize A.ok = k1 at O1 PF PT ⊢
  generalize D.ok = k2 at O2 PF PT ⊢
  cases k1 with
  | false =>
    have PN := Lib.hid (PF.out (fun h => absurd h.1 (by decide)))
    go_wp2_with fail
    exact bodyPost_ret (v := .tuple #[.bool false, .bool false]) (by simp [results, Try.results27, go_sem]) rfl ⟨by rw [PN.out], BL.out⟩
  | true =>
    cases k2 with
    | false =>
      have PN := Lib.hid (PF.out (fun h => absurd h.2.1 (by decide)))
      go_wp2_with fail
      exact bodyPost_ret (v := .tuple #[.bool false, .bool false]) (by simp [results, Try.results27, go_sem]) rfl ⟨by rw [PN.out], BL.out⟩
    | true =>
      by_cases hc : c = c2
      · subst hc
        obtain ⟨R, C, rfl, rfl, hR, hC, hz, hp, hpz⟩ := O1.out rfl
        obtain ⟨R2, C2, -, e2, hR2, hC2, hz2, hp2, hpz2⟩ := O2.out rfl
        obtain rfl : C = C2 := by omega
        have PP := Lib.hid (PT.out rfl rfl rfl)
        have n1 : ((C : Int) != (C : Int)) = false := by simp
        generalize hna : A.pv.length = na at hp hpz PP ⊢
        generalize hnd : D.pv.length = nd at hp2 hpz2 PP ⊢
        clear e2 PF PT O1 O2 hna hnd
        have l1 : na * C ≤ R * C := Nat.mul_le_mul_right _ hp
        have l2 : nd * C ≤ R2 * C := Nat.mul_le_mul_right _ hp2
        have l3 : R * C ≤ 24 * 24 := Nat.mul_le_mul hR hC
        have l4 : R2 * C ≤ 24 * 24 := Nat.mul_le_mul hR2 hC
        have n5 : IntKind.i64.wrap ((na : Int) * (C : Int)) = ((na * C : Nat) : Int) := by
          rw [← Int.natCast_mul]; exact IntWalk.i64_in _ (by omega)
        have n6 : IntKind.i64.wrap ((nd : Int) * (C : Int)) = ((nd * C : Nat) : Int) := by
          rw [← Int.natCast_mul]; exact IntWalk.i64_in _ (by omega)
        rw [← hz] at l1 l3
        rw [← hz2] at l2 l4
        have PQ : Hid (P = (decide (A.zs.take (na * C) = D.zs.take (nd * C)), true)) := by
          have h := PP.out
          rw [show (C : Int).toNat = C from by omega, ← same_take l1 l2 hpz hpz2] at h
          exact h
        generalize na * C = T at l1 n5 PQ
        generalize nd * C = T2 at l2 n6 PQ
        have EQ : Hid (∀ w' ca cd, Rd w' qa A.zs → Rd w' qd D.zs → Calls Try.prog 60 #[.slice qa T ca, .slice qd T2 cd] w' fun e w2 => e = .returned (.bool (decide (A.zs.take T = D.zs.take T2))) ∧ ∃ q, w2 = w'.drewN q) := fun w' ca cd h1 h2 => by
          have e1 : (A.zs.take T).length = T := by rw [List.length_take]; omega
          have e2 : (D.zs.take T2).length = T2 := by rw [List.length_take]; omega
          have h := iEqual qa qd ca cd (A.zs.take T) (D.zs.take T2) w' (h1.take T) (h2.take T2) (by rw [e1]; omega) (by rw [e2]; omega)
          rw [e1, e2] at h
          exact h
        have RX := Lib.hid ST.out.rx
        have RY := Lib.hid ST.out.ry
        obtain ⟨x0, x1, x2, -, -, -⟩ := ST.out.bx.all
        obtain ⟨y0, y1, y2, -, -, -⟩ := ST.out.by_.all
        have c1 : T ≤ ca := by omega
        have c2' : T2 ≤ cd := by omega
        have c3 : (T : Int) ≤ (ca : Int) := by omega
        have c4 : (T2 : Int) ≤ (cd : Int) := by omega
        generalize decide (A.zs.take T = D.zs.take T2) = res at PQ EQ
        generalize hla : A.zs.length = la at x2
        generalize hld : D.zs.length = ld at y2
        clear l1 l2 l3 l4 hz hz2 PP hp hp2 hpz hpz2 ST hla hld na16 nd16 lca lcd
        go_wp2_with fail
        go_quiet (fail)
        go_wp2_with fail
        refine (EQ.out _ _ _ (RX.out.drewN _) (RY.out.drewN _)).mono ?_
        rintro e w5 ⟨rfl, n5, rfl⟩
        go_wp2_with fail
        exact bodyPost_ret (v := .tuple #[.bool res, .bool true]) (by simp [results, Try.results27, go_sem]) rfl ⟨by rw [PQ.out], below_drewN BL.out _⟩
      · have n1 : (c != c2) = true := by simpa using hc
        have hc2 := hc
        clear hc
        have PN := Lib.hid (PF.out (fun h => hc2 h.2.2))
        clear hc2
        go_wp2_with fail
        exact bodyPost_ret (v := .tuple #[.bool false, .bool false]) (by simp [results, Try.results27, go_sem]) rfl ⟨by rw [PN.out], BL.out⟩
end Go.Proofs.Ytbdofgkcedpamaa
end
