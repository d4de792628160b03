/-
  Texts of this seat, joined: DtS
-/
import Derived.Test.YtncplikadacjnaaPk6

section
/-
  Chapter 8, in the model: DeterminantMod.
-/
namespace Go.Proofs.Ytncplikadacjnaa
set_option maxRecDepth 100000
open Go.RowKit

set_option maxHeartbeats 1000000 in
theorem sDetM (r c p : Int) (a : Option Addr) (m : Nat) (xs : List Int) (w : World) (h : Rd w a xs) (hn : xs.length ≤ 16777216) (ha : Spot a) :
    Calls Try.prog 15 #[.agg #[.int .i64 r, .int .i64 c, .slice a xs.length m], .int .i64 p] w (Gives (.tuple #[.int .i64 (dtM r c p xs).1, .bool (dtM r c p xs).2]) w) := by
  have RD : Hid (∀ w', Below w.heap.size w w' → Calls Try.prog 30 #[.agg #[.int .i64 r, .int .i64 c, .slice a xs.length m], .int .i64 p] w' (MatRes (redM r c p xs) w')) := fun w' hb => sRed r c p a m xs w' (h.below hb) hn ha
  have B0 : Hid (Below w.heap.size w (w.alloc (.cells #[.int .i64 r, .int .i64 c, .slice a xs.length m] 26))) := (Below.refl _ _).alloc (Nat.le_refl _) _
  have K0 : Hid (Blk3 (w.alloc (.cells #[.int .i64 r, .int .i64 c, .slice a xs.length m] 26)) w.heap.size 26 (.int .i64 r) (.int .i64 c) (.slice a xs.length m)) := Blk3.at_ _ _ _ _ rfl
  rcases Bool.eq_false_or_eq_true (isMat r c xs && prmB p) with hh | hh
  · obtain ⟨R, C, N, rfl, rfl, hN, hR, hC, hx, hl, hp, hcan, e1, -, e3⟩ := rkM_yes hh
    rw [e1] at RD
    have D1 : Hid (R = C → (elM p R C xs).2.1.length < R → dtM R C p xs = (0, true)) := fun h1 h2 => by show _ = _; rw [e3, if_pos h1, if_pos h2]
    have D2 : Hid (R = C → ¬ (elM p R C xs).2.1.length < R → dtM R C p xs = ((elM p R C xs).2.2, true)) := fun h1 h2 => by show _ = _; rw [e3, if_pos h1, if_neg h2]
    have D3 : Hid (R ≠ C → dtM R C p xs = (0, false)) := fun h1 => by show _ = _; rw [e3, if_neg h1]
    generalize dtM R C p xs = DD at D1 D2 D3 ⊢
    have EL : Hid (∀ (q : Option Addr) (cap : Nat) (w' : World), Rd w' q (resL p xs) → Spot q → Calls Try.prog 45 #[.agg #[.int .i64 R, .int .i64 C, .slice q N cap], .int .i64 p, .int .i64 C] w' (ElP w' R C (elM p R C xs))) := fun q cap w' h1 h2 => sEl R C C N p q cap (resL p xs) w' h1 h2 hl hN hR hC (Nat.le_refl _) hp hcan
    generalize elM p R C xs = RES at EL D1 D2
    generalize resL p xs = zs at RD EL hl
    rw [hx] at RD B0 K0 ⊢
    clear h hn ha hx hN hcan e1 e3 hh hp
    go_enter Try.func15, Try.ntmps15
    go_wp2_with fail
    refine (RD.out _ B0.out).mono ?_
    rintro e w1 ⟨v, rfl, own, hb⟩
    obtain ⟨q, cap, rfl, -, -⟩ := own.form
    dsimp only
    rw [hl]
    rw [hl] at own
    have s1 := hb.size
    have B1 := B0.out.trans (hb.mono (by simp))
    have B2 := Lib.hid (B1.alloc B1.size (.cells #[.int .i64 R, .int .i64 C, .slice q N cap] 26))
    have O2 := Lib.hid (own.keep ((Below.refl _ _).alloc (Nat.le_refl _) (.cells #[.int .i64 R, .int .i64 C, .slice q N cap] 26)))
    have K2 : Hid (Blk3 (w1.alloc (.cells #[.int .i64 R, .int .i64 C, .slice q N cap] 26)) w1.heap.size 26 (.int .i64 R) (.int .i64 C) (.slice q N cap)) := Blk3.at_ _ _ _ _ rfl
    have K1 := Lib.hid ((K0.out.step hb).old (.cells #[.int .i64 R, .int .i64 C, .slice q N cap] 26))
    have lt1 : w.heap.size < w1.heap.size := (K0.out.step hb).lt
    clear hb own B1 B0 K0
    go_upto_region 2 with fail
    generalize w1.alloc (.cells #[.int .i64 R, .int .i64 C, .slice q N cap] 26) = W at B2 O2 K2 K1 ⊢
    obtain ⟨p0, p1, p2, -, -, -⟩ := K2.out.all
    obtain ⟨q0, q1, q2, -, -, -⟩ := K1.out.all
    by_cases hRC : R = C
    · have n1 : ((R : Int) != (C : Int)) = false := by simp [hRC]
      have D1 : Hid (RES.2.1.length < R → DD = (0, true)) := D1.out hRC
      have D2 : Hid (¬ RES.2.1.length < R → DD = (RES.2.2, true)) := D2.out hRC
      clear hRC
      go_wp2_with fail
      refine (EL.out q cap _ O2.out.elim.1 O2.out.elim.2).mono ?_
      rintro e w2 ⟨va, vb, rfl, oa, ob, -, hb⟩
      obtain ⟨qa, ca, rfl, -, -⟩ := oa.form
      obtain ⟨qb, cb, rfl, -, -⟩ := ob.form
      have B3 := B2.out.trans (hb.mono B2.out.size)
      have B4 := Lib.hid (B3.alloc B3.size (.cells #[.int .i64 R, .int .i64 C, .slice qa RES.1.length ca] 26))
      have K3 := Lib.hid ((K1.out.step hb).old (.cells #[.int .i64 R, .int .i64 C, .slice qa RES.1.length ca] 26))
      rw [pvI_length]
      clear hb oa ob B3 p0 p1 p2 q0 q1 q2
      obtain ⟨q0, q1, q2, -, -, -⟩ := K3.out.all
      by_cases hlt : RES.2.1.length < R
      · have DX := Lib.hid (D1.out hlt)
        go_wp2_with fail
        rw [DX.out]
        exact bodyPost_ret (v := .tuple #[.int .i64 0, .bool true]) (by simp [results, Try.results15, go_sem]) rfl ⟨rfl, B4.out⟩
      · have DX := Lib.hid (D2.out hlt)
        go_wp2_with fail
        rw [DX.out]
        exact bodyPost_ret (v := .tuple #[.int .i64 RES.2.2, .bool true]) (by simp [results, Try.results15, go_sem]) rfl ⟨rfl, B4.out⟩
    · have n1 : ((R : Int) != (C : Int)) = true := by simp; omega
      have DX := Lib.hid (D3.out hRC)
      clear hRC
      go_wp2_with fail
      rw [DX.out]
      exact bodyPost_ret (v := .tuple #[.int .i64 0, .bool false]) (by simp [results, Try.results15, go_sem]) rfl ⟨rfl, B2.out⟩
  · obtain ⟨-, e2, e1⟩ := rkM_no hh
    rw [e2] at RD
    rw [e1]
    generalize xs.length = L at RD B0 ⊢
    clear h hn ha e1 e2 hh K0
    go_enter Try.func15, Try.ntmps15
    go_wp2_with fail
    refine (RD.out _ B0.out).mono ?_
    rintro e w1 ⟨v, rfl, own, hb⟩
    obtain ⟨q, cap, rfl, -, -⟩ := own.form
    have B1 := B0.out.trans (hb.mono (by simp))
    have B2 := Lib.hid (B1.alloc B1.size (.cells #[.int .i64 MR.no.r, .int .i64 MR.no.c, .slice q MR.no.zs.length cap] 26))
    clear hb own B1 B0
    have ok : MR.no.ok = false := rfl
    rw [ok]
    go_wp2_with fail
    exact bodyPost_ret (v := .tuple #[.int .i64 0, .bool false]) (by simp [results, Try.results15, go_sem]) rfl ⟨rfl, B2.out⟩
end Go.Proofs.Ytncplikadacjnaa
end
