/-
  Texts of this seat, joined: DtS · ImgS
-/
import Derived.Test.YtgemkfcapkfdbaaPk6
import Derived.Test.YtgemkfcapkfdbaaPk10
import Derived.Test.YtgemkfcapkfdbaaPk11

section
/-
  Chapter 8, in the model: DeterminantMod.
-/
namespace Go.Proofs.Ytgemkfcapkfdbaa
set_option maxRecDepth 100000
open Go.RowKit

set_option maxHeartbeats 1000000 in
theorem sDetM (r c p : Int) (a : Option Addr) (m : Nat) (xs : List Int) (w : World) (h : Rd w a xs) (hn : xs.length ≤ 16777216) (ha : Spot a) :
    Calls Try.prog 66 #[.agg #[.int .i64 r, .int .i64 c, .slice a xs.length m], .int .i64 p] w (Gives (.tuple #[.int .i64 (dtM r c p xs).1, .bool (dtM r c p xs).2]) w) := by
  have RD : Hid (∀ w', Below w.heap.size w w' → Calls Try.prog 89 #[.agg #[.int .i64 r, .int .i64 c, .slice a xs.length m], .int .i64 p] w' (MatRes (redM r c p xs) w')) := fun w' hb => sRed r c p a m xs w' (h.below hb) hn ha
  have B0 : Hid (Below w.heap.size w (w.alloc (.cells #[.int .i64 r, .int .i64 c, .slice a xs.length m] 34))) := (Below.refl _ _).alloc (Nat.le_refl _) _
  have K0 : Hid (Blk3 (w.alloc (.cells #[.int .i64 r, .int .i64 c, .slice a xs.length m] 34)) w.heap.size 34 (.int .i64 r) (.int .i64 c) (.slice a xs.length m)) := Blk3.at_ _ _ _ _ rfl
  rcases Bool.eq_false_or_eq_true (isMat r c xs && prmB p) with hh | hh
  · obtain ⟨R, C, N, rfl, rfl, hN, hR, hC, hx, hl, hp, hcan, e1, -, e3⟩ := rkM_yes hh
    rw [e1] at RD
    have D1 : Hid (R = C → (elM p R C xs).2.1.length < R → dtM R C p xs = (0, true)) := fun h1 h2 => by show _ = _; rw [e3, if_pos h1, if_pos h2]
    have D2 : Hid (R = C → ¬ (elM p R C xs).2.1.length < R → dtM R C p xs = ((elM p R C xs).2.2, true)) := fun h1 h2 => by show _ = _; rw [e3, if_pos h1, if_neg h2]
    have D3 : Hid (R ≠ C → dtM R C p xs = (0, false)) := fun h1 => by show _ = _; rw [e3, if_neg h1]
    generalize dtM R C p xs = DD at D1 D2 D3 ⊢
    have EL : Hid (∀ (q : Option Addr) (cap : Nat) (w' : World), Rd w' q (resL p xs) → Spot q → Calls Try.prog 90 #[.agg #[.int .i64 R, .int .i64 C, .slice q N cap], .int .i64 p, .int .i64 C] w' (ElP w' R C (elM p R C xs))) := fun q cap w' h1 h2 => sEl R C C N p q cap (resL p xs) w' h1 h2 hl hN hR hC (Nat.le_refl _) hp hcan
    generalize elM p R C xs = RES at EL D1 D2
    generalize resL p xs = zs at RD EL hl
    rw [hx] at RD B0 K0 ⊢
    clear h hn ha hx hN hcan e1 e3 hh hp
    go_enter Try.func66, Try.ntmps66
    go_wp2_with fail
    refine (RD.out _ B0.out).mono ?_
    rintro e w1 ⟨v, rfl, own, hb⟩
    obtain ⟨q, cap, rfl, -, -⟩ := own.form
    dsimp only
    rw [hl]
    rw [hl] at own
    have s1 := hb.size
    have B1 := B0.out.trans (hb.mono (by simp))
    have B2 := Lib.hid (B1.alloc B1.size (.cells #[.int .i64 R, .int .i64 C, .slice q N cap] 34))
    have O2 := Lib.hid (own.keep ((Below.refl _ _).alloc (Nat.le_refl _) (.cells #[.int .i64 R, .int .i64 C, .slice q N cap] 34)))
    have K2 : Hid (Blk3 (w1.alloc (.cells #[.int .i64 R, .int .i64 C, .slice q N cap] 34)) w1.heap.size 34 (.int .i64 R) (.int .i64 C) (.slice q N cap)) := Blk3.at_ _ _ _ _ rfl
    have K1 := Lib.hid ((K0.out.step hb).old (.cells #[.int .i64 R, .int .i64 C, .slice q N cap] 34))
    have lt1 : w.heap.size < w1.heap.size := (K0.out.step hb).lt
    clear hb own B1 B0 K0
    go_upto_region 2 with fail
    generalize w1.alloc (.cells #[.int .i64 R, .int .i64 C, .slice q N cap] 34) = W at B2 O2 K2 K1 ⊢
    obtain ⟨p0, p1, p2, -, -, -⟩ := K2.out.all
    obtain ⟨q0, q1, q2, -, -, -⟩ := K1.out.all
    by_cases hRC : R = C
    · have n1 : ((R : Int) != (C : Int)) = false := by simp [hRC]
      have D1 : Hid (RES.2.1.length < R → DD = (0, true)) := D1.out hRC
      have D2 : Hid (¬ RES.2.1.length < R → DD = (RES.2.2, true)) := D2.out hRC
      clear hRC
      go_wp2_with fail
      refine (EL.out q cap _ O2.out.elim.1 O2.out.elim.2).mono ?_
      rintro e w2 ⟨va, vb, rfl, oa, ob, -, hb⟩
      obtain ⟨qa, ca, rfl, -, -⟩ := oa.form
      obtain ⟨qb, cb, rfl, -, -⟩ := ob.form
      have B3 := B2.out.trans (hb.mono B2.out.size)
      have B4 := Lib.hid (B3.alloc B3.size (.cells #[.int .i64 R, .int .i64 C, .slice qa RES.1.length ca] 34))
      have K3 := Lib.hid ((K1.out.step hb).old (.cells #[.int .i64 R, .int .i64 C, .slice qa RES.1.length ca] 34))
      rw [pvI_length]
      clear hb oa ob B3 p0 p1 p2 q0 q1 q2
      obtain ⟨q0, q1, q2, -, -, -⟩ := K3.out.all
      by_cases hlt : RES.2.1.length < R
      · have DX := Lib.hid (D1.out hlt)
        go_wp2_with fail
        rw [DX.out]
        exact bodyPost_ret (v := .tuple #[.int .i64 0, .bool true]) (by simp [results, Try.results66, go_sem]) rfl ⟨rfl, B4.out⟩
      · have DX := Lib.hid (D2.out hlt)
        go_wp2_with fail
        rw [DX.out]
        exact bodyPost_ret (v := .tuple #[.int .i64 RES.2.2, .bool true]) (by simp [results, Try.results66, go_sem]) rfl ⟨rfl, B4.out⟩
    · have n1 : ((R : Int) != (C : Int)) = true := by simp; omega
      have DX := Lib.hid (D3.out hRC)
      clear hRC
      go_wp2_with fail
      rw [DX.out]
      exact bodyPost_ret (v := .tuple #[.int .i64 0, .bool false]) (by simp [results, Try.results66, go_sem]) rfl ⟨rfl, B2.out⟩
  · obtain ⟨-, e2, e1⟩ := rkM_no hh
    rw [e2] at RD
    rw [e1]
    generalize xs.length = L at RD B0 ⊢
    clear h hn ha e1 e2 hh K0
    go_enter Try.func66, Try.ntmps66
    go_wp2_with fail
    refine (RD.out _ B0.out).mono ?_
    rintro e w1 ⟨v, rfl, own, hb⟩
    obtain ⟨q, cap, rfl, -, -⟩ := own.form
    have B1 := B0.out.trans (hb.mono (by simp))
    have B2 := Lib.hid (B1.alloc B1.size (.cells #[.int .i64 MR.no.r, .int .i64 MR.no.c, .slice q MR.no.zs.length cap] 34))
    clear hb own B1 B0
    have ok : MR.no.ok = false := rfl
    rw [ok]
    go_wp2_with fail
    exact bodyPost_ret (v := .tuple #[.int .i64 0, .bool false]) (by simp [results, Try.results66, go_sem]) rfl ⟨rfl, B2.out⟩
end Go.Proofs.Ytgemkfcapkfdbaa
end

section
/-
  Chapter 9, in the model: DeterminantByImages.
-/
namespace Go.Proofs.Ytgemkfcapkfdbaa
set_option maxRecDepth 100000
open Go.RowKit

/-- What the loop over the primes knows of memory. -/
structure ImSt (w : World) (n N : Nat) (a : Option Addr) (m : Nat) (D : Int) (k : Nat) (v6 v7 : Value) (wr : World) : Prop where
  blk : Blk3 wr w.heap.size 34 (.int .i64 n) (.int .i64 n) (.slice a N m)
  bel : Below w.heap.size w wr
  two : TwoL (w.heap.size + 1) wr v6 v7 (mo9 k) (re9 D k)
theorem ImSt.step {w : World} {n N : Nat} {a : Option Addr} {m : Nat} {D : Int} {k : Nat} {v6 v7 : Value} {wr w' : World} (h : ImSt w n N a m D k v6 v7 wr) (hb : Below wr.heap.size wr w') : ImSt w n N a m D k v6 v7 w' := ⟨h.blk.step hb, h.bel.trans (hb.mono h.bel.size), h.two.keep hb⟩
set_option maxHeartbeats 4000000 in
theorem sImg (r c : Int) (a : Option Addr) (m : Nat) (xs : List Int) (w : World) (h : Rd w a xs) (hn : xs.length ≤ 16777216) (ha : Spot a) :
    Calls Try.prog 32 #[.agg #[.int .i64 r, .int .i64 c, .slice a xs.length m]] w (Gives (.tuple #[.int .i64 (imX r c xs).1, .bool (imX r c xs).2]) w) := by
  have BD : Hid (∀ w', Below w.heap.size w w' → Calls Try.prog 29 #[.agg #[.int .i64 r, .int .i64 c, .slice a xs.length m]] w' (Gives (.tuple #[.int .i64 (bndX r c xs).1, .bool (bndX r c xs).2]) w')) := fun w' hb => sBnd r c a m xs w' (h.below hb) hn
  have B0 : Hid (Below w.heap.size w (w.alloc (.cells #[.int .i64 r, .int .i64 c, .slice a xs.length m] 34))) := (Below.refl _ _).alloc (Nat.le_refl _) _
  have K0 : Hid (Blk3 (w.alloc (.cells #[.int .i64 r, .int .i64 c, .slice a xs.length m] 34)) w.heap.size 34 (.int .i64 r) (.int .i64 c) (.slice a xs.length m)) := Blk3.at_ _ _ _ _ rfl
  rcases Bool.eq_false_or_eq_true (isSq r c xs) with hs | hs
  · obtain ⟨n, rfl, rfl, h6, hl, hnum⟩ := isSq_says hs
    rcases bnd_case hs with ⟨e1, e2⟩ | ⟨b, e1, b0, b1⟩
    · have V := Lib.hid e2
      rw [e1] at BD
      generalize xs.length = L at BD B0 ⊢
      clear h hn ha K0 hs e1 e2 hl
      go_enter Try.func32, Try.ntmps32
      go_wp2_with fail
      refine (BD.out _ B0.out).mono ?_
      rintro e w1 ⟨rfl, hb⟩
      have B1 := Lib.hid (B0.out.trans (hb.mono (by simp)))
      go_wp2_with fail
      rw [V.out]
      exact bodyPost_ret (v := .tuple #[.int .i64 0, .bool false]) (by simp [results, Try.results32, go_sem]) rfl ⟨rfl, B1.out⟩
    · obtain ⟨D, hD⟩ : ∃ D, det n (mxL n xs) = D := ⟨_, rfl⟩
      have DT : Hid (∀ (p : Int) (w' : World), prmB p = true → Below w.heap.size w w' → Calls Try.prog 66 #[.agg #[.int .i64 n, .int .i64 n, .slice a xs.length m], .int .i64 p] w' (Gives (.tuple #[.int .i64 (D % p), .bool true]) w')) := fun p w' hp hb => by
        have := sDetM n n p a m xs w' (h.below hb) hn ha
        rw [dtM_sq hs hp, hD] at this
        exact this
      have YS : Hid (∀ k, k ≤ 4 → 2 * b < pp9 k → ∃ x, chiX (re9 D k) (mo9 k) = (x, pp9 k, true) ∧ symX x (pp9 k) = imX n n xs ∧ (imX n n xs).2 = true ∧ (0 ≤ x ∧ x ≤ 121330189)) := fun k hk hb => by
        have := im9_yes hk e1 hb
        rw [hD] at this
        exact this
      have NO : Hid (121330189 ≤ 2 * b → imX n n xs = (0, false)) := fun hb => im9_no e1 hb
      rw [e1] at BD
      have hle : n * n ≤ 6 * 6 := Nat.mul_le_mul h6 h6
      obtain ⟨N, hN⟩ : ∃ N, n * n = N := ⟨_, rfl⟩
      rw [hl, hN] at BD B0 K0 DT ⊢
      rw [hN] at hle
      generalize imX n n xs = RES at YS NO ⊢
      clear h hn ha hs e1 hl hN hnum hD
      go_enter Try.func32, Try.ntmps32
      go_wp2_with fail
      refine (BD.out _ B0.out).mono ?_
      rintro e w1 ⟨rfl, hb⟩
      have K1 := Lib.hid (K0.out.step hb)
      have B1 := Lib.hid (B0.out.trans (hb.mono (by simp)))
      clear hb K0 B0 BD
      go_wp2_with fail
      have lt1 := K1.out.lt
      have ST : Hid (ImSt w n N a m D 0 (.slice (some ⟨w1.heap.size, 0, none⟩) 0 0) (.slice (some ⟨w1.heap.size + 1, 0, none⟩) 0 0) ((w1.alloc (.cells #[] 3)).alloc (.cells #[] 3))) :=
        ⟨(K1.out.old _).old _, (B1.out.alloc B1.out.size _).alloc (by have := B1.out.size; simp; omega) _, TwoL.start w1 (by omega)⟩
      obtain ⟨fi, hfi, hz0, hz1, hz2⟩ := facts_int
      clear K1 B1
      go_loopw [6, 7, 8, 9] (fun v6 v7 v8 v9 wr => ∃ (k p : Nat) (P : Int), v8 = .int .i64 P ∧ v9 = .int .i64 p ∧ At9 k p P ∧ ImSt w n N a m D k v6 v7 wr) (fun _ _ _ v9 _ => 200 - (intOf v9).toNat)
      case atStart => exact ⟨0, 101, 1, rfl, rfl, At9.zero, ST.out⟩
      case round =>
        clear ST lt1
        obtain ⟨k, p, P, rfl, rfl, hat, hst⟩ := hrel
        have AT := Lib.hid hat
        have ST := Lib.hid hst
        obtain ⟨p1, p2, P1, P2⟩ := hat.num
        have k4 := hat.le
        obtain ⟨q6, c6, rfl⟩ := rowL_form hst.two.r1
        obtain ⟨q7, c7, rfl⟩ := rowL_form hst.two.r2
        rw [mo9_length, re9_length] at ST ⊢
        have eP := hat.prod
        have EP := Lib.hid eP
        have d1 : IntKind.i64.wrap (2 * b) = 2 * b := IntWalk.i64_in _ (by omega)
        clear hat hst eP
        by_cases hgo : P ≤ 2 * b
        · by_cases hp : prmB (p : Int) = true
          · have PT := Lib.hid hp
            by_cases hk : k < 4
            · obtain ⟨hn, hle⟩ := AT.out.next hp hk
              have AN := Lib.hid hn
              have MB : Hid (mulB P p = P * p) := by
                show _ = _
                rw [mulB_pos ⟨by omega, by omega⟩ ⟨by omega, by omega⟩, if_pos (by omega)]
              have ET := Lib.hid (AT.out.test hp)
              obtain ⟨Q, hQ⟩ : ∃ Q, P * p = Q := ⟨_, rfl⟩
              rw [hQ] at AN MB hle
              have Q0 : 0 < Q := by rw [← hQ]; exact Int.mul_pos (by omega) (by omega)
              have n0 : (Q == -4611686018427387904) = false := by simp; omega
              have n1 : decide ((k : Int) ≥ 8) = false := by simp; omega
              have DT2 := Lib.hid (DT.out p)
              obtain ⟨z, hz⟩ : ∃ z, D % (p : Int) = z := ⟨_, rfl⟩
              rw [hz] at DT2
              have RS : Hid (re9 D (k + 1) = re9 D k ++ [z]) := by show _ = _; rw [re9_snoc, ← ET.out, hz]
              have MS : Hid (mo9 (k + 1) = mo9 k ++ [(p : Int)]) := by show _ = _; rw [mo9_snoc, ← ET.out]
              clear hn hp hQ hz
              go_wp2_with fail
              refine (sPrime p _).mono ?_
              rintro e w2 ⟨rfl, rfl⟩
              rw [PT.out]
              go_wp2_with fail
              refine (sMulB P p _).mono ?_
              rintro e w2 ⟨rfl, rfl⟩
              rw [MB.out]
              obtain ⟨y0, y1, y2, -, -, -⟩ := ST.out.blk.all
              go_wp2_with fail
              clear y0 y1 y2
              refine (DT2.out _ PT.out ST.out.bel).mono ?_
              rintro e w2 ⟨rfl, hb⟩
              have S2 := Lib.hid (ST.out.step hb)
              have s2 := S2.out.bel.size
              have l2 := S2.out.blk.lt
              clear hb ST
              have T2 : Hid (TwoL (w.heap.size + 1) (w2.alloc (.cells #[.int .i64 p] 3)) (.slice q6 k c6) (.slice q7 k c7) (mo9 k) (re9 D k)) := S2.out.two.alloc _
              have r1 : (w2.alloc (.cells #[.int .i64 p] 3)).ownsRow (w.heap.size + 1) 3 1 (.slice q6 k c6) k ((mo9 k).map (Value.int .i64)) := by
                have := T2.out.r1
                rw [mo9_length] at this
                exact this
              have R1 := Lib.hid r1
              clear r1
              go_wp2_with (at_builtin; refine wpList_append_own_at _ rfl _ _ 24 rfl (w.heap.size + 1) 3 fi (.int .i64 0) 1 8 underlying_ints hfi hz0 hz1 hz2 rfl (by decide) _ _ _ rfl R1.out ⟨w2.heap.size, 0, none⟩ 1 1 [.int .i64 p] ?hx ?hl ?hnews ?h1 ?h63 ?hbytes ?hbase ?hnext)
              case hx => rfl
              case hl => rfl
              case hnews => exact cell_one_new _ _ _
              case h1 => intro v hv; simp at hv; subst hv; rfl
              case h63 => unfold maxLen; omega
              case hbytes => omega
              case hbase => simp; omega
              case hnext =>
                rintro v3 w3 ho3 hg3 - hor3
                have T3 := T2.out.app1 (x := (p : Int)) (by rw [mo9_length]; exact ho3) hg3 (hor3.imp id (fun h => by rw [h]; simp))
                rw [← MS.out] at T3
                have hfar : ∀ b, (Value.slice q6 k c6).ownBlock = some b → w.heap.size + 1 ≤ b := fun b hb => (R1.out.lt b hb).1
                have B3 : Below w.heap.size w w3 := (S2.out.bel.alloc S2.out.bel.size (.cells #[.int .i64 p] 3)).grown hg3 (by simp; omega) (fun b hb => by have := hfar b hb; omega)
                have K3 : Blk3 w3 w.heap.size 34 (.int .i64 n) (.int .i64 n) (.slice a N m) := (hg3.block _ (by simp; omega) (fun e => by have := hfar _ e.symm; omega)).trans (S2.out.blk.old _)
                obtain ⟨a3, c3, rfl⟩ := rowL_form T3.r1
                rw [mo9_length] at T3 ⊢
                have S3 : Hid (Blk3 w3 w.heap.size 34 (.int .i64 n) (.int .i64 n) (.slice a N m) ∧ Below w.heap.size w w3) := ⟨K3, B3⟩
                have T3 := Lib.hid T3
                have s3 := B3.size
                have l3 := K3.lt
                clear ho3 hg3 hor3 hfar B3 K3 R1 T2 S2
                have T4 : Hid (TwoL (w.heap.size + 1) (w3.alloc (.cells #[.int .i64 z] 3)) (.slice a3 (k + 1) c3) (.slice q7 k c7) (mo9 (k + 1)) (re9 D k)) := T3.out.alloc _
                have r2 : (w3.alloc (.cells #[.int .i64 z] 3)).ownsRow (w.heap.size + 1) 3 1 (.slice q7 k c7) k ((re9 D k).map (Value.int .i64)) := by
                  have := T4.out.r2
                  rw [re9_length] at this
                  exact this
                have R2 := Lib.hid r2
                clear r2
                go_wp2_with (at_builtin; refine wpList_append_own_at _ rfl _ _ 24 rfl (w.heap.size + 1) 3 fi (.int .i64 0) 1 8 underlying_ints hfi hz0 hz1 hz2 rfl (by decide) _ _ _ rfl R2.out ⟨w3.heap.size, 0, none⟩ 1 1 [.int .i64 z] ?hx ?hl ?hnews ?h1 ?h63 ?hbytes ?hbase ?hnext)
                case hx => rfl
                case hl => rfl
                case hnews => exact cell_one_new _ _ _
                case h1 => intro v hv; simp at hv; subst hv; rfl
                case h63 => unfold maxLen; omega
                case hbytes => omega
                case hbase => simp; omega
                case hnext =>
                  rintro v4 w4 ho4 hg4 - hor4
                  have T5 := (T4.out.swap.app1 (x := z) (by rw [re9_length]; exact ho4) hg4 (hor4.imp id (fun h => by rw [h]; simp))).swap
                  rw [← RS.out] at T5
                  have hfar : ∀ b, (Value.slice q7 k c7).ownBlock = some b → w.heap.size + 1 ≤ b := fun b hb => (R2.out.lt b hb).1
                  have B4 : Below w.heap.size w w4 := (S3.out.2.alloc S3.out.2.size (.cells #[.int .i64 z] 3)).grown hg4 (by simp; omega) (fun b hb => by have := hfar b hb; omega)
                  have K4 : Blk3 w4 w.heap.size 34 (.int .i64 n) (.int .i64 n) (.slice a N m) := (hg4.block _ (by simp; omega) (fun e => by have := hfar _ e.symm; omega)).trans (S3.out.1.old _)
                  obtain ⟨a4, c4, rfl⟩ := rowL_form T5.r2
                  have S5 : Hid (ImSt w n N a m D (k + 1) (.slice a3 (k + 1) c3) (.slice a4 (re9 D (k + 1)).length c4) w4) := ⟨K4, B4, T5⟩
                  rw [re9_length] at S5 ⊢
                  clear ho4 hg4 hor4 hfar B4 K4 R2 T4 S3 T5 T3
                  go_wp2_with fail
                  go_roundw
                  case rel => exact ⟨k + 1, p + 1, Q, rfl, by go_num, AN.out, S5.out⟩
                  case measure => simp [intOf]; omega
            · obtain ⟨h113, hP, hbig⟩ := AT.out.last hp hk
              have V := Lib.hid (NO.out (by omega))
              have MB : Hid (mulB P p = badN) := by
                show _ = _
                rw [mulB_pos ⟨by omega, by omega⟩ ⟨by omega, by omega⟩, if_neg (by omega)]
              clear hp h113 hP hbig
              go_wp2_with fail
              refine (sPrime _ _).mono ?_
              rintro e w2 ⟨rfl, rfl⟩
              rw [PT.out]
              go_wp2_with fail
              refine (sMulB _ _ _).mono ?_
              rintro e w2 ⟨rfl, rfl⟩
              rw [MB.out]
              go_wp2_with fail
              rw [V.out]
              exact bodyPost_ret (v := .tuple #[.int .i64 0, .bool false]) (by simp [results, Try.results32, go_sem]) rfl ⟨rfl, ST.out.bel⟩
          · have hp : prmB (p : Int) = false := by simpa using hp
            have PT := Lib.hid hp
            have AN := Lib.hid (AT.out.skip hp)
            clear hp
            go_wp2_with fail
            refine (sPrime p _).mono ?_
            rintro e w2 ⟨rfl, rfl⟩
            rw [PT.out]
            go_wp2_with fail
            go_roundw
            case rel => exact ⟨k, p + 1, P, rfl, by go_num, AN.out, ST.out⟩
            case measure => simp [intOf]; omega
        · obtain ⟨x, e1, e2, e3, x0, x1⟩ := YS.out k k4 (by rw [← EP.out]; omega)
          rw [← EP.out] at e1 e2
          have r1 := ST.out.two.r1
          have r2 := ST.out.two.r2
          obtain ⟨u1, t1, f1, R1, -⟩ := (Own.of_row r1 (by rw [mo9_length]; omega)).form
          obtain ⟨u2, t2, f2, R2, -⟩ := (Own.of_row r2 (by rw [re9_length]; omega)).form
          injection f1 with g1 g1' g1''
          injection f2 with g2 g2' g2''
          clear g1' g1'' g2' g2''
          subst g1 g2
          have CH : Hid (Calls Try.prog 13 #[.slice q7 k c7, .slice q6 k c6] wr fun e w' => e = .returned (.tuple #[.int .i64 x, .int .i64 P, .bool true]) ∧ ∃ n, w' = wr.drewN n) := by
            have := sChin q7 q6 c7 c6 _ _ wr R2 R1 (by rw [re9_length]; omega) (by rw [mo9_length]; omega)
            rw [e1, re9_length, mo9_length] at this
            exact this
          have E2 := Lib.hid e2
          have E3 := Lib.hid e3
          have n2 : decide (P ≤ 2 * b) = false := by simpa using hgo
          clear e1 e2 e3 r1 r2 R1 R2 hgo x0 x1 p1 p2 k4 YS NO
          go_wp2_with fail
          refine CH.out.mono ?_
          rintro e w2 ⟨rfl, nn, rfl⟩
          go_wp2_with fail
          refine (sSymm x P _).mono ?_
          rintro e w2 ⟨rfl, rfl⟩
          rw [E2.out]
          go_wp2_with fail
          exact bodyPost_ret (v := .tuple #[.int .i64 RES.1, .bool true]) (by simp [results, Try.results32, go_sem]) rfl ⟨by rw [E3.out], below_drewN ST.out.bel _⟩
  · obtain ⟨e1, e2⟩ := imX_sq hs
    have V := Lib.hid e2
    rw [e1] at BD
    generalize xs.length = L at BD B0 ⊢
    clear h hn ha K0 hs e1 e2
    go_enter Try.func32, Try.ntmps32
    go_wp2_with fail
    refine (BD.out _ B0.out).mono ?_
    rintro e w1 ⟨rfl, hb⟩
    have B1 := Lib.hid (B0.out.trans (hb.mono (by simp)))
    go_wp2_with fail
    rw [V.out]
    exact bodyPost_ret (v := .tuple #[.int .i64 0, .bool false]) (by simp [results, Try.results32, go_sem]) rfl ⟨rfl, B1.out⟩
end Go.Proofs.Ytgemkfcapkfdbaa
end
