/-
  Texts of this seat, joined: DetA · StepL · MatI · ElTo · MnMath · MnMem · MnTake · MnNew · MnAcc · MnBits · MnDet · MnDet2 · SqI · DetI
-/
import Derived.BigQuiet
import Derived.Deep.QuietTactic
import Derived.Maps.OwnSet
import Derived.Maps.AppendAt
import Derived.Deep.DeepCutAuto
import Derived.IntWalk
import Derived.Test.YtdnajkoeojlnbaaRows
import Derived.WalkKit
import Derived.Laws.BitsAll
import Derived.Deep.RegionHeld3
import Derived.Test.YtdnajkoeojlnbaaPk1
import Derived.Test.YtdnajkoeojlnbaaPk2
import Derived.Test.YtdnajkoeojlnbaaPk3

section
/-
  Chapter 6, in the model: AdjugateOf.
-/
namespace Go.Proofs.Ytdnajkoeojlnbaa
set_option maxRecDepth 100000
open Go.RowKit

/-- The determinant without row i and column j, with its sign, or the mark. -/
def adjAt (n : Nat) (xs : List Int) (i j : Nat) : Int := if (i + j) % 2 = 1 then mulB (detB (n - 1) (woL n i j xs (n * n))) (-1) else detB (n - 1) (woL n i j xs (n * n))
def adjC (n : Nat) (xs : List Int) : List Int := tab n n (adjAt n xs)
def adjL (n : Nat) (xs : List Int) : List Int := turnL n n (adjC n xs)
def adjM (r c : Int) (xs : List Int) : MR := if isSq r c xs = true then MR.done r r (adjL r.toNat xs) else MR.no
set_option maxRecDepth 100000 in
set_option maxHeartbeats 2000000 in
theorem sAdj_t (n : Nat) (a : Option Addr) (m : Nat) (xs : List Int) (w : World) (h : Rd w a xs) (hx : xs.length = n * n) (h6 : n ≤ 6) (nx : nums xs = true) (hs : isSq n n xs = true) :
    Calls Try.prog 28 #[.agg #[.int .i64 n, .int .i64 n, .slice a xs.length m]] w (MatRes (MR.done n n (adjL n xs)) w) := by
  have hle : n * n ≤ 6 * 6 := Nat.mul_le_mul h6 h6
  have B0 : Hid (∀ o1 o2, Below w.heap.size w ((w.alloc o1).alloc o2)) := fun o1 o2 => ((Below.refl _ _).alloc (Nat.le_refl _) _).alloc (by simp) _
  have AT : Hid (∀ i j, adjAt n xs i j = if (i + j) % 2 = 1 then mulB (detB (n - 1) (woL n i j xs (n * n))) (-1) else detB (n - 1) (woL n i j xs (n * n))) := fun _ _ => rfl
  obtain ⟨k, hk⟩ : ∃ k, n - 1 = k := ⟨_, rfl⟩
  obtain ⟨N, hN⟩ : ∃ N, n * n = N := ⟨_, rfl⟩
  have SQ : Hid (∀ w', Below w.heap.size w w' → Calls Try.prog 16 #[.agg #[.int .i64 n, .int .i64 n, .slice a N m]] w' (Gives (.bool true) w')) := fun w' hb => by
    have := sIsSq n n a m xs w' (h.below hb) (by omega)
    rw [hx, hN, hs] at this
    exact this
  have WO : Hid (∀ (i j : Nat) (w' : World), i < n → j < n → Below w.heap.size w w' → Calls Try.prog 60 #[.agg #[.int .i64 n, .int .i64 n, .slice a N m], .int .i64 i, .int .i64 j] w' (fun e w2 => ∃ q qc, e = .returned (.agg #[.int .i64 k, .int .i64 k, .slice q (k * k) qc]) ∧ Rd w2 q (woL n i j xs N) ∧ Below w'.heap.size w' w2)) := fun i j w' hi hj hb => by
    obtain ⟨ga, oa, rfl⟩ := h.addr (by rw [hx]; exact Nat.mul_pos (by omega) (by omega))
    obtain ⟨p, rfl⟩ : ∃ p, n = p + 1 := ⟨n - 1, by omega⟩
    obtain rfl : p = k := by omega
    have := sWo (p + 1) (p + 1) ga oa m i j xs w' (h.below hb) hx (by omega) (by omega)
    rw [hx, hN, show ((p + 1 : Nat) : Int) - 1 = (p : Int) by omega] at this
    refine this.mono ?_
    rintro e w2 ⟨v, rfl, own, hb2⟩
    obtain ⟨q, qc, rfl, -, -⟩ := own.form
    refine ⟨q, qc, ?_, own.rdq, hb2⟩
    rw [← hN, woL_sq hi hj]
  have DT : Hid (∀ (i j : Nat) (q : Option Addr) (qc : Nat) (w' : World), i < n → j < n → Rd w' q (woL n i j xs N) → Calls Try.prog 66 #[.agg #[.int .i64 k, .int .i64 k, .slice q (k * k) qc]] w' (Gives (.int .i64 (detB k (woL n i j xs N))) w')) := fun i j q qc w' hi hj hr => by
    obtain ⟨p, rfl⟩ : ∃ p, n = p + 1 := ⟨n - 1, by omega⟩
    obtain rfl : p = k := by omega
    exact sDet p q qc _ w' hr (by rw [← hN, woL_sq hi hj]) (by omega) (by rw [← hN]; exact woL_nums hi hj nx)
  have CA : Hid (∀ i j, i < n → j < n → (adjC n xs).getD (i * n + j) 0 = adjAt n xs i j) := fun i j hi hj => tab_at n n _ hi hj
  have HA : Hid (adjL n xs = turnL n n (adjC n xs)) := rfl
  rw [hk, hN] at AT
  generalize adjC n xs = D at CA HA
  generalize adjAt n xs = F at CA AT
  rw [hx, hN]
  rw [hN] at hle
  have HN := Lib.hid hN
  clear h hx nx hs hN
  go_enter Try.func28, Try.ntmps28
  go_wp2_with fail
  refine (SQ.out _ (B0.out _ _)).mono ?_
  rintro e w0 ⟨rfl, hb⟩
  have K0 : Hid (Blk3 w0 w.heap.size 27 (.int .i64 n) (.int .i64 n) (.slice a N m)) := ((Blk3.at_ _ _ _ _ rfl).old _).keep hb (by simp <;> omega)
  have K1 : Hid (Blk3 w0 (w.heap.size + 1) 27 (.int .i64 0) (.int .i64 0) (.slice none 0 0)) := (Blk3.at_ _ _ _ _ (by simp)).keep hb (by simp)
  have B : Hid (Below w.heap.size w w0) := (B0.out _ _).trans (hb.mono (by simp <;> omega))
  clear hb
  obtain ⟨p0, p1, p2, -, -, -⟩ := K0.out.all
  go_wp2_with fail
  refine (sNew n n _ (by omega) (by omega)).mono ?_
  rintro e w1 ⟨g, rfl, hg, hi, hb⟩
  rw [HN.out] at hi ⊢
  simp only [List.length_replicate]
  have l0 := K1.out.lt
  have K0 := Lib.hid (K0.out.step hb)
  have K1 := Lib.hid (K1.out.step hb)
  have B := Lib.hid (stepB B.out hb)
  have l1 : w.heap.size + 1 < g := by omega
  have gl := hi.lt
  have I := Lib.hid (hi.old (.cells #[.int .i64 n, .int .i64 n, .slice (some ⟨g, 0, none⟩) N N] 27))
  have BA := Lib.hid (B.out.alloc B.out.size (.cells #[.int .i64 n, .int .i64 n, .slice (some ⟨g, 0, none⟩) N N] 27))
  have K0 := Lib.hid (K0.out.old (.cells #[.int .i64 n, .int .i64 n, .slice (some ⟨g, 0, none⟩) N N] 27))
  have K1 := Lib.hid (K1.out.old (.cells #[.int .i64 n, .int .i64 n, .slice (some ⟨g, 0, none⟩) N N] 27))
  have K3 : Hid (Blk3 (w1.alloc (.cells #[.int .i64 n, .int .i64 n, .slice (some ⟨g, 0, none⟩) N N] 27)) w1.heap.size 27 (.int .i64 n) (.int .i64 n) (.slice (some ⟨g, 0, none⟩) N N)) := Blk3.at_ _ _ _ _ rfl
  clear hb hi hg p0 p1 p2
  go_upto_region 4 with fail
  generalize w1.alloc (.cells #[.int .i64 n, .int .i64 n, .slice (some ⟨g, 0, none⟩) N N] 27) = W at I BA K0 K1 K3 ⊢
  obtain ⟨ob, hob⟩ : ∃ ob, w1.heap.size = ob := ⟨_, rfl⟩
  rw [hob] at K3 gl ⊢
  clear hob
  go_wp2_with fail
  go_loopw [5, 6, 7] (fun i _ _ wr => ∃ (p : Nat) (zs : List Int), i = .int .i64 p ∧ p ≤ n ∧ Turned n n D p 0 zs ∧ Ints wr g zs ∧ W.grownBy wr (some g)) (fun i _ _ _ => n - (intOf i).toNat)
  case atStart => exact ⟨0, _, rfl, by omega, by have := Turned.start n n D; rw [HN.out] at this; exact this, I.out, World.grownBy.refl _ _⟩
  case round =>
    obtain ⟨p, zs, rfl, hp, ht, hi, hgr⟩ := hrel
    have T := Lib.hid ht
    have I := Lib.hid hi
    have G := Lib.hid hgr
    clear ht hi hgr
    have R0 := Lib.hid (K0.out.keepOne G.out (by omega))
    have R1 := Lib.hid (K1.out.keepOne G.out (by omega))
    have R3 := Lib.hid (K3.out.keepOne G.out (by omega))
    obtain ⟨p0, p1, p2, -, -, -⟩ := R0.out.all
    obtain ⟨r0, r1, r2, -, -, -⟩ := R3.out.all
    by_cases hlt : p < n
    · go_wp2_with fail
      go_loopw [6, 7] (fun j _ wq => ∃ (q : Nat) (ys : List Int), j = .int .i64 q ∧ q ≤ n ∧ Turned n n D p q ys ∧ Ints wq g ys ∧ W.grownBy wq (some g)) (fun j _ _ => n - (intOf j).toNat)
      case atStart => exact ⟨0, zs, rfl, by omega, T.out, I.out, G.out⟩
      case round =>
        obtain ⟨q, ys, rfl, hq, ht, hi, hgr⟩ := hrel
        have T' := Lib.hid ht
        have I' := Lib.hid hi
        have G' := Lib.hid hgr
        clear ht hi hgr p0 p1 p2 r0 r1 r2
        have S0 := Lib.hid (K0.out.keepOne G'.out (by omega))
        obtain ⟨p0, p1, p2, -, -, -⟩ := S0.out.all
        by_cases hlq : q < n
        · have BW := Lib.hid (BA.out.trans (below_of_one G'.out (by omega) BA.out.size))
          go_wp2_with fail
          refine (WO.out p q _ hlt hlq BW.out).mono ?_
          rintro e w2 ⟨qa, qc, rfl, hr, hb⟩
          have I2 := Lib.hid (I'.out.keep hb I'.out.lt)
          have G2 := Lib.hid (G'.out.trans (grown_of_below hb (some g)))
          have RQ := Lib.hid hr
          clear hr hb
          go_wp2_with fail
          refine (DT.out p q qa qc _ hlt hlq RQ.out).mono ?_
          rintro e w3 ⟨rfl, hb⟩
          have I3 := Lib.hid (I2.out.keep hb I2.out.lt)
          have G3 := Lib.hid (G2.out.trans (grown_of_below hb (some g)))
          have S0 := Lib.hid (K0.out.keepOne G3.out (by omega))
          have S3 := Lib.hid (K3.out.keepOne G3.out (by omega))
          clear hb p0 p1 p2
          obtain ⟨p0, p1, p2, -, -, -⟩ := S0.out.all
          obtain ⟨r0, r1, r2, -, -, -⟩ := S3.out.all
          have AV := CA.out p q hlt hlq
          rw [AT.out p q] at AV
          obtain ⟨d, hd⟩ : ∃ d, detB k (woL n p q xs N) = d := ⟨_, rfl⟩
          rw [hd] at AV ⊢
          have i2 : q * n + p < N := by rw [← HN.out]; exact idx_lt hlq hlt
          have hold := I3.out.cell (i := q * n + p) (by rw [T'.out.1, HN.out]; exact i2)
          have hfr := I3.out.free (q * n + p)
          have c2 : (q : Int) * (n : Int) = ((q * n : Nat) : Int) := (Int.natCast_mul _ _).symm
          have d2 : 0 ≤ (q : Int) * (n : Int) ∧ (q : Int) * (n : Int) ≤ 600 := by rw [c2]; omega
          have e4 : 0 ≤ (q : Int) * (n : Int) + (p : Int) := by omega
          have e5 : (q : Int) * (n : Int) + (p : Int) < (N : Int) := by rw [c2]; omega
          have e6 : ((q : Int) * (n : Int) + (p : Int)).toNat = q * n + p := by rw [c2]; omega
          obtain ⟨d21, d22⟩ := d2
          have v1 : IntKind.i64.wrap ((p : Int) + (q : Int)) = (p : Int) + (q : Int) := IntWalk.i64_in _ (by omega)
          have v2 : Int.tmod ((p : Int) + (q : Int)) 2 = (((p + q) % 2 : Nat) : Int) := by rw [Int.tmod_eq_emod_of_nonneg (by omega)]; omega
          have v3 : IntKind.i64.wrap ((q : Int) * (n : Int)) = (q : Int) * (n : Int) := IntWalk.i64_in _ (by omega)
          have v4 : IntKind.i64.wrap ((q : Int) * (n : Int) + (p : Int)) = (q : Int) * (n : Int) + (p : Int) := IntWalk.i64_in _ (by omega)
          have v5 : IntKind.i64.wrap (((p + q) % 2 : Nat) : Int) = (((p + q) % 2 : Nat) : Int) := IntWalk.i64_in _ (by omega)
          clear hd c2
          by_cases ho : (p + q) % 2 = 1
          · rw [if_pos ho] at AV
            have AV := Lib.hid AV
            rw [ho] at v2 v5
            clear ho
            go_wp2_with fail
            refine (sMulB d (-1) _).mono ?_
            rintro e w4 ⟨rfl, rfl⟩
            go_wp2_with fail
            go_roundw
            case rel =>
              refine ⟨q + 1, _, by go_num, by omega, T'.out.step hlt hlq, ?_, grown_set_one G3.out rfl _⟩
              rw [AV.out]
              exact I3.out.set (q * n + p) _
            case measure => simp [intOf]; omega
          · rw [if_neg ho] at AV
            have AV := Lib.hid AV
            obtain ho : (p + q) % 2 = 0 := by omega
            rw [ho] at v2 v5
            clear ho
            go_wp2_with fail
            go_roundw
            case rel =>
              refine ⟨q + 1, _, by go_num, by omega, T'.out.step hlt hlq, ?_, grown_set_one G3.out rfl _⟩
              rw [AV.out]
              exact I3.out.set (q * n + p) _
            case measure => simp [intOf]; omega
        · have hqn : q = n := by omega
          rw [hqn] at T'
          go_wp2_with fail
          go_roundw
          case rel => exact ⟨p + 1, ys, by go_num, by omega, T'.out.row, I'.out, G'.out⟩
          case measure => simp [intOf]; omega
    · have hpn : p = n := by omega
      rw [hpn] at T
      have hz := T.out.whole
      rw [← HA.out] at hz
      have hl : zs.length = N := by rw [T.out.1, HN.out]
      have HL := Lib.hid hl
      have HZ := Lib.hid hz
      have B := Lib.hid (BA.out.trans (below_of_one G.out (by omega) BA.out.size))
      clear hl hz
      go_wp2_with fail
      have ST := sDone n n (some ⟨g, 0, none⟩) N zs _ I.out.rd (by rw [HL.out]; omega)
      rw [HL.out] at ST
      refine ST.mono ?_
      clear ST
      rintro e w6 ⟨rfl, hb⟩
      have R1 := Lib.hid (R1.out.step hb)
      have I6 := Lib.hid (I.out.keep hb I.out.lt)
      have B := Lib.hid (stepB B.out hb)
      clear hb
      obtain ⟨gc0, gc1, gc2, gd0, gd1, gd2⟩ := R1.out.all
      have l6 := R1.out.lt
      rcases Bool.eq_false_or_eq_true (isMat n n zs) with hd | hd
      · have E : Hid (MR.done n n zs = ⟨true, n, n, zs⟩) := by show MR.done _ _ _ = _; unfold MR.done; rw [hd]; rfl
        rw [hd]
        clear hd
        unfold DoneRes
        obtain ⟨E0, E1, E2, -, -, -⟩ := ((R1.out.set3 (.int .i64 n) (.int .i64 n) (.slice (some ⟨g, 0, none⟩) N N)).old (.cells #[.int .i64 n, .int .i64 n, .slice (some ⟨g, 0, none⟩) N N] 27)).all
        go_wp2_with fail
        rw [← HZ.out, E.out]
        refine bodyPost_ret (v := .tuple #[.agg #[.int .i64 n, .int .i64 n, .slice (some ⟨g, 0, none⟩) N N], .bool true]) (by simp [results, Try.results28, go_sem, E0, E1, E2]) rfl ⟨_, rfl, ?_, ?_⟩
        · refine .inr ⟨g, N, by rw [HL.out], by omega, ?_, by rw [HL.out]; omega, by rw [HL.out]; omega⟩
          exact ((((I6.out).far (by show g ≠ w.heap.size + 1; omega) _).far (by show g ≠ w.heap.size + 1; omega) _).far (by show g ≠ w.heap.size + 1; omega) _).old _
        · exact ((((B.out.setCell (by show w.heap.size ≤ w.heap.size + 1; omega) _).setCell (by show w.heap.size ≤ w.heap.size + 1; omega) _).setCell (by show w.heap.size ≤ w.heap.size + 1; omega) _).alloc (by have := B.out.size; simpa using this) _)
      · have E : Hid (MR.done n n zs = MR.no) := by show MR.done _ _ _ = _; unfold MR.done; rw [hd]; rfl
        rw [hd]
        clear hd
        unfold DoneRes
        obtain ⟨E0, E1, E2, -, -, -⟩ := ((R1.out.set3 (.int .i64 0) (.int .i64 0) (.slice none 0 0)).old (.cells #[.int .i64 0, .int .i64 0, .slice none 0 0] 27)).all
        go_wp2_with fail
        rw [← HZ.out, E.out]
        exact bodyPost_ret (v := .tuple #[.agg #[.int .i64 0, .int .i64 0, .slice none 0 0], .bool false]) (by simp [results, Try.results28, go_sem, E0, E1, E2]) rfl ⟨_, rfl, .inl ⟨rfl, rfl⟩, ((((B.out.setCell (by show w.heap.size ≤ w.heap.size + 1; omega) _).setCell (by show w.heap.size ≤ w.heap.size + 1; omega) _).setCell (by show w.heap.size ≤ w.heap.size + 1; omega) _).alloc (by have := B.out.size; simpa using this) _)⟩
set_option maxRecDepth 100000 in
set_option maxHeartbeats 1000000 in
theorem sAdj (r c : Int) (a : Option Addr) (m : Nat) (xs : List Int) (w : World) (h : Rd w a xs) (hn : xs.length ≤ 16777216) :
    Calls Try.prog 28 #[.agg #[.int .i64 r, .int .i64 c, .slice a xs.length m]] w (MatRes (adjM r c xs) w) := by
  rcases Bool.eq_false_or_eq_true (isSq r c xs) with hs | hs
  · obtain ⟨n, rfl, rfl, h6, hl, nx⟩ := isSq_says hs
    have V : adjM n n xs = MR.done n n (adjL n xs) := by unfold adjM; rw [if_pos hs]; rfl
    rw [V]
    exact sAdj_t n a m xs w h hl h6 nx hs
  · have V : Hid (adjM r c xs = MR.no) := by show adjM r c xs = _; unfold adjM; rw [if_neg (by rw [hs]; decide)]
    have H := Lib.hid h
    have HN := Lib.hid hn
    have B0 : Hid (∀ o1 o2, Below w.heap.size w ((w.alloc o1).alloc o2)) := fun o1 o2 => ((Below.refl _ _).alloc (Nat.le_refl _) _).alloc (by simp) _
    have SQ : Hid (∀ w', Below w.heap.size w w' → Calls Try.prog 16 #[.agg #[.int .i64 r, .int .i64 c, .slice a xs.length m]] w' (Gives (.bool false) w')) := fun w' hb => by
      have := sIsSq r c a m xs w' (H.out.below hb) HN.out
      rw [hs] at this
      exact this
    clear hs h hn
    generalize xs.length = l at SQ ⊢
    go_enter Try.func28, Try.ntmps28
    go_wp2_with fail
    refine (SQ.out _ (B0.out _ _)).mono ?_
    rintro e w1 ⟨rfl, hb⟩
    have K1 : Hid (Blk3 w1 (w.heap.size + 1) 27 (.int .i64 0) (.int .i64 0) (.slice none 0 0)) := (Blk3.at_ _ _ _ _ (by simp)).keep hb (by simp)
    have B : Hid (Below w.heap.size w w1) := (B0.out _ _).trans (hb.mono (by simp <;> omega))
    clear hb
    obtain ⟨p0, p1, p2, f0, f1, f2⟩ := K1.out.all
    go_wp2_with fail
    obtain ⟨E0, E1, E2, -, -, -⟩ := (K1.out.set3 (.int .i64 0) (.int .i64 0) (.slice none 0 0)).all
    rw [V.out]
    exact bodyPost_ret (v := .tuple #[.agg #[.int .i64 0, .int .i64 0, .slice none 0 0], .bool false]) (by simp [results, Try.results28, go_sem, E0, E1, E2]) rfl ⟨_, rfl, .inl ⟨rfl, rfl⟩, ((B.out.setCell (by show w.heap.size ≤ w.heap.size + 1; omega) _).setCell (by show w.heap.size ≤ w.heap.size + 1; omega) _).setCell (by show w.heap.size ≤ w.heap.size + 1; omega) _⟩
end Go.Proofs.Ytdnajkoeojlnbaa
end

section
/-
  Plain mathematics of chapter 6: elimination without fractions over lists of cells ends in the determinant. Nothing of a program is used.
-/
namespace Go.Proofs.Ytdnajkoeojlnbaa

/-- The first row from p on (k rows are left) whose cell in column t is not 0; n if there is none. -/
def findP (n t : Nat) (xs : List Int) : Nat → Nat → Nat
  | 0, p => p
  | k + 1, p => if xs.getD (p * n + t) 0 = 0 then findP n t xs k (p + 1) else p
theorem findP_eq {n t : Nat} {xs : List Int} {q : Nat} (h2 : q ≤ n) (hn : q < n → xs.getD (q * n + t) 0 ≠ 0) : ∀ {k p : Nat}, p + k = n → p ≤ q → (∀ r, p ≤ r → r < q → xs.getD (r * n + t) 0 = 0) → findP n t xs k p = q := by
  intro k
  induction k with
  | zero => intro p hk h1 _; show p = q; omega
  | succ k ih =>
    intro p hk h1 hz
    show (if xs.getD (p * n + t) 0 = 0 then _ else p) = q
    rcases Nat.lt_or_ge p q with h | h
    · rw [if_pos (hz p (Nat.le_refl _) h)]
      exact ih (by omega) (by omega) fun r h3 h4 => hz r (by omega) h4
    · obtain rfl : p = q := by omega
      rw [if_neg (hn (by omega))]
def pivP (n t : Nat) (xs : List Int) : Nat := findP n t xs (n - t) t
theorem pivP_eq {n t q : Nat} {xs : List Int} (ht : t ≤ q) (h2 : q ≤ n) (hz : ∀ r, t ≤ r → r < q → xs.getD (r * n + t) 0 = 0) (hn : q < n → xs.getD (q * n + t) 0 ≠ 0) : pivP n t xs = q := findP_eq h2 hn (by omega) ht hz
theorem findP_says {n t : Nat} {xs : List Int} : ∀ {k p : Nat}, p + k = n → p ≤ findP n t xs k p ∧ findP n t xs k p ≤ n ∧ (∀ r, p ≤ r → r < findP n t xs k p → xs.getD (r * n + t) 0 = 0) ∧ (findP n t xs k p < n → xs.getD (findP n t xs k p * n + t) 0 ≠ 0) := by
  intro k
  induction k with
  | zero => intro p hk; exact ⟨Nat.le_refl _, by show p ≤ n; omega, fun r h1 h2 => absurd h2 (by show ¬ r < p; omega), fun h => absurd h (by show ¬ p < n; omega)⟩
  | succ k ih =>
    intro p hk
    by_cases h : xs.getD (p * n + t) 0 = 0
    · have e : findP n t xs (k + 1) p = findP n t xs k (p + 1) := if_pos h
      rw [e]
      obtain ⟨h1, h2, h3, h4⟩ := ih (p := p + 1) (by omega)
      refine ⟨by omega, h2, fun r h5 h6 => ?_, h4⟩
      rcases Nat.lt_or_ge p r with h7 | h7
      · exact h3 r h7 h6
      · obtain rfl : r = p := by omega
        exact h
    · have e : findP n t xs (k + 1) p = p := if_neg h
      rw [e]
      exact ⟨Nat.le_refl _, by omega, fun r h1 h2 => by omega, fun _ => h⟩
theorem pivP_says {n t : Nat} {xs : List Int} (ht : t ≤ n) : t ≤ pivP n t xs ∧ pivP n t xs ≤ n ∧ (∀ r, t ≤ r → r < pivP n t xs → xs.getD (r * n + t) 0 = 0) ∧ (pivP n t xs < n → xs.getD (pivP n t xs * n + t) 0 ≠ 0) := findP_says (by omega)
/-- The pivot's row is swapped with row t. -/
def pvL (n t : Nat) (xs : List Int) : List Int := if pivP n t xs = t then xs else opL 0 (pivP n t xs) t 0 n xs
/-- What a cell becomes in the step of row t. -/
def elAt (n t : Nat) (last : Int) (xs : List Int) (i j : Nat) : Int := (xs.getD (i * n + j) 0 * xs.getD (t * n + t) 0 - xs.getD (i * n + t) 0 * xs.getD (t * n + j) 0).tdiv last
def elL (n t : Nat) (last : Int) (xs : List Int) : List Int := tab n n fun i j => if t < i ∧ t < j then elAt n t last xs i j else xs.getD (i * n + j) 0
/-- k steps from row t on: the determinant and true, or 0 and false where a cell is beyond the limit. -/
def stR2 (n : Nat) : Nat → Nat → List Int → Int → Int → Int × Bool
  | 0, _, _, last, s => (s * last, true)
  | k + 1, t, xs, last, s =>
    if pivP n t xs = n then (0, true)
    else if nums (elL n t last (pvL n t xs)) = true then stR2 n k (t + 1) (elL n t last (pvL n t xs)) ((pvL n t xs).getD (t * n + t) 0) (if pivP n t xs = t then s else -s)
    else (0, false)
theorem stR2_none {n k t : Nat} {xs : List Int} {last s : Int} (h : pivP n t xs = n) : stR2 n (k + 1) t xs last s = (0, true) := if_pos h
theorem stR2_bad {n k t : Nat} {xs : List Int} {last s : Int} (h : pivP n t xs ≠ n) (h2 : nums (elL n t last (pvL n t xs)) ≠ true) : stR2 n (k + 1) t xs last s = (0, false) := by
  show (if _ then _ else if _ then _ else _) = _
  rw [if_neg h, if_neg h2]
theorem stR2_on {n k t : Nat} {xs : List Int} {last s : Int} (h : pivP n t xs ≠ n) (h2 : nums (elL n t last (pvL n t xs)) = true) : stR2 n (k + 1) t xs last s = stR2 n k (t + 1) (elL n t last (pvL n t xs)) ((pvL n t xs).getD (t * n + t) 0) (if pivP n t xs = t then s else -s) := by
  show (if _ then _ else if _ then _ else _) = _
  rw [if_neg h, if_pos h2]
theorem opL_swap {n p t i j : Nat} {xs : List Int} (hx : xs.length = n * n) (hi : i < n) (hj : j < n) : (opL 0 p t 0 n xs).getD (i * n + j) 0 = xs.getD ((if i = p then t else if i = t then p else i) * n + j) 0 := by
  have hp : i * n + j < xs.length := by rw [hx]; exact idx_lt hi hj
  unfold opL
  simp only [List.getD, List.getElem?_map, List.getElem?_range hp, Option.map_some, Option.getD_some]
  unfold opAt
  rw [if_pos rfl, idx_div hj, idx_mod hj]
  by_cases h1 : i = p
  · rw [if_pos h1, if_pos h1]; rfl
  · rw [if_neg h1, if_neg h1]
    by_cases h2 : i = t
    · rw [if_pos h2, if_pos h2]; rfl
    · rw [if_neg h2, if_neg h2]; rfl
theorem pvL_length (n t : Nat) (xs : List Int) : (pvL n t xs).length = xs.length := by unfold pvL; split; rfl; exact opL_length _ _ _ _ _ _
theorem pvL_at {n t i j : Nat} {xs : List Int} (hx : xs.length = n * n) (hi : i < n) (hj : j < n) : (pvL n t xs).getD (i * n + j) 0 = xs.getD ((if i = t then pivP n t xs else if i = pivP n t xs then t else i) * n + j) 0 := by
  unfold pvL
  by_cases h : pivP n t xs = t
  · rw [if_pos h, h]
    by_cases h1 : i = t
    · rw [if_pos h1, h1]
    · rw [if_neg h1, if_neg h1]
  · rw [if_neg h, opL_swap hx hi hj]
    by_cases h1 : i = t
    · rw [if_pos h1, if_neg (fun e => h (by rw [← e, h1])), if_pos h1]
    · rw [if_neg h1]
      by_cases h2 : i = pivP n t xs
      · rw [if_pos h2, if_neg h1]
      · rw [if_neg h2, if_neg h1]
theorem swR_self (A : Mx) (r : Nat) : swR A r r = A := by
  funext i j
  unfold swR
  by_cases h : i = r
  · rw [if_pos h, h]
  · rw [if_neg h, if_neg h]
/-- The steps end in the determinant. -/
theorem steps_det (n : Nat) (D : Int) (k : Nat) : ∀ (t : Nat) (xs : List Int) (last s : Int) (B : Mx) (d : Int), t + k = n → xs.length = n * n →
    (∀ i j, t ≤ i → i < n → t ≤ j → j < n → xs.getD (i * n + j) 0 = bm t i j B) → last = det t B → last ≠ 0 → s * det n B = D → stR2 n k t xs last s = (d, true) → d = D := by
  induction k with
  | zero =>
    intro t xs last s B d hk _ _ hl _ hD h
    obtain rfl : t = n := by omega
    have h : s * last = d := congrArg Prod.fst h
    rw [← h, hl, hD]
  | succ k ih =>
    intro t xs last s B d hk hx hc hl hl0 hD h
    obtain ⟨p1, p2, p3, p4⟩ := pivP_says (n := n) (t := t) (xs := xs) (by omega)
    have d0 : det t B ≠ 0 := by rw [← hl]; exact hl0
    by_cases hp : pivP n t xs = n
    · rw [stR2_none hp] at h
      have hz := no_pivot (n := n) B (by omega) d0 fun i h1 h2 => by rw [← hc i t h1 h2 (Nat.le_refl _) (by omega)]; exact p3 i h1 (by omega)
      have h : (0 : Int) = d := congrArg Prod.fst h
      rw [← h, ← hD, hz, Int.mul_zero]
    · by_cases hn : nums (elL n t last (pvL n t xs)) = true
      · rw [stR2_on hp hn] at h
        have hpn : pivP n t xs < n := by omega
        have hb := p4 hpn
        obtain ⟨p, hpe⟩ : ∃ p, pivP n t xs = p := ⟨_, rfl⟩
        have hy : ∀ i j, t ≤ i → i < n → t ≤ j → j < n → (pvL n t xs).getD (i * n + j) 0 = bm t i j (swR B t p) := fun i j h1 h2 h3 h4 => by
          rw [pvL_at hx h2 h4, hpe, bm_swap B (by omega)]
          rw [hpe] at p1 hpn
          by_cases e1 : i = t
          · rw [if_pos e1]; exact hc p j p1 hpn h3 h4
          · rw [if_neg e1]
            by_cases e2 : i = p
            · rw [if_pos e2]; exact hc t j (Nat.le_refl _) (by omega) h3 h4
            · rw [if_neg e2]; exact hc i j h1 h2 h3 h4
        have hd : det t (swR B t p) = det t B := det_swap_low B (by omega)
        have ht : t < n := by omega
        have htt := hy t t (Nat.le_refl _) ht (Nat.le_refl _) ht
        refine ih (t + 1) _ _ _ (swR B t p) d (by omega) (tab_length _ _ _) (fun i j h1 h2 h3 h4 => ?_) ?_ ?_ ?_ h
        · show (tab n n fun i j => if t < i ∧ t < j then elAt n t last (pvL n t xs) i j else (pvL n t xs).getD (i * n + j) 0).getD (i * n + j) 0 = _
          rw [tab_at n n _ h2 h4, if_pos ⟨h1, h3⟩]
          unfold elAt
          rw [hy i j (by omega) h2 (by omega) h4, htt, hy i t (by omega) h2 (Nat.le_refl _) ht, hy t j (Nat.le_refl _) ht (by omega) h4, hl, ← hd]
          have sy := sylvester t i j (swR B t p) (by rw [hd]; exact d0)
          rw [Int.mul_comm (bm t i j _), ← sy]
          exact Int.mul_tdiv_cancel_left _ (by rw [hd]; exact d0)
        · rw [htt, bm_diag]
        · rw [pvL_at hx ht ht, if_pos rfl]; exact hb
        · rw [hpe]
          by_cases e : p = t
          · rw [if_pos e, e, swR_self]; exact hD
          · rw [if_neg e, alt_swap (det_lin n) (det_alt n) (fun h => e h.symm) ht (by omega) B, Int.mul_neg, Int.neg_mul, Int.neg_neg]; exact hD
      · rw [stR2_bad hp hn] at h
        exact absurd (congrArg Prod.snd h) (by simp)
/-- What DeterminantBySteps answers, for a square matrix. -/
def stepsM (n : Nat) (xs : List Int) : Int × Bool := stR2 n n 0 xs 1 1
theorem stepsM_det {n : Nat} {xs : List Int} {d : Int} (hx : xs.length = n * n) (h : stepsM n xs = (d, true)) : d = det n (mxL n xs) :=
  steps_det n _ n 0 xs 1 1 (mxL n xs) d (by omega) hx (fun i j _ _ _ _ => (bm_zero i j (mxL n xs)).symm) rfl (by decide) (Int.one_mul _) h
end Go.Proofs.Ytdnajkoeojlnbaa
end

section
/-
  Chapter 3, in the program: IsMatrix.
-/
namespace Go.Proofs.Ytdnajkoeojlnbaa
open Go.RowKit

theorem iSize_t (n : Int) (w : World) (h1 : 0 ≤ n) (h2 : n ≤ 24) :
    Calls Try.prog 101 #[.int .i64 n] w fun e w' => e = .returned (.bool true) ∧ w = w' := by
  go_enter Try.func101, Try.ntmps101
  go_wp2
  go_ret
  exact ⟨rfl, rfl⟩
theorem iSize_f (n : Int) (w : World) (h : n < 0 ∨ 24 < n) :
    Calls Try.prog 101 #[.int .i64 n] w fun e w' => e = .returned (.bool false) ∧ w = w' := by
  by_cases h1 : 0 ≤ n
  · have h2 : decide (n ≤ 24) = false := by simp; omega
    go_enter Try.func101, Try.ntmps101
    go_wp2
    go_ret
    exact ⟨rfl, rfl⟩
  · go_enter Try.func101, Try.ntmps101
    go_wp2
    go_ret
    exact ⟨rfl, rfl⟩
theorem iSize (n : Int) (w : World) :
    Calls Try.prog 101 #[.int .i64 n] w fun e w' => e = .returned (.bool (decide (SizeP n))) ∧ w = w' := by
  by_cases h : SizeP n
  · rw [decide_eq_true h]; exact iSize_t n w h.1 h.2
  · rw [decide_eq_false h]; exact iSize_f n w (by unfold SizeP at h; omega)
theorem iIsNum (n : Int) (w : World) :
    Calls Try.prog 99 #[.int .i64 n] w fun e w' => e = .returned (.bool (decide (NumP n))) ∧ w = w' := by
  by_cases h : NumP n
  · rw [decide_eq_true h]; exact iIsNum_t n w h.1 h.2
  · rw [decide_eq_false h]; exact iIsNum_f n w (by unfold NumP at h; omega)
/-- The step of IsMatrix's fold. -/
theorem iStep (b : Bool) (i j z : Int) (w : World) :
    Calls Try.prog 103 #[.bool b, .int .i64 i, .int .i64 j, .int .i64 z] w fun e w' => e = .returned (.bool (b && decide (NumP z))) ∧ w = w' := by
  cases b
  · go_enter Try.func103, Try.ntmps103
    go_wp2_with fail
    go_ret
    exact ⟨rfl, rfl⟩
  · go_enter Try.func103, Try.ntmps103
    go_wp2_with fail
    refine (iIsNum z _).mono ?_
    rintro e w' ⟨rfl, rfl⟩
    go_wp2_with fail
    go_ret
    exact ⟨rfl, rfl⟩
theorem take_nums (zs : List Int) (k : Nat) (hk : k < zs.length) : nums (zs.take (k + 1)) = (nums (zs.take k) && decide (NumP (zs.getD k 0))) := by
  unfold nums
  rw [List.take_succ_eq_append_getElem hk, List.all_append]
  simp only [List.all_cons, List.all_nil, Bool.and_true, List.getD, List.getElem?_eq_getElem hk, Option.getD_some]
set_option maxHeartbeats 400000 in
theorem iFoldB (r c : Int) (a : Option Addr) (cap : Nat) (zs : List Int) (w : World) (h : Rd w a zs) (hn : zs.length ≤ 16777216) (hc : zs.length = 0 ∨ 0 < c) :
    Calls Try.prog 102 #[.agg #[.int .i64 r, .int .i64 c, .slice a zs.length cap], .bool true, .func (.func 103) #[] #[]] w (Gives (.bool (nums zs)) w) := by
  have B0 : ∀ o, Below w.heap.size w (w.alloc o) := fun o => (Below.refl _ _).alloc (Nat.le_refl _) o
  have BH := Lib.hid B0
  have H := Lib.hid h
  obtain ⟨n, hnn⟩ : ∃ n, zs.length = n := ⟨_, rfl⟩
  have HN := Lib.hid hnn
  rw [hnn] at hn hc ⊢
  clear h B0 hnn
  go_enter Try.func102, Try.ntmps102
  go_wp2_with fail
  go_loopw [7, 8, 9, 14] (fun b _ _ i wr => ∃ k : Nat, i = .int .i64 k ∧ k ≤ n ∧ b = .bool (nums (zs.take k)) ∧ ∃ q, wr = (w.alloc (.cells #[.int .i64 r, .int .i64 c, .slice a n cap] 27)).drewN q) (fun _ _ _ i _ => n - (intOf i).toNat)
  case atStart => exact ⟨0, rfl, by omega, rfl, 0, rfl⟩
  case round =>
    obtain ⟨k, rfl, hk, rfl, q, rfl⟩ := hrel
    by_cases hlt : k < n
    · have c0 : (c == 0) = false := by simp; omega
      obtain ⟨b, o, rfl, hcell⟩ := (H.out.below (BH.out (.cells #[.int .i64 r, .int .i64 c, .slice a n cap] 27))) k (by rw [HN.out]; exact hlt)
      obtain ⟨z, hz⟩ : ∃ z, zs.getD k 0 = z := ⟨_, rfl⟩
      obtain ⟨bb, hbb⟩ : ∃ bb, nums (zs.take k) = bb := ⟨_, rfl⟩
      rw [hz] at hcell
      have Z := Lib.hid hz
      have BB := Lib.hid hbb
      rw [hbb]
      clear hz hbb
      go_wp2_with fail
      go_quiet ((refine (iStep _ _ _ _ _).mono ?_; rintro e w' ⟨rfl, rfl⟩; exact ⟨rfl, _, rfl⟩))
      go_wp2_with fail
      go_roundw
      case rel => exact ⟨k + 1, by go_num, by omega, by rw [take_nums zs k (by rw [HN.out]; exact hlt), BB.out, Z.out], _, rfl⟩
      case measure => simp [intOf]; omega
    · have hkn : k = n := by omega
      subst hkn
      have E : Hid (nums (zs.take k) = nums zs) := by show nums (zs.take k) = nums zs; rw [← HN.out, List.take_length]
      go_wp2_with fail
      go_ret
      exact ⟨by rw [E.out]; rfl, below_drewN (BH.out _) q⟩

set_option maxHeartbeats 400000 in
theorem iIsMat (r c : Int) (a : Option Addr) (cap : Nat) (zs : List Int) (w : World) (h : Rd w a zs) (hn : zs.length ≤ 16777216) :
    Calls Try.prog 57 #[.agg #[.int .i64 r, .int .i64 c, .slice a zs.length cap]] w (Gives (.bool (isMat r c zs)) w) := by
  have B0 : ∀ o, Below w.heap.size w (w.alloc o) := fun o => (Below.refl _ _).alloc (Nat.le_refl _) o
  have BH := Lib.hid B0
  have H := Lib.hid h
  clear h B0
  obtain ⟨n, hnn⟩ : ∃ n, zs.length = n := ⟨_, rfl⟩
  have HN := Lib.hid hnn
  have ED : isMat r c zs = (decide (SizeP r) && decide (SizeP c) && decide ((n : Int) = r * c) && nums zs) := by unfold isMat; rw [hnn]
  have E := Lib.hid ED
  rw [hnn] at hn ⊢
  clear hnn ED
  by_cases hr : 0 ≤ r ∧ r ≤ 24
  · by_cases hc : 0 ≤ c ∧ c ≤ 24
    · obtain ⟨m1, m2⟩ := mul_size r c hr hc
      by_cases hl : (n : Int) = r * c
      · have l1 : ((n : Int) != r * c) = false := by simpa using hl
        have l2 : ((n : Int) == r * c) = true := by simpa using hl
        have E2 : Hid (isMat r c zs = nums zs) := by
          show isMat r c zs = nums zs
          rw [E.out, show decide (SizeP r) = true from decide_eq_true hr, show decide (SizeP c) = true from decide_eq_true hc, show decide ((n : Int) = r * c) = true from decide_eq_true hl]; rfl
        have hz : zs.length = 0 ∨ 0 < c := by
          rw [HN.out]
          rcases Nat.eq_zero_or_pos n with e | e
          · exact .inl e
          · right
            rcases Int.lt_or_lt_of_ne (a := c) (b := 0) (fun e0 => by rw [e0, Int.mul_zero] at hl; omega) with h | h <;> omega
        have HZ := Lib.hid hz
        clear hl hz
        obtain ⟨r1, r2⟩ := hr
        obtain ⟨c1, c2⟩ := hc
        go_enter Try.func57, Try.ntmps57
        go_wp2_with (go_at_call 101; refine (iSize_t _ _ (by omega) (by omega)).mono ?_; rintro e w' ⟨rfl, rfl⟩)
        have ST := iFoldB r c a cap zs _ (H.out.below (BH.out (.cells #[.int .i64 r, .int .i64 c, .slice a n cap] 27))) (by rw [HN.out]; exact hn) HZ.out
        rw [HN.out] at ST
        refine ST.mono ?_
        clear ST
        rintro e w' ⟨rfl, hb⟩
        have HB := Lib.hid ((BH.out _).trans (hb.mono (BH.out (.cells #[.int .i64 r, .int .i64 c, .slice a n cap] 27)).size))
        clear hb
        go_wp2_with fail
        go_ret
        exact ⟨by rw [E2.out]; rfl, HB.out⟩
      · have l1 : ((n : Int) != r * c) = true := by simpa using hl
        have l2 : ((n : Int) == r * c) = false := by simpa using hl
        have E2 : Hid (isMat r c zs = false) := by
          show isMat r c zs = false
          rw [E.out, show decide ((n : Int) = r * c) = false from decide_eq_false hl]; simp
        clear hl
        obtain ⟨r1, r2⟩ := hr
        obtain ⟨c1, c2⟩ := hc
        go_enter Try.func57, Try.ntmps57
        go_wp2_with (go_at_call 101; refine (iSize_t _ _ (by omega) (by omega)).mono ?_; rintro e w' ⟨rfl, rfl⟩)
        go_ret
        exact ⟨by rw [E2.out]; rfl, BH.out _⟩
    · have E2 : Hid (isMat r c zs = false) := by
        show isMat r c zs = false
        rw [E.out, show decide (SizeP c) = false from decide_eq_false hc]; simp
      have hc' : c < 0 ∨ 24 < c := by omega
      clear hc
      go_enter Try.func57, Try.ntmps57
      go_wp2_with fail
      refine (iSize_t r _ hr.1 hr.2).mono ?_
      rintro e w' ⟨rfl, rfl⟩
      go_wp2_with fail
      refine (iSize_f c _ hc').mono ?_
      rintro e w' ⟨rfl, rfl⟩
      go_wp2_with fail
      go_ret
      exact ⟨by rw [E2.out]; rfl, BH.out _⟩
  · have E2 : Hid (isMat r c zs = false) := by
      show isMat r c zs = false
      rw [E.out, show decide (SizeP r) = false from decide_eq_false hr]; simp
    have hr' : r < 0 ∨ 24 < r := by omega
    clear hr
    go_enter Try.func57, Try.ntmps57
    go_wp2_with fail
    refine (iSize_f r _ hr').mono ?_
    rintro e w' ⟨rfl, rfl⟩
    go_wp2_with fail
    go_ret
    exact ⟨by rw [E2.out]; rfl, BH.out _⟩
end Go.Proofs.Ytdnajkoeojlnbaa
end

section
/-
  Plain mathematics of chapter 6: a step of the elimination, cell by cell. Nothing of a program is used.
-/
namespace Go.Proofs.Ytdnajkoeojlnbaa

theorem tab_self {n : Nat} {xs : List Int} (hx : xs.length = n * n) : (tab n n fun i j => xs.getD (i * n + j) 0) = xs := (tab_ext hx fun _ _ _ _ => rfl).symm
/-- The cells ahead of row i, column j are done. -/
def elTo (n t : Nat) (last : Int) (xs : List Int) (i j : Nat) : List Int := tab n n fun p q => if t < p ∧ t < q ∧ (p < i ∨ (p = i ∧ q < j)) then elAt n t last xs p q else xs.getD (p * n + q) 0
theorem elTo_length (n t : Nat) (last : Int) (xs : List Int) (i j : Nat) : (elTo n t last xs i j).length = n * n := tab_length _ _ _
theorem elTo_at {n t : Nat} {last : Int} {xs : List Int} {i j p q : Nat} (hp : p < n) (hq : q < n) : (elTo n t last xs i j).getD (p * n + q) 0 = if t < p ∧ t < q ∧ (p < i ∨ (p = i ∧ q < j)) then elAt n t last xs p q else xs.getD (p * n + q) 0 := tab_at n n _ hp hq
theorem elTo_old {n t : Nat} {last : Int} {xs : List Int} {i j p q : Nat} (hp : p < n) (hq : q < n) (h : p ≤ t ∨ q ≤ t ∨ (p = i ∧ j ≤ q)) : (elTo n t last xs i j).getD (p * n + q) 0 = xs.getD (p * n + q) 0 := by
  rw [elTo_at hp hq, if_neg (by omega)]
theorem elTo_start {n t : Nat} {last : Int} {xs : List Int} (hx : xs.length = n * n) : elTo n t last xs (t + 1) (t + 1) = xs := by
  refine (tab_ext hx fun i j _ _ => ?_).symm
  rw [if_neg (by omega)]
theorem elTo_step {n t : Nat} {last : Int} {xs : List Int} {i j : Nat} (hi : i < n) (hj : j < n) (ti : t < i) (tj : t < j) : (elTo n t last xs i j).set (i * n + j) (elAt n t last xs i j) = elTo n t last xs i (j + 1) := by
  refine tab_ext (by rw [List.length_set, elTo_length]) fun p q hp hq => ?_
  rw [getD_set _ _ _ _ (by rw [elTo_length]; exact idx_lt hi hj), elTo_at hp hq]
  by_cases e : p * n + q = i * n + j
  · obtain ⟨rfl, rfl⟩ := idx_inj hq hj e
    rw [if_pos rfl, if_pos (by omega)]
  · rw [if_neg e]
    have : ¬ (p = i ∧ q = j) := fun h => e (by rw [h.1, h.2])
    by_cases h : t < p ∧ t < q ∧ (p < i ∨ (p = i ∧ q < j))
    · rw [if_pos h, if_pos (by omega)]
    · rw [if_neg h, if_neg (by omega)]
theorem elTo_row {n t : Nat} {last : Int} {xs : List Int} {i : Nat} : elTo n t last xs i n = elTo n t last xs (i + 1) (t + 1) := by
  refine tab_ext (elTo_length _ _ _ _ _ _) fun p q hp hq => ?_
  rw [elTo_at hp hq]
  by_cases h : t < p ∧ t < q ∧ (p < i ∨ (p = i ∧ q < n))
  · rw [if_pos h, if_pos (by omega)]
  · rw [if_neg h, if_neg (by omega)]
theorem elTo_all {n t : Nat} {last : Int} {xs : List Int} : elTo n t last xs n (t + 1) = elL n t last xs := by
  refine tab_ext (elTo_length _ _ _ _ _ _) fun p q hp hq => ?_
  rw [elTo_at hp hq]
  by_cases h : t < p ∧ t < q
  · rw [if_pos h, if_pos (by omega)]
  · rw [if_neg h, if_neg (by omega)]
theorem nums_set {zs : List Int} {k : Nat} {z : Int} (h : nums zs = true) (hz : NumP z) : nums (zs.set k z) = true := by
  rcases Nat.lt_or_ge k zs.length with hk | hk
  · refine nums_true fun j hj => ?_
    rw [List.length_set] at hj
    rw [getD_set _ _ _ _ hk]
    by_cases e : j = k
    · rw [if_pos e]; exact hz
    · rw [if_neg e]; exact nums_at h hj
  · rw [List.set_eq_of_length_le hk]; exact h
theorem elL_bad {n t : Nat} {last : Int} {xs : List Int} {i j : Nat} (hi : i < n) (hj : j < n) (ti : t < i) (tj : t < j) (h : ¬ NumP (elAt n t last xs i j)) : nums (elL n t last xs) ≠ true := by
  have := nums_false (zs := elL n t last xs) (j := i * n + j) (by rw [show (elL n t last xs).length = n * n from tab_length _ _ _]; exact idx_lt hi hj) (by rw [show (elL n t last xs).getD (i * n + j) 0 = elAt n t last xs i j from (tab_at n n _ hi hj).trans (if_pos ⟨ti, tj⟩)]; exact h)
  rw [this]; decide
theorem elL_tt {n t : Nat} {last : Int} {xs : List Int} (ht : t < n) : (elL n t last xs).getD (t * n + t) 0 = xs.getD (t * n + t) 0 := (tab_at n n _ ht ht).trans (if_neg (by omega))
theorem tdiv_in {x y b : Int} (h1 : -b ≤ x) (h2 : x ≤ b) : -b ≤ x.tdiv y ∧ x.tdiv y ≤ b := by
  have e : (x.tdiv y).natAbs = x.natAbs / y.natAbs := Int.natAbs_tdiv x y
  have l := Nat.div_le_self x.natAbs y.natAbs
  omega
/-- The swap makes numbers of numbers. -/
theorem pvL_nums {n t : Nat} {xs : List Int} (hx : xs.length = n * n) (hp : pivP n t xs < n) (ht : t < n) (h : nums xs = true) : nums (pvL n t xs) = true := by
  refine nums_true fun p hp' => ?_
  rw [pvL_length, hx] at hp'
  have e : p = p / n * n + p % n := by rw [Nat.mul_comm]; exact (Nat.div_add_mod p n).symm
  have h1 : p / n < n := Nat.div_lt_of_lt_mul hp'
  have h2 : p % n < n := Nat.mod_lt p (by omega)
  rw [e, pvL_at hx h1 h2]
  refine nums_at h ?_
  rw [hx]
  refine idx_lt ?_ h2
  split
  · exact hp
  · split
    · exact ht
    · exact h1
end Go.Proofs.Ytdnajkoeojlnbaa
end

section
/-
  Plain mathematics of chapter 6: determinants of the last of some rows in a set of columns, the columns as the bits of a number. Nothing of a program is used.
-/
namespace Go.Proofs.Ytdnajkoeojlnbaa

/-- The columns of a set, in order. -/
def colsL (n S : Nat) : List Nat := (List.range n).filter fun c => S.testBit c
/-- A set without a column, as 64 bits. -/
def lessS (S c : Nat) : Nat := S &&& (18446744073709551615 - 2 ^ c)
/-- A square matrix: the last rows, as many as there are columns. -/
def rowsD (xs : List Int) (n : Nat) (rows cs : List Nat) : List Int := tab cs.length cs.length fun i j => xs.getD (rows.getD (rows.length - cs.length + i) 0 * n + cs.getD j 0) 0
def setD (n : Nat) (xs : List Int) (rows : List Nat) (S : Nat) : Int := detB (colsL n S).length (rowsD xs n rows (colsL n S))
theorem colsL_succ (c S : Nat) : colsL (c + 1) S = if S.testBit c then colsL c S ++ [c] else colsL c S := by
  unfold colsL
  rw [List.range_succ, List.filter_append]
  by_cases h : S.testBit c = true
  · rw [if_pos h]; simp [h]
  · rw [if_neg h]; simp [h]
theorem colsL_in {c S : Nat} (h : S.testBit c = true) : (colsL (c + 1) S).length = (colsL c S).length + 1 := by rw [colsL_succ, if_pos h]; simp
theorem colsL_out {c S : Nat} (h : S.testBit c = false) : colsL (c + 1) S = colsL c S := by rw [colsL_succ, if_neg (by rw [h]; decide)]
theorem colsL_pre {c n S : Nat} (h : c ≤ n) : ∃ r, colsL n S = colsL c S ++ r := by
  obtain ⟨k, rfl⟩ := Nat.exists_eq_add_of_le h
  unfold colsL
  rw [List.range_add, List.filter_append]
  exact ⟨_, rfl⟩
theorem colsL_at {c n S : Nat} (hc : c < n) (h : S.testBit c = true) : (colsL c S).length < (colsL n S).length ∧ (colsL n S).getD (colsL c S).length 0 = c := by
  obtain ⟨r, e⟩ := colsL_pre (S := S) (show c + 1 ≤ n from hc)
  rw [e, colsL_succ, if_pos h]
  refine ⟨by simp, ?_⟩
  simp [List.getD]
theorem colsL_le {c n S : Nat} (h : c ≤ n) : (colsL c S).length ≤ (colsL n S).length := by
  obtain ⟨r, e⟩ := colsL_pre (S := S) h
  rw [e, List.length_append]; omega
theorem colsL_less : ∀ n, n ≤ 6 → ∀ S, S < 64 → ∀ c, c < n → S.testBit c = true → colsL n (lessS S c) = (colsL n S).eraseIdx (colsL c S).length ∧ lessS S c < 64 := by
  decide +kernel
theorem lessS_lt : ∀ n, n ≤ 6 → ∀ S, S < 2 ^ n → ∀ c, c < n → lessS S c < 2 ^ n := by
  decide +kernel
theorem colsL_none : ∀ n, n ≤ 6 → ∀ S, S < 2 ^ n → (colsL n S).length = 0 → S = 0 := by
  decide +kernel
theorem colsL_full : ∀ n, n ≤ 6 → colsL n (2 ^ n - 1) = List.range n := by decide +kernel
theorem colsL_fullLess : ∀ n, n ≤ 6 → ∀ j, j < n → colsL n (lessS (2 ^ n - 1) j) = (List.range n).eraseIdx j := by decide +kernel
theorem colsL_zero (n : Nat) : colsL n 0 = [] := by unfold colsL; simp
theorem erase_getD (cs : List Nat) (t j : Nat) : (cs.eraseIdx t).getD j 0 = cs.getD (skp t j) 0 := by
  unfold skp
  rw [List.getD, List.getD, List.getElem?_eraseIdx]
  split <;> rfl
theorem rowsD_minor (xs : List Int) (n : Nat) (rows cs : List Nat) (k t : Nat) (hc : cs.length = k + 1) (hr : k + 1 ≤ rows.length) (ht : t < k + 1) :
    woL (k + 1) 0 (t : Int) (rowsD xs n rows cs) ((k + 1) * (k + 1)) = rowsD xs n rows (cs.eraseIdx t) := by
  have hl : (cs.eraseIdx t).length = k := by rw [List.length_eraseIdx, hc, if_pos ht]; omega
  have e := woL_tab k 0 t (rowsD xs n rows cs) (by omega) ht
  rw [show ((0 : Nat) : Int) = 0 from rfl] at e
  rw [e]
  unfold rowsD
  rw [hl, hc]
  have hl2 : (tab k k fun i j => xs.getD (rows.getD (rows.length - k + i) 0 * n + (cs.eraseIdx t).getD j 0) 0).length = k * k := tab_length _ _ _
  refine (tab_ext hl2 fun i j hi hj => ?_).symm
  rw [tab_at k k _ hi hj, tab_at (k + 1) (k + 1) _ (skp_lt hi) (skp_lt hj), erase_getD, skp_zero]
  rw [show rows.length - (k + 1) + (i + 1) = rows.length - k + i by omega]
/-- What the expansion of k + 1 columns meets. -/
theorem setD_first {xs : List Int} {n : Nat} {rows cs : List Nat} {k : Nat} (hc : cs.length = k + 1) (j : Nat) (hj : j < k + 1) : (rowsD xs n rows cs).getD j 0 = xs.getD (rows.getD (rows.length - (k + 1)) 0 * n + cs.getD j 0) 0 := by
  have := tab_at (k + 1) (k + 1) (fun i j => xs.getD (rows.getD (rows.length - (k + 1) + i) 0 * n + cs.getD j 0) 0) (show 0 < k + 1 by omega) hj
  rw [Nat.zero_mul, Nat.zero_add, Nat.add_zero] at this
  unfold rowsD
  rw [hc]
  exact this
theorem setD_zero (n : Nat) (xs : List Int) (rows : List Nat) : setD n xs rows 0 = 1 := by unfold setD; rw [colsL_zero]; rfl
theorem setD_or (n : Nat) (xs : List Int) (rows : List Nat) (S : Nat) : setD n xs rows S = badN ∨ NumP (setD n xs rows S) := detB_or _ _
theorem mnB_less {n S c k : Nat} {xs : List Int} {rows : List Nat} (h6 : n ≤ 6) (hS : S < 64) (hc : c < n) (hb : S.testBit c = true) (hk : (colsL n S).length = k + 1) (hr : k + 1 ≤ rows.length) :
    mnB k (rowsD xs n rows (colsL n S)) (colsL c S).length = setD n xs rows (lessS S c) := by
  obtain ⟨e, -⟩ := colsL_less n h6 S hS c hc hb
  have hp := (colsL_at hc hb).1
  unfold mnB setD
  rw [e, List.length_eraseIdx, hk, if_pos (by omega), Nat.add_sub_cancel, rowsD_minor xs n rows _ k _ hk hr (by omega)]
theorem less_card {n S c k : Nat} (h6 : n ≤ 6) (hS : S < 64) (hc : c < n) (hb : S.testBit c = true) (hk : (colsL n S).length = k + 1) : (colsL n (lessS S c)).length = k := by
  obtain ⟨e, -⟩ := colsL_less n h6 S hS c hc hb
  have hp := (colsL_at hc hb).1
  rw [e, List.length_eraseIdx, hk, if_pos (by omega)]; omega
/-- All rows, all columns. -/
theorem setD_all {n : Nat} {xs : List Int} (h6 : n ≤ 6) (hx : xs.length = n * n) : setD n xs (List.range n) (2 ^ n - 1) = detB n xs := by
  unfold setD
  rw [colsL_full n h6]
  unfold rowsD
  simp only [List.length_range, Nat.sub_self, Nat.zero_add]
  congr 1
  refine (tab_ext hx fun i j hi hj => ?_).symm
  simp [List.getD, hi, hj]
/-- The rows but one. -/
def rowsBut (n : Nat) (e : Int) : List Nat := (List.range n).filter fun (r : Nat) => decide ((r : Int) ≠ e)
theorem rowsBut_all (n : Nat) : rowsBut n (-1) = List.range n := by
  unfold rowsBut
  refine List.filter_eq_self.mpr fun r _ => decide_eq_true (by omega)
theorem rowsBut_one : ∀ n, n ≤ 6 → ∀ i : Nat, i < n → rowsBut n (i : Int) = (List.range (n - 1)).map (skp i) := by decide +kernel
theorem rowsBut_le (n : Nat) (e : Int) : (rowsBut n e).length ≤ n := by
  unfold rowsBut
  have := List.length_filter_le (fun (r : Nat) => decide ((r : Int) ≠ e)) (List.range n)
  simpa using this
theorem rowsBut_lt {n : Nat} {e : Int} {k : Nat} (h : k < (rowsBut n e).length) : (rowsBut n e).getD k 0 < n := by
  have := List.getElem_mem h
  rw [List.getD, List.getElem?_eq_getElem h]
  unfold rowsBut at this
  exact List.mem_range.mp (List.mem_filter.mp this).1
theorem rowsBut_in {e : Int} {r : Nat} (h : (r : Int) ≠ e) : rowsBut (r + 1) e = rowsBut r e ++ [r] := by
  unfold rowsBut
  rw [List.range_succ, List.filter_append]
  simp [h]
theorem rowsBut_out {e : Int} {r : Nat} (h : (r : Int) = e) : rowsBut (r + 1) e = rowsBut r e := by
  unfold rowsBut
  rw [List.range_succ, List.filter_append]
  simp [h]
theorem setD_cross {n i j : Nat} {xs : List Int} (h6 : n ≤ 6) (hx : xs.length = n * n) (hi : i < n) (hj : j < n) : setD n xs (rowsBut n i) (lessS (2 ^ n - 1) j) = detB (n - 1) (woL n i j xs (n * n)) := by
  obtain ⟨p, rfl⟩ : ∃ p, n = p + 1 := ⟨n - 1, by omega⟩
  rw [woL_tab p i j xs hi hj]
  unfold setD
  rw [colsL_fullLess _ h6 j hj, rowsBut_one _ h6 i hi]
  have hl : ((List.range (p + 1)).eraseIdx j).length = p := by rw [List.length_eraseIdx, List.length_range, if_pos hj]; omega
  unfold rowsD
  rw [hl]
  show detB p _ = detB p _
  congr 1
  have hl2 : (tab p p fun a b => xs.getD (skp i a * (p + 1) + skp j b) 0).length = p * p := tab_length _ _ _
  refine (tab_ext hl2 fun a b ha hb => ?_).symm
  rw [tab_at p p _ ha hb, erase_getD]
  have h1 := skp_lt (j := j) hb
  simp [List.getD, ha, h1]
end Go.Proofs.Ytdnajkoeojlnbaa
end

section
/-
  Chapter 6, in the program: a block of five cells, a map of determinants, clear. No function of the program is named.
-/
namespace Go.Proofs.Ytdnajkoeojlnbaa
open Go.RowKit Go.Maps

/-- A block of five cells, none of them frozen. -/
def Blk5 (w : World) (b : Nat) (t : TypeId) (p q r s u : Value) : Prop := w.heap[b]? = some (.cells #[p, q, r, s, u] t (0, 0))
theorem Blk5.all {w : World} {b : Nat} {t : TypeId} {p q r s u : Value} (h : Blk5 w b t p q r s u) : w.cell? ⟨b, 0, none⟩ = some p ∧ w.cell? ⟨b, 1, none⟩ = some q ∧ w.cell? ⟨b, 2, none⟩ = some r ∧ w.cell? ⟨b, 3, none⟩ = some s ∧ w.cell? ⟨b, 4, none⟩ = some u := by
  unfold Blk5 at h
  simp [World.cell?, h]
theorem Blk5.free {w : World} {b : Nat} {t : TypeId} {p q r s u : Value} (h : Blk5 w b t p q r s u) (o : Nat) : w.frozen? ⟨b, o, none⟩ = false := by unfold Blk5 at h; simp [World.frozen?, h]
theorem Blk5.lt {w : World} {b : Nat} {t : TypeId} {p q r s u : Value} (h : Blk5 w b t p q r s u) : b < w.heap.size := lt_of_block h
theorem Blk5.move {w w' : World} {b : Nat} {t : TypeId} {p q r s u : Value} (h : Blk5 w b t p q r s u) (e : w'.heap[b]? = w.heap[b]?) : Blk5 w' b t p q r s u := e.trans h
theorem Blk5.keep {w w' : World} {b B : Nat} {t : TypeId} {p q r s u : Value} (h : Blk5 w b t p q r s u) (hb : Below B w w') (hB : b < B) : Blk5 w' b t p q r s u := h.move (hb.block b hB)
theorem Blk5.old {w : World} {b : Nat} {t : TypeId} {p q r s u : Value} (h : Blk5 w b t p q r s u) (o : Obj) : Blk5 (w.alloc o) b t p q r s u := h.move (Below.heap_alloc w o b h.lt)
theorem Blk5.frs {w w' : World} {b : Nat} {t : TypeId} {p q r s u : Value} {pr : Nat → Prop} (h : Blk5 w b t p q r s u) (hf : FrS pr w w') (hb : ¬ pr b) : Blk5 w' b t p q r s u := h.move (hf.block b h.lt hb)
theorem Blk5.one {w w' : World} {b c : Nat} {t : TypeId} {p q r s u : Value} (h : Blk5 w b t p q r s u) (hg : w.grownBy w' (some c)) (hne : b ≠ c) : Blk5 w' b t p q r s u := h.move (hg.block b h.lt (by simpa using hne))
theorem Blk5.grown {w w' : World} {b : Nat} {row : Option Nat} {t : TypeId} {p q r s u : Value} (h : Blk5 w b t p q r s u) (hg : w.grownBy w' row) (hne : some b ≠ row) : Blk5 w' b t p q r s u := h.move (hg.block b h.lt hne)
theorem Blk5.at_ {w : World} {b : Nat} (t : TypeId) (p q r s u : Value) (hb : b = w.heap.size) : Blk5 (w.alloc (.cells #[p, q, r, s, u] t)) b t p q r s u := by
  subst hb; unfold Blk5; show (w.heap.push _)[w.heap.size]? = _
  rw [Array.getElem?_push, if_pos rfl]
theorem Blk5.set3 {w : World} {b : Nat} {t : TypeId} {p q r s u : Value} (h : Blk5 w b t p q r s u) (v : Value) : Blk5 (w.setCell ⟨b, 3, none⟩ v) b t p q r v u := by
  have hlt := h.lt
  unfold Blk5 at h ⊢
  have h' : w.heap[b] = .cells #[p, q, r, s, u] t (0, 0) := by simpa [Array.getElem?_eq_getElem hlt] using h
  show (w.heap.modify b _)[b]? = _
  rw [Array.getElem?_eq_getElem (by simpa using hlt), Array.getElem_modify_self, h']
  rfl
/-- A map of ints by sets of columns. -/
def Mp (w : World) (bm c : Nat) (D : DataW Unit) : Prop := w.ownsMap Try.prog 68 (plainElem Try.prog 3) bm c D
theorem keyed_cols : Keyed Try.prog 68 := int_keyed (q := .u64) (by kernel_rfl)
theorem und_cols : Try.prog.underlying 68 = some (.int .u64) := by kernel_rfl
theorem und_map : Try.prog.underlying 87 = some (.map 68 3) := by kernel_rfl
theorem und_int : Try.prog.underlying 3 = some (.int .i64) := by kernel_rfl
theorem zero_int (w : World) : (zeroValue 3).run Try.prog w = .ok (.int .i64 0) w := by kernel_rfl
theorem Mp.lt {w : World} {bm c : Nat} {D : DataW Unit} (h : Mp w bm c D) : bm < w.heap.size := World.ownsMap.lt h
theorem Mp.made (w : World) : Mp (w.alloc (.map #[] 0)) w.heap.size 0 (.map []) := World.ownsMap_made w _ _ _
theorem Mp.kept {w w' : World} {bm c : Nat} {D : DataW Unit} {row : Option Nat} (h : Mp w bm c D) (hg : w.grownBy w' row) (hne : some bm ≠ row) : Mp w' bm c D := World.ownsMap.kept h hg hne
theorem Mp.move {w w' : World} {bm c : Nat} {D : DataW Unit} (h : Mp w bm c D) (e : w'.heap[bm]? = w.heap[bm]?) : Mp w' bm c D := by
  obtain ⟨es, clock, hb, r⟩ := h
  exact ⟨es, clock, e.trans hb, r⟩
theorem Mp.mono {w : World} {bm c c' : Nat} {D : DataW Unit} (h : Mp w bm c D) (hc : c ≤ c') : Mp w bm c' D := World.ownsMap.mono h hc
theorem Mp.ne5 {w : World} {bm c b : Nat} {D : DataW Unit} {t : TypeId} {p q r s u : Value} (h : Mp w bm c D) (k : Blk5 w b t p q r s u) : b ≠ bm := by
  obtain ⟨es, clock, hb, -⟩ := h
  rintro rfl
  unfold Blk5 at k
  rw [hb] at k
  cases k
theorem Mp.ne3 {w : World} {bm c b : Nat} {D : DataW Unit} {t : TypeId} {p q r : Value} (h : Mp w bm c D) (k : Blk3 w b t p q r) : b ≠ bm := by
  obtain ⟨es, clock, hb, -⟩ := h
  rintro rfl
  unfold Blk3 at k
  rw [hb] at k
  cases k
theorem Mp.neCell {w : World} {bm c b : Nat} {D : DataW Unit} {o : Nat} {v : Value} (h : Mp w bm c D) (k : w.cell? ⟨b, o, none⟩ = some v) : b ≠ bm := by
  obtain ⟨es, clock, hb, -⟩ := h
  rintro rfl
  simp [World.cell?, hb] at k
theorem Mp.neInts {w : World} {bm c g : Nat} {D : DataW Unit} {zs : List Int} (h : Mp w bm c D) (k : Ints w g zs) : g ≠ bm := by
  obtain ⟨es, clock, hb, -⟩ := h
  obtain ⟨rest, k⟩ := k
  rintro rfl
  rw [hb] at k
  cases k
theorem Rd.map {w w' : World} {bm c : Nat} {D : DataW Unit} {a : Option Addr} {zs : List Int} (h : Rd w a zs) (hm : Mp w bm c D) (hg : w.grownBy w' (some bm)) : Rd w' a zs := fun i hi => by
  obtain ⟨b, o, ha, hc⟩ := h i hi
  exact ⟨b, o, ha, hg.cell hc (by simpa using hm.neCell hc)⟩
/-- clear. -/
theorem Mp.clear {w : World} {bm c : Nat} {D : DataW Unit} (h : Mp w bm c D) (ty : TypeId) :
    ∃ w', (Builtin.clear_ #[87] ty #[.map (some bm)]).run Try.prog w = .ok (.tuple #[]) w' ∧ Mp w' bm 0 (.map []) ∧ w.grownBy w' (some bm) := by
  obtain ⟨es, clock, hb, -⟩ := h
  refine ⟨ChangeMaps.setBlock w bm (.map #[] clock), ?_, ⟨#[], clock, ChangeMaps.heap_setBlock_same hb _, ⟨by simp, MapKept.stamped_empty clock, by simp⟩, Nat.le_refl _, rfl⟩, ⟨rfl, rfl, rfl, by simp [ChangeMaps.setBlock], fun i _ hi => ChangeMaps.heap_setBlock_other hb _ (fun e => hi (by rw [e]))⟩⟩
  simp [Builtin.clear_, run_underlying und_map, MapKept.run_getObj_map hb, MapKept.run_setObj_map _ hb, Result.andThen, ChangeMaps.setBlock]
/-- clear, at the operation. -/
theorem wpList_clear_own (w : World) {ops : Array Oper} {rest : List Oper} {o : Oper} {a : Act} {Q : Exit → Act → World → Prop} (hg : o.guard = none) (m : Operand) (hop : o.op = Op.call { callee := Callee.builtin Builtin.clear, args := #[m], argTypes := #[87] })
    (bm c : Nat) (D : DataW Unit) (hm : a.eval m = .map (some bm)) (hown : Mp w bm c D)
    (hK : ∀ w', Mp w' bm 0 (.map []) → w.grownBy w' (some bm) → wpList Try.prog ops Q rest (a.put o.dst (.tuple #[])) w') : wpList Try.prog ops Q (o :: rest) a w := by
  refine wpList_plain hg fun K' hK' => ?_
  obtain ⟨w', hrun, r1, r2⟩ := hown.clear o.type
  unfold Oper.wp
  simp [execOp, hop, resolve, invoke, builtin, hm, hrun, Result.andThen]
  exact hK' _ _ (hK w' r1 r2)
/-- Each determinant that the map has is the right one, and a number. -/
def Memo (n : Nat) (xs : List Int) (rows : List Nat) (D : DataW Unit) : Prop := ∀ S : Nat, Maps.has D (.int .u64 (S : Int)) = true → setD n xs rows S ≠ badN ∧ D.atKey (.int .u64 (S : Int)) (.lit (.int .i64 0)) = .lit (.int .i64 (setD n xs rows S))
theorem Memo.none (n : Nat) (xs : List Int) (rows : List Nat) : Memo n xs rows (.map []) := fun S h => by
  unfold Maps.has at h
  simp at h
theorem Memo.put {n : Nat} {xs : List Int} {rows : List Nat} {D : DataW Unit} (h : Memo n xs rows D) (hD : IsMap D) (S : Nat) (hb : setD n xs rows S ≠ badN) : Memo n xs rows (D.put (.int .u64 (S : Int)) (.lit (.int .i64 (setD n xs rows S)))) := fun S' hS => by
  by_cases e : S' = S
  · subst e
    exact ⟨hb, Maps.atKey_put_same hD (by trivial) _ _⟩
  · have ne : Lit.int .u64 (S' : Int) ≠ Lit.int .u64 (S : Int) := fun he => e (by injection he with _ he; omega)
    rw [Maps.has_put_other ne] at hS
    rw [Maps.atKey_put_other ne]
    exact h S' hS
/-- What is known of the determinants' block. -/
structure MnSt (n : Nat) (a : Option Addr) (m : Nat) (xs : List Int) (rows : List Nat) (q : Option Addr) (qc px bm c : Nat) (w : World) : Prop where
  blk : Blk5 w px 89 (.int .i64 n) (.int .i64 n) (.slice a (n * n) m) (.slice q rows.length qc) (.map (some bm))
  cells : Rd w a xs
  rws : Rd w q (rows.map fun (r : Nat) => (r : Int))
  memo : ∃ D, Mp w bm c D ∧ Memo n xs rows D
theorem MnSt.ne {n : Nat} {a : Option Addr} {m : Nat} {xs : List Int} {rows : List Nat} {q : Option Addr} {qc px bm c : Nat} {w : World} (h : MnSt n a m xs rows q qc px bm c w) : px ≠ bm := by
  obtain ⟨D, hD, -⟩ := h.memo
  exact hD.ne5 h.blk
theorem MnSt.turn {n : Nat} {a : Option Addr} {m : Nat} {xs : List Int} {rows : List Nat} {q : Option Addr} {qc px bm c c' : Nat} {w w' : World} (h : MnSt n a m xs rows q qc px bm c w) (hg : w.grownBy w' (some bm)) {D : DataW Unit} (hD : Mp w' bm c' D) (hM : Memo n xs rows D) : MnSt n a m xs rows q qc px bm c' w' := by
  obtain ⟨D0, h0, -⟩ := h.memo
  exact ⟨h.blk.one hg h.ne, h.cells.map h0 hg, h.rws.map h0 hg, D, hD, hM⟩
theorem MnSt.mono {n : Nat} {a : Option Addr} {m : Nat} {xs : List Int} {rows : List Nat} {q : Option Addr} {qc px bm c c' : Nat} {w : World} (h : MnSt n a m xs rows q qc px bm c w) (hc : c ≤ c') : MnSt n a m xs rows q qc px bm c' w := by
  obtain ⟨D, hD, hM⟩ := h.memo
  exact ⟨h.blk, h.cells, h.rws, D, hD.mono hc, hM⟩
theorem MnSt.drewN {n : Nat} {a : Option Addr} {m : Nat} {xs : List Int} {rows : List Nat} {q : Option Addr} {qc px bm c : Nat} {w : World} (h : MnSt n a m xs rows q qc px bm c w) (k : Nat) : MnSt n a m xs rows q qc px bm c (w.drewN k) := ⟨h.blk, h.cells, h.rws, h.memo⟩
end Go.Proofs.Ytdnajkoeojlnbaa
end

section
/-
  Chapter 6, in the program: over to all rows but one.
-/
namespace Go.Proofs.Ytdnajkoeojlnbaa
set_option maxRecDepth 100000
open Go.RowKit Go.Maps

theorem own_ne5 {w : World} {B n b k : Nat} {v : Value} {us : List Value} {p q r s u : Value} (h : w.ownsRow B 3 1 v n us) (hk : v.ownBlock = some k) (h5 : Blk5 w b 89 p q r s u) : b ≠ k := by
  rcases h.2 with ⟨rfl, -⟩ | ⟨g, cap, cur, rfl, -, hg, -⟩
  · cases hk
  · injection hk with hk
    subst hk
    rintro rfl
    unfold Blk5 at h5
    change w.heap[b]? = _ at hg
    rw [hg] at h5
    injection h5 with h5
    injection h5 with _ h5 _
    exact absurd h5 (by decide)
theorem own_neM {w : World} {B n bm c k : Nat} {D : DataW Unit} {v : Value} {us : List Value} (h : w.ownsRow B 3 1 v n us) (hk : v.ownBlock = some k) (hm : Mp w bm c D) : bm ≠ k := by
  obtain ⟨es, clock, hb, -⟩ := hm
  rcases h.2 with ⟨rfl, -⟩ | ⟨g, cap, cur, rfl, -, hg, -⟩
  · cases hk
  · injection hk with hk
    subst hk
    rintro rfl
    change w.heap[bm]? = _ at hg
    rw [hg] at hb
    cases hb
theorem FrS.of_row {w w' : World} {row : Option Nat} (h : w.grownBy w' row) : FrS (fun k => row = some k) w w' := ⟨h.os, h.tape, h.output, h.size, fun k hk hn => h.block k hk (fun e => hn e.symm)⟩
theorem Blk5.ne_map {w : World} {b bm c : Nat} {D : DataW Unit} {t : TypeId} {p q r s u : Value} (h : Blk5 w b t p q r s u) (hm : Mp w bm c D) (e : bm = b) : False := hm.ne5 h e.symm
theorem take5 {w w1 : World} {B n b : Nat} {v : Value} {us : List Value} {p q r s u : Value} {o : Obj} (h5 : Blk5 w b 89 p q r s u) (h : w.ownsRow B 3 1 v n us) (hg : (w.alloc o).grownBy w1 v.ownBlock) : Blk5 w1 b 89 p q r s u :=
  (h5.old o).grown hg (fun e => own_ne5 h e.symm h5 rfl)
/-- The rows' slice, in the walk. -/
def TkSt (n : Nat) (A : Value) (px bm c B : Nat) (D : DataW Unit) (V : Value) (e : Int) (w : World) (k : Nat) (wr : World) : Prop := ∃ V', Blk5 wr px 89 (.int .i64 n) (.int .i64 n) A V' (.map (some bm)) ∧ wr.ownsRow B 3 1 V' (rowsBut k e).length ((rowsBut k e).map fun (r : Nat) => Value.int .i64 (r : Int)) ∧ (∀ g, V'.ownBlock = some g → V.ownBlock = some g ∨ w.heap.size ≤ g) ∧ Mp wr bm c D ∧ FrS (fun k => k = px ∨ k = bm ∨ V.ownBlock = some k) w wr
set_option maxHeartbeats 1000000 in
theorem iTake (n N m : Nat) (a : Option Addr) (e : Int) (px bm c B l : Nat) (D : DataW Unit) (V : Value) (us : List Value) (w : World) (h6 : n ≤ 6) (h5 : Blk5 w px 89 (.int .i64 n) (.int .i64 n) (.slice a N m) V (.map (some bm))) (ho : w.ownsRow B 3 1 V l us) (hm : Mp w bm c D) (hB : B ≤ w.heap.size) :
    Calls Try.prog 80 #[.pointer (some ⟨px, 0, none⟩), .int .i64 e] w (fun r w' => Void r ∧ ∃ V', Blk5 w' px 89 (.int .i64 n) (.int .i64 n) (.slice a N m) V' (.map (some bm)) ∧ w'.ownsRow B 3 1 V' (rowsBut n e).length ((rowsBut n e).map fun (r : Nat) => Value.int .i64 (r : Int)) ∧ (∀ g, V'.ownBlock = some g → V.ownBlock = some g ∨ w.heap.size ≤ g) ∧ Mp w' bm 0 (.map []) ∧ FrS (fun k => k = px ∨ k = bm ∨ V.ownBlock = some k) w w') := by
  have H5 := Lib.hid h5
  have MM := Lib.hid hm
  have HB := Lib.hid hB
  have OO := Lib.hid ho
  obtain ⟨b0, b1, b2, b3, b4⟩ := h5.all
  have bf := h5.free 3
  have PN : Hid (∀ g, V.ownBlock = some g → px ≠ g) := fun g hg => own_ne5 ho hg h5
  obtain ⟨fi, hfi, hz0, hz1, hz2⟩ := facts_int
  rcases ho.2 with ⟨rfl, -⟩ | ⟨g, cap, cur, rfl, hg1, hg2, hg3, hg4, hg5, hg6⟩
  · have S0 : Hid (TkSt n (.slice a N m) px bm c B D (.slice none 0 0) e w 0 (w.setCell ⟨px, 3, none⟩ (.slice none 0 0))) :=
      ⟨_, H5.out.set3 _, World.ownsRow_nil _ _ _ _, fun g hg => .inl hg, MM.out.move (Below.heap_setCell _ _ _ _ (Ne.symm (MM.out.ne5 H5.out))), (FrS.refl _ w).set (.inl (.inl rfl)) _⟩
    clear h5 hm hB ho
    go_enter Try.func80, Try.ntmps80
    go_wp2_with fail
    clear b0 b1 b2 b3 b4 bf PN OO
    generalize w.setCell ⟨px, 3, none⟩ (.slice none 0 0) = W at S0
    go_loopw [4, 18] (fun _ i wr => ∃ k : Nat, i = .int .i64 k ∧ k ≤ n ∧ TkSt n (.slice a N m) px bm c B D (.slice none 0 0) e w k wr) (fun _ i _ => n - (intOf i).toNat)
    case atStart => exact ⟨0, rfl, by omega, S0.out⟩
    case round =>
      obtain ⟨k, rfl, hk, hst⟩ := hrel
      have ST := Lib.hid hst
      obtain ⟨V', k5, ko, kn, km, kf⟩ := hst
      obtain ⟨b0, b1, b2, b3, b4⟩ := k5.all
      by_cases hlt : k < n
      · by_cases hr : (k : Int) = e
        · have n1 : ((k : Int) != e) = false := by simp [hr]
          have n2 : ((k : Int) == e) = true := by simp [hr]
          have RE : Hid (rowsBut (k + 1) e = rowsBut k e) := rowsBut_out hr
          clear k5 ko kn km kf hr
          go_wp2_with fail
          go_roundw
          case rel => exact ⟨k + 1, by go_num, by omega, by have := ST.out; unfold TkSt at this ⊢; rw [RE.out]; exact this⟩
          case measure => simp [intOf]; omega
        · have n1 : ((k : Int) != e) = true := by simp [hr]
          have n2 : ((k : Int) == e) = false := by simp [hr]
          have RE : Hid (rowsBut (k + 1) e = rowsBut k e ++ [k]) := rowsBut_in hr
          have LB : (rowsBut k e).length ≤ 6 := Nat.le_trans (rowsBut_le k e) (by omega)
          have hBw : B ≤ wr.heap.size := Nat.le_trans HB.out kf.size
          have K5 := Lib.hid k5
          have KO := Lib.hid ko
          have KN := Lib.hid kn
          have KM := Lib.hid km
          have KF := Lib.hid kf
          have bf := k5.free 3
          clear k5 ko kn km kf hr ST
          have KOA : Hid ((wr.alloc (.cells #[.int .i64 (k : Int)] 3)).ownsRow B 3 1 V' (rowsBut k e).length ((rowsBut k e).map fun (r : Nat) => Value.int .i64 (r : Int))) := KO.out.alloc _
          have G1 : Hid (wr.grownBy (wr.alloc (.cells #[.int .i64 (k : Int)] 3)) V'.ownBlock) := World.grownBy_alloc _ _ _
          obtain ⟨L, hL⟩ : ∃ L, (rowsBut k e).length = L := ⟨_, rfl⟩
          have HL := Lib.hid hL
          rw [hL] at KOA LB
          clear hL
          go_wp2_with (first
            | (at_builtin; refine wpList_append_own_at _ rfl _ _ 22 rfl B 3 fi (.int .i64 0) 1 8 underlying_ints hfi hz0 hz1 hz2 rfl (by decide) _ _ _ rfl KOA.out ⟨wr.heap.size, 0, none⟩ 1 1 [.int .i64 (k : Int)] rfl rfl (cell_one_new _ _ _) (ints_oneCell .i64 [(k : Int)]) (by unfold maxLen; omega) (by omega) (by simp; omega) ?_; intro v' w1 hown' hgrow hnil hloc; obtain ⟨va, vm, vc, rfl⟩ := rows_form hown'; have K51 := take5 K5.out KO.out hgrow; have bf1 := K51.free 3; obtain ⟨-, -, -, q3, -⟩ := K51.all; replace K51 := Lib.hid K51)
            | fail)
          have PK : V'.ownBlock ≠ some px := fun e => own_ne5 KO.out e K5.out rfl
          have PM : V'.ownBlock ≠ some bm := fun e => own_neM KO.out e KM.out rfl
          have NV : ∀ g, (Value.slice va vm vc).ownBlock = some g → (Value.slice none 0 0).ownBlock = some g ∨ w.heap.size ≤ g := fun g hg => by
            rcases hloc with hl | hl
            · exact KN.out g (hl ▸ hg)
            · rw [hl] at hg
              injection hg with hg
              have := KF.out.size
              exact .inr (by rw [← hg]; simp; omega)
          have F1 : FrS (fun k => k = px ∨ V'.ownBlock = some k) wr (w1.setCell ⟨px, 3, none⟩ (.slice va vm vc)) := ((((FrS.refl _ wr).alloc _).trans ((FrS.of_row hgrow).mono (fun k hk => .inr hk)))).set (.inl (.inl rfl)) _
          go_roundw
          case rel =>
            refine ⟨k + 1, by go_num, by omega, _, K51.out.set3 _, ?_, NV, KM.out.move (F1.block bm KM.out.lt ?_), KF.out.transR F1 ?_⟩
            · have : w1.ownsRow B 3 1 (.slice va vm vc) (rowsBut (k + 1) e).length ((rowsBut (k + 1) e).map fun (r : Nat) => Value.int .i64 (r : Int)) := by
                rw [RE.out, List.length_append, List.map_append, HL.out]
                exact hown'
              refine this.kept (row := some px) (grown_set_one (World.grownBy.refl _ _) rfl _) (.inr fun hv => ?_)
              exact own_ne5 this hv K51.out rfl
            · rintro (e1 | e1)
              · exact K5.out.ne_map KM.out e1
              · exact PM e1
            · rintro k0 hk0 (rfl | e1)
              · exact .inl rfl
              · rcases KN.out k0 e1 with h | h
                · exact .inr (.inr h)
                · omega
          case measure => simp [intOf]; omega
      · obtain rfl : k = n := by omega
        have K5 := Lib.hid k5
        have KO := Lib.hid ko
        have KN := Lib.hid kn
        have KM := Lib.hid km
        have KF := Lib.hid kf
        clear k5 ko kn km kf hlt
        obtain ⟨w1, hcl, hm1, hg1⟩ := KM.out.clear 0
        go_wp2_with fail
        go_end0
        refine ⟨rfl, V', K5.out.one hg1 (KM.out.ne5 K5.out), KO.out.kept hg1 ?_, KN.out, hm1, KF.out.transR (FrS.of_row hg1) (fun k _ hk => .inr (.inl (by injection hk with hk; exact hk.symm)))⟩
        cases hv : V'.ownBlock with
        | none => exact .inl rfl
        | some g0 => exact .inr (fun e => own_neM KO.out hv KM.out (by injection e with e; exact e.symm))
  · have S0 : Hid (TkSt n (.slice a N m) px bm c B D (.slice (some ⟨g, 0, none⟩) l cap) e w 0 (w.setCell ⟨px, 3, none⟩ (.slice (some ⟨g, 0, none⟩) 0 cap))) :=
      ⟨_, H5.out.set3 _, ⟨rfl, .inr ⟨g, cap, cur, rfl, hg1, (Below.heap_setCell w ⟨px, 3, none⟩ _ g (Ne.symm (PN.out g rfl))).trans hg2, Nat.zero_le _, hg4, hg5, by simp [rowsBut]⟩⟩, fun g hg => .inl hg, MM.out.move (Below.heap_setCell _ _ _ _ (Ne.symm (MM.out.ne5 H5.out))), (FrS.refl _ w).set (.inl (.inl rfl)) _⟩
    clear h5 hm hB ho hg2 hg3 hg4 hg5 hg6
    go_enter Try.func80, Try.ntmps80
    go_wp2_with fail
    clear b0 b1 b2 b3 b4 bf PN OO
    generalize w.setCell ⟨px, 3, none⟩ (.slice (some ⟨g, 0, none⟩) 0 cap) = W at S0
    go_loopw [4, 18] (fun _ i wr => ∃ k : Nat, i = .int .i64 k ∧ k ≤ n ∧ TkSt n (.slice a N m) px bm c B D (.slice (some ⟨g, 0, none⟩) l cap) e w k wr) (fun _ i _ => n - (intOf i).toNat)
    case atStart => exact ⟨0, rfl, by omega, S0.out⟩
    case round =>
      obtain ⟨k, rfl, hk, hst⟩ := hrel
      have ST := Lib.hid hst
      obtain ⟨V', k5, ko, kn, km, kf⟩ := hst
      obtain ⟨b0, b1, b2, b3, b4⟩ := k5.all
      by_cases hlt : k < n
      · by_cases hr : (k : Int) = e
        · have n1 : ((k : Int) != e) = false := by simp [hr]
          have n2 : ((k : Int) == e) = true := by simp [hr]
          have RE : Hid (rowsBut (k + 1) e = rowsBut k e) := rowsBut_out hr
          clear k5 ko kn km kf hr
          go_wp2_with fail
          go_roundw
          case rel => exact ⟨k + 1, by go_num, by omega, by have := ST.out; unfold TkSt at this ⊢; rw [RE.out]; exact this⟩
          case measure => simp [intOf]; omega
        · have n1 : ((k : Int) != e) = true := by simp [hr]
          have n2 : ((k : Int) == e) = false := by simp [hr]
          have RE : Hid (rowsBut (k + 1) e = rowsBut k e ++ [k]) := rowsBut_in hr
          have LB : (rowsBut k e).length ≤ 6 := Nat.le_trans (rowsBut_le k e) (by omega)
          have hBw : B ≤ wr.heap.size := Nat.le_trans HB.out kf.size
          have K5 := Lib.hid k5
          have KO := Lib.hid ko
          have KN := Lib.hid kn
          have KM := Lib.hid km
          have KF := Lib.hid kf
          have bf := k5.free 3
          clear k5 ko kn km kf hr ST
          have KOA : Hid ((wr.alloc (.cells #[.int .i64 (k : Int)] 3)).ownsRow B 3 1 V' (rowsBut k e).length ((rowsBut k e).map fun (r : Nat) => Value.int .i64 (r : Int))) := KO.out.alloc _
          have G1 : Hid (wr.grownBy (wr.alloc (.cells #[.int .i64 (k : Int)] 3)) V'.ownBlock) := World.grownBy_alloc _ _ _
          obtain ⟨L, hL⟩ : ∃ L, (rowsBut k e).length = L := ⟨_, rfl⟩
          have HL := Lib.hid hL
          rw [hL] at KOA LB
          clear hL
          go_wp2_with (first
            | (at_builtin; refine wpList_append_own_at _ rfl _ _ 22 rfl B 3 fi (.int .i64 0) 1 8 underlying_ints hfi hz0 hz1 hz2 rfl (by decide) _ _ _ rfl KOA.out ⟨wr.heap.size, 0, none⟩ 1 1 [.int .i64 (k : Int)] rfl rfl (cell_one_new _ _ _) (ints_oneCell .i64 [(k : Int)]) (by unfold maxLen; omega) (by omega) (by simp; omega) ?_; intro v' w1 hown' hgrow hnil hloc; obtain ⟨va, vm, vc, rfl⟩ := rows_form hown'; have K51 := take5 K5.out KO.out hgrow; have bf1 := K51.free 3; obtain ⟨-, -, -, q3, -⟩ := K51.all; replace K51 := Lib.hid K51)
            | fail)
          have PK : V'.ownBlock ≠ some px := fun e => own_ne5 KO.out e K5.out rfl
          have PM : V'.ownBlock ≠ some bm := fun e => own_neM KO.out e KM.out rfl
          have NV : ∀ g', (Value.slice va vm vc).ownBlock = some g' → (Value.slice (some ⟨g, 0, none⟩) l cap).ownBlock = some g' ∨ w.heap.size ≤ g' := fun g' hg => by
            rcases hloc with hl | hl
            · exact KN.out g' (hl ▸ hg)
            · rw [hl] at hg
              injection hg with hg
              have := KF.out.size
              exact .inr (by rw [← hg]; simp; omega)
          have F1 : FrS (fun k => k = px ∨ V'.ownBlock = some k) wr (w1.setCell ⟨px, 3, none⟩ (.slice va vm vc)) := ((((FrS.refl _ wr).alloc _).trans ((FrS.of_row hgrow).mono (fun k hk => .inr hk)))).set (.inl (.inl rfl)) _
          go_roundw
          case rel =>
            refine ⟨k + 1, by go_num, by omega, _, K51.out.set3 _, ?_, NV, KM.out.move (F1.block bm KM.out.lt ?_), KF.out.transR F1 ?_⟩
            · have : w1.ownsRow B 3 1 (.slice va vm vc) (rowsBut (k + 1) e).length ((rowsBut (k + 1) e).map fun (r : Nat) => Value.int .i64 (r : Int)) := by
                rw [RE.out, List.length_append, List.map_append, HL.out]
                exact hown'
              refine this.kept (row := some px) (grown_set_one (World.grownBy.refl _ _) rfl _) (.inr fun hv => ?_)
              exact own_ne5 this hv K51.out rfl
            · rintro (e1 | e1)
              · exact K5.out.ne_map KM.out e1
              · exact PM e1
            · rintro k0 hk0 (rfl | e1)
              · exact .inl rfl
              · rcases KN.out k0 e1 with h | h
                · exact .inr (.inr h)
                · omega
          case measure => simp [intOf]; omega
      · obtain rfl : k = n := by omega
        have K5 := Lib.hid k5
        have KO := Lib.hid ko
        have KN := Lib.hid kn
        have KM := Lib.hid km
        have KF := Lib.hid kf
        clear k5 ko kn km kf hlt
        obtain ⟨w1, hcl, hm1, hg1⟩ := KM.out.clear 0
        go_wp2_with fail
        go_end0
        refine ⟨rfl, V', K5.out.one hg1 (KM.out.ne5 K5.out), KO.out.kept hg1 ?_, KN.out, hm1, KF.out.transR (FrS.of_row hg1) (fun k _ hk => .inr (.inl (by injection hk with hk; exact hk.symm)))⟩
        cases hv : V'.ownBlock with
        | none => exact .inl rfl
        | some g0 => exact .inr (fun e => own_neM KO.out hv KM.out (by injection e with e; exact e.symm))
end Go.Proofs.Ytdnajkoeojlnbaa
end

section
/-
  Chapter 6, in the program: the determinants' block is made.
-/
namespace Go.Proofs.Ytdnajkoeojlnbaa
set_option maxRecDepth 100000
open Go.RowKit Go.Maps

/-- A new block of determinants: all rows, nothing known. -/
def MnNewR (n N m : Nat) (a : Option Addr) (w : World) (e : Ending) (w' : World) : Prop := ∃ px bm V, e = .returned (.pointer (some ⟨px, 0, none⟩)) ∧ w.heap.size ≤ px ∧ w.heap.size ≤ bm ∧ Blk5 w' px 89 (.int .i64 n) (.int .i64 n) (.slice a N m) V (.map (some bm)) ∧ w'.ownsRow w.heap.size 3 1 V (rowsBut n (-1)).length ((rowsBut n (-1)).map fun (r : Nat) => Value.int .i64 (r : Int)) ∧ Mp w' bm 0 (.map []) ∧ Below w.heap.size w w'
set_option maxHeartbeats 1000000 in
theorem iMinorsOf (n N m : Nat) (a : Option Addr) (w : World) (h6 : n ≤ 6) : Calls Try.prog 67 #[.agg #[.int .i64 n, .int .i64 n, .slice a N m]] w (MnNewR n N m a w) := by
  have hmm := @run_makeMap Try.prog
  go_enter Try.func67, Try.ntmps67
  go_wp2_with fail
  obtain ⟨W, hW⟩ : ∃ W, ((w.alloc (.cells #[.int .i64 n, .int .i64 n, .slice a N m] 27)).alloc (.map #[] 0)).alloc (.cells #[.int .i64 n, .int .i64 n, .slice a N m, .slice none 0 0, .map (some (w.heap.size + 1))] 89) = W := ⟨_, rfl⟩
  have B5 : Hid (Blk5 W (w.heap.size + 1 + 1) 89 (.int .i64 n) (.int .i64 n) (.slice a N m) (.slice none 0 0) (.map (some (w.heap.size + 1)))) := by
    show Blk5 W _ _ _ _ _ _ _
    rw [← hW]
    exact Blk5.at_ _ _ _ _ _ _ (by simp)
  have MM : Hid (Mp W (w.heap.size + 1) 0 (.map [])) := by
    show Mp W (w.heap.size + 1) 0 (.map [])
    have := Mp.made (w.alloc (.cells #[.int .i64 n, .int .i64 n, .slice a N m] 27))
    have h2 := this.kept (World.grownBy_alloc _ (.cells #[.int .i64 n, .int .i64 n, .slice a N m, .slice none 0 0, .map (some (w.heap.size + 1))] 89) none) (by simp)
    rw [hW] at h2
    simpa using h2
  have BW : Hid (Below w.heap.size w W) := by
    show Below w.heap.size w W
    rw [← hW]
    exact (((Below.refl _ _).alloc (Nat.le_refl _) _).alloc (by simp) _).alloc (by simp <;> omega) _
  rw [hW]
  clear hW
  refine (iTake n N m a (-1) (w.heap.size + 1 + 1) (w.heap.size + 1) 0 w.heap.size 0 (.map []) (.slice none 0 0) [] W h6 B5.out (World.ownsRow_nil _ _ _ _) MM.out BW.out.size).mono ?_
  rintro e w' ⟨rfl, V, h5, ho, hn, hm, hf⟩
  have H : Hid (Below w.heap.size w w') := BW.out.trans (hf.below (fun k hk => by rcases hk with h | h | h; omega; omega; cases h) BW.out.size)
  have R : MnNewR n N m a w (.returned (.pointer (some ⟨w.heap.size + 1 + 1, 0, none⟩))) w' := ⟨_, _, V, rfl, by omega, by omega, h5, ho, hm, H.out⟩
  clear h5 ho hn hm hf
  have RR := Lib.hid R
  clear R
  go_wp2_with fail
  go_ret
  exact RR.out
end Go.Proofs.Ytdnajkoeojlnbaa
end

section
/-
  Plain mathematics of chapter 6: the expansion of a set of columns, column by column. Nothing of a program is used.
-/
namespace Go.Proofs.Ytdnajkoeojlnbaa

/-- The sum of the first p columns of a set, unless a minor that is met has the mark. -/
def accD (n : Nat) (xs : List Int) (rows : List Nat) (S p : Nat) : Option Int := detAcc (fun j => (rowsD xs n rows (colsL n S)).getD j 0) (mnB ((colsL n S).length - 1) (rowsD xs n rows (colsL n S))) p
theorem accD_zero (n : Nat) (xs : List Int) (rows : List Nat) (S : Nat) : accD n xs rows S 0 = some 0 := rfl
def detR (d : Int) : Int × Bool := if d = badN then (0, false) else (d, true)
def exR : Option Int → Int × Bool
  | none => (0, false)
  | some s => (s, true)
theorem detR_bad {d : Int} (h : d = badN) : detR d = (0, false) := if_pos h
theorem detR_num {d : Int} (h : d ≠ badN) : detR d = (d, true) := if_neg h
theorem NumP.ne_bad {d : Int} (h : NumP d) : d ≠ badN := by
  unfold NumP at h
  unfold badN
  omega
/-- What the determinant of a set of columns is. -/
theorem setD_acc {n S k : Nat} {xs : List Int} {rows : List Nat} (hk : (colsL n S).length = k + 1) : setD n xs rows S = match accD n xs rows S (k + 1) with
    | none => badN
    | some s => fitB s := by
  unfold setD accD
  rw [hk]
  rfl
theorem setD_none {n S k : Nat} {xs : List Int} {rows : List Nat} (hk : (colsL n S).length = k + 1) (h : accD n xs rows S (k + 1) = none) : setD n xs rows S = badN := by rw [setD_acc hk, h]
theorem setD_bad {n S k : Nat} {xs : List Int} {rows : List Nat} {s : Int} (hk : (colsL n S).length = k + 1) (h : accD n xs rows S (k + 1) = some s) (hs : ¬ NumP s) : setD n xs rows S = badN := by
  rw [setD_acc hk, h]
  exact if_neg hs
theorem setD_num {n S k : Nat} {xs : List Int} {rows : List Nat} {s : Int} (hk : (colsL n S).length = k + 1) (h : accD n xs rows S (k + 1) = some s) (hs : NumP s) : setD n xs rows S = s := by
  rw [setD_acc hk, h]
  exact if_pos hs
/-- The cell of a column in the first row that is left. -/
theorem acc_cell {n S c k : Nat} {xs : List Int} {rows : List Nat} (hc : c < n) (hb : S.testBit c = true) (hk : (colsL n S).length = k + 1) :
    (rowsD xs n rows (colsL n S)).getD (colsL c S).length 0 = xs.getD (rows.getD (rows.length - (k + 1)) 0 * n + c) 0 := by
  obtain ⟨h1, h2⟩ := colsL_at hc hb
  rw [setD_first hk _ (by omega), h2]
section
variable {n S c k : Nat} {xs : List Int} {rows : List Nat} {s : Int}
theorem acc_skip (hc : c < n) (hb : S.testBit c = true) (hk : (colsL n S).length = k + 1) (h : accD n xs rows S (colsL c S).length = some s) (h0 : xs.getD (rows.getD (rows.length - (k + 1)) 0 * n + c) 0 = 0) :
    accD n xs rows S (colsL (c + 1) S).length = some s := by
  rw [colsL_in hb]
  exact detAcc_skip h (by show (rowsD xs n rows (colsL n S)).getD _ 0 = 0; rw [acc_cell hc hb hk]; exact h0)
theorem acc_bad (h6 : n ≤ 6) (hS : S < 64) (hr : k + 1 ≤ rows.length) (hc : c < n) (hb : S.testBit c = true) (hk : (colsL n S).length = k + 1) (h : accD n xs rows S (colsL c S).length = some s) (h0 : xs.getD (rows.getD (rows.length - (k + 1)) 0 * n + c) 0 ≠ 0) (h1 : setD n xs rows (lessS S c) = badN) :
    accD n xs rows S (k + 1) = none := by
  refine detAcc_none (detAcc_bad h (by rw [acc_cell hc hb hk]; exact h0) ?_) (by have := (colsL_at hc hb).1; omega)
  rw [hk, Nat.add_sub_cancel, mnB_less h6 hS hc hb hk hr]
  exact h1
theorem acc_add (h6 : n ≤ 6) (hS : S < 64) (hr : k + 1 ≤ rows.length) (hc : c < n) (hb : S.testBit c = true) (hk : (colsL n S).length = k + 1) (h : accD n xs rows S (colsL c S).length = some s) (h0 : xs.getD (rows.getD (rows.length - (k + 1)) 0 * n + c) 0 ≠ 0) (h1 : setD n xs rows (lessS S c) ≠ badN) :
    accD n xs rows S (colsL (c + 1) S).length = some (s + sg (colsL c S).length * xs.getD (rows.getD (rows.length - (k + 1)) 0 * n + c) 0 * setD n xs rows (lessS S c)) := by
  have e : mnB ((colsL n S).length - 1) (rowsD xs n rows (colsL n S)) (colsL c S).length = setD n xs rows (lessS S c) := by rw [hk, Nat.add_sub_cancel, mnB_less h6 hS hc hb hk hr]
  have := detAcc_add h (by show (rowsD xs n rows (colsL n S)).getD _ 0 ≠ 0; rw [acc_cell hc hb hk]; exact h0) (by rw [e]; exact h1)
  rw [acc_cell hc hb hk, e] at this
  rw [colsL_in hb]
  exact this
end
theorem rowsD_nums {n k : Nat} {xs : List Int} {rows cs : List Nat} (nx : nums xs = true) (hc : cs.length = k + 1) (j : Nat) (hj : j < k + 1) : NumP ((rowsD xs n rows cs).getD j 0) := by
  rw [setD_first hc j hj]
  obtain ⟨p, hp⟩ : ∃ p, rows.getD (rows.length - (k + 1)) 0 * n + cs.getD j 0 = p := ⟨_, rfl⟩
  rw [hp]
  rcases Nat.lt_or_ge p xs.length with h1 | h1
  · exact nums_at nx h1
  · rw [List.getD, List.getElem?_eq_none h1]; exact ⟨by decide, by decide⟩
theorem acc_bd {n S k p : Nat} {xs : List Int} {rows : List Nat} {s : Int} (nx : nums xs = true) (hk : (colsL n S).length = k + 1) (hp : p ≤ k + 1) (h : accD n xs rows S p = some s) : -((p : Int) * 160000000000000000) ≤ s ∧ s ≤ (p : Int) * 160000000000000000 :=
  detAcc_bd (fun j hj => rowsD_nums nx hk j (by omega)) (fun j _ => detB_or _ _) h
theorem cols_card : ∀ n, n ≤ 6 → ∀ S, S < 2 ^ n → (colsL 6 S).length = (colsL n S).length := by decide +kernel
theorem pow_64 : ∀ n, n ≤ 6 → 2 ^ n ≤ 64 := by decide
end Go.Proofs.Ytdnajkoeojlnbaa
end

section
/-
  Chapter 6, in the program: sets of columns as bits.
-/
namespace Go.Proofs.Ytdnajkoeojlnbaa
set_option maxRecDepth 100000
open Go.RowKit

theorem iOnes64 (S : Nat) (h : S < 64) (w : World) : Calls Try.prog 124 #[.int .u64 S] w fun e w' => e = .returned (.int .i64 ((colsL 6 S).length : Int)) ∧ w' = w := by
  go_enter Try.func124, Try.ntmps124
  go_wp2
  go_ret
  refine ⟨congrArg Ending.returned (congrArg (Value.int .i64) ?_), rfl⟩
  revert S
  decide +kernel
theorem iOnes (S : Nat) (h : S < 64) (w : World) : Calls Try.prog 117 #[.int .u64 S] w fun e w' => e = .returned (.int .i64 ((colsL 6 S).length : Int)) ∧ w' = w := by
  go_enter Try.func117, Try.ntmps117
  go_wp2_with fail
  refine (iOnes64 S h _).mono ?_
  rintro e w' ⟨rfl, rfl⟩
  go_wp2_with fail
  go_ret
  exact ⟨rfl, rfl⟩
theorem iHas (S c : Nat) (h : S < 64) (hc : c < 6) (w : World) : Calls Try.prog 118 #[.int .u64 S, .int .i64 c] w fun e w' => e = .returned (.bool (S.testBit c)) ∧ w' = w := by
  have c0 : (0 : Int) ≤ (c : Int) := by omega
  have c1 : (c : Int) ≤ 64 := by omega
  go_enter Try.func118, Try.ntmps118
  go_wp2
  go_ret
  refine ⟨congrArg Ending.returned (congrArg Value.bool ?_), rfl⟩
  clear c0 c1
  revert c
  revert S
  decide +kernel
theorem iWithout (S c : Nat) (h : S < 64) (hc : c < 6) (w : World) : Calls Try.prog 81 #[.int .u64 S, .int .i64 c] w fun e w' => e = .returned (.int .u64 (lessS S c)) ∧ w' = w := by
  have c0 : (0 : Int) ≤ (c : Int) := by omega
  have c1 : (c : Int) ≤ 64 := by omega
  go_enter Try.func81, Try.ntmps81
  go_wp2
  go_ret
  refine ⟨congrArg Ending.returned (congrArg (Value.int .u64) ?_), rfl⟩
  clear c0 c1
  revert c
  revert S
  decide +kernel
theorem iFirst (n : Nat) (h : n ≤ 6) (w : World) : Calls Try.prog 69 #[.int .i64 n] w fun e w' => e = .returned (.int .u64 ((2 ^ n - 1 : Nat) : Int)) ∧ w' = w := by
  have c0 : (0 : Int) ≤ (n : Int) := by omega
  have c1 : (n : Int) ≤ 64 := by omega
  go_enter Try.func69, Try.ntmps69
  go_wp2
  go_ret
  refine ⟨congrArg Ending.returned (congrArg (Value.int .u64) ?_), rfl⟩
  clear c0 c1
  revert n
  decide +kernel
end Go.Proofs.Ytdnajkoeojlnbaa
end

section
/-
  Chapter 6, in the program: determinants of a set of columns, expanded with a memory.
-/
namespace Go.Proofs.Ytdnajkoeojlnbaa
set_option maxRecDepth 100000
open Go.RowKit Go.Maps

/-- What is returned for a set of k columns. -/
def MinorAt (n : Nat) (a : Option Addr) (m : Nat) (xs : List Int) (rows : List Nat) (q : Option Addr) (qc px bm k : Nat) : Prop := ∀ (S c : Nat) (w : World), S < 2 ^ n → (colsL n S).length = k → MnSt n a m xs rows q qc px bm c w → c + 7 ^ k ≤ 1000000 →
  Calls Try.prog 68 #[.pointer (some ⟨px, 0, none⟩), .int .u64 S] w (fun e w' => e = .returned (.tuple #[.int .i64 (detR (setD n xs rows S)).1, .bool (detR (setD n xs rows S)).2]) ∧ MnSt n a m xs rows q qc px bm (c + 7 ^ k) w' ∧ w.grownBy w' (some bm))
set_option maxHeartbeats 2000000 in
theorem iExpand (n : Nat) (a : Option Addr) (m : Nat) (xs : List Int) (rows : List Nat) (q : Option Addr) (qc px bm k : Nat) (h6 : n ≤ 6) (hx : xs.length = n * n) (nx : nums xs = true) (hrn : ∀ i, i < rows.length → rows.getD i 0 < n) (hk : k + 1 ≤ rows.length) (hrl : rows.length ≤ 6) (ih : MinorAt n a m xs rows q qc px bm k)
    (S c : Nat) (w : World) (hS : S < 2 ^ n) (hc : (colsL n S).length = k + 1) (st : MnSt n a m xs rows q qc px bm c w) (hcb : c + 6 * 7 ^ k ≤ 1000000) :
    Calls Try.prog 104 #[.pointer (some ⟨px, 0, none⟩), .int .u64 S] w (fun e w' => e = .returned (.tuple #[.int .i64 (exR (accD n xs rows S (k + 1))).1, .bool (exR (accD n xs rows S (k + 1))).2]) ∧ MnSt n a m xs rows q qc px bm (c + 6 * 7 ^ k) w' ∧ w.grownBy w' (some bm)) := by
  have h64 : S < 64 := Nat.lt_of_lt_of_le hS (pow_64 n h6)
  have IH := Lib.hid ih
  have ON : Hid (∀ w', Calls Try.prog 117 #[.int .u64 S] w' fun e w2 => e = .returned (.int .i64 ((k + 1 : Nat) : Int)) ∧ w2 = w') := fun w' => by
    have := iOnes S h64 w'
    rw [cols_card n h6 S hS, hc] at this
    exact this
  have HA : Hid (∀ j (w' : World), j < n → Calls Try.prog 118 #[.int .u64 S, .int .i64 j] w' fun e w2 => e = .returned (.bool (S.testBit j)) ∧ w2 = w') := fun j w' hj => iHas S j h64 (by omega) w'
  have WI : Hid (∀ j (w' : World), j < n → Calls Try.prog 81 #[.int .u64 S, .int .i64 j] w' fun e w2 => e = .returned (.int .u64 (lessS S j)) ∧ w2 = w') := fun j w' hj => iWithout S j h64 (by omega) w'
  obtain ⟨I, hI⟩ : ∃ I, rows.length = I + (k + 1) := ⟨rows.length - (k + 1), by omega⟩
  have hI2 : rows.length - (k + 1) = I := by omega
  obtain ⟨r, hr⟩ : ∃ r, rows.getD I 0 = r := ⟨_, rfl⟩
  have rn : r < n := by rw [← hr]; exact hrn I (by omega)
  have LS : Hid (∀ j, j < n → S.testBit j = true → lessS S j < 2 ^ n ∧ (colsL n (lessS S j)).length = k ∧ (colsL j S).length ≤ 6 ∧ (colsL (j + 1) S).length = (colsL j S).length + 1 ∧ (colsL j S).length < k + 1) := fun j hj hb => ⟨lessS_lt n h6 S hS j hj, less_card h6 h64 hj hb hc, Nat.le_trans (Nat.le_of_lt (colsL_at hj hb).1) (by have := colsL_le (S := S) (Nat.le_refl n); have := List.length_filter_le (fun c => S.testBit c) (List.range n); simp only [List.length_range] at this; unfold colsL; omega), colsL_in hb, by have := (colsL_at hj hb).1; omega⟩
  have CE : Hid (∀ j, j < n → S.testBit j = true → ∀ s, accD n xs rows S (colsL j S).length = some s → (xs.getD (r * n + j) 0 = 0 → accD n xs rows S (colsL (j + 1) S).length = some s) ∧ (xs.getD (r * n + j) 0 ≠ 0 → setD n xs rows (lessS S j) = badN → accD n xs rows S (k + 1) = none) ∧ (xs.getD (r * n + j) 0 ≠ 0 → setD n xs rows (lessS S j) ≠ badN → accD n xs rows S (colsL (j + 1) S).length = some (s + sg (colsL j S).length * xs.getD (r * n + j) 0 * setD n xs rows (lessS S j)))) := fun j hj hb s h => by
    have e : rows.getD (rows.length - (k + 1)) 0 = r := by rw [hI2, hr]
    rw [← e]
    exact ⟨fun h0 => acc_skip hj hb hc h h0, fun h0 h1 => acc_bad h6 h64 hk hj hb hc h h0 h1, fun h0 h1 => acc_add h6 h64 hk hj hb hc h h0 h1⟩
  have BD : Hid (∀ j s, j < n → S.testBit j = true → accD n xs rows S (colsL (j + 1) S).length = some s → -2000000000000000000 ≤ s ∧ s ≤ 2000000000000000000) := fun j s hj hb h => by
    have h1 := LS.out j hj hb
    have := acc_bd nx hc (by omega) h
    omega
  have OUT : Hid (∀ j, S.testBit j = false → colsL (j + 1) S = colsL j S) := fun j h => colsL_out h
  have SO : Hid (∀ j, setD n xs rows (lessS S j) = badN ∨ NumP (setD n xs rows (lessS S j))) := fun j => setD_or _ _ _ _
  have ZN : Hid (∀ j, j < n → NumP (xs.getD (r * n + j) 0) ∧ r * n + j < xs.length) := fun j hj => by
    have := idx_lt rn hj
    exact ⟨nums_at nx (by omega), by omega⟩
  have FIN : Hid ((colsL n S).length = k + 1) := hc
  have ST := Lib.hid st
  have rc : w.cell? ⟨px, 3, none⟩ = some (.slice q rows.length qc) := st.blk.all.2.2.2.1
  obtain ⟨gq, oq, hq⟩ := st.rws.addr (by simp; omega)
  have ri : w.cell? ⟨gq, oq + I, none⟩ = some (.int .i64 (r : Int)) := by
    have := st.rws
    rw [hq] at this
    have := this.cells I (by simp; omega)
    rw [this]
    simp [← hr, List.getD, show I < rows.length by omega]
  obtain ⟨G, hG⟩ : ∃ G, 7 ^ k = G := ⟨_, rfl⟩
  have v1 : IntKind.i64.wrap ((rows.length : Int) - ((k + 1 : Nat) : Int)) = (I : Int) := by
    rw [show (rows.length : Int) - ((k + 1 : Nat) : Int) = (I : Int) by omega]
    exact IntWalk.i64_in _ (by omega)
  have i0 : (0 : Int) ≤ (I : Int) := by omega
  have i1 : (I : Int) < (rows.length : Int) := by omega
  obtain ⟨b0, b1, b2, b3, b4⟩ := st.blk.all
  subst hq
  rw [hG] at hcb ⊢
  obtain ⟨L, hL⟩ : ∃ L, rows.length = L := ⟨_, rfl⟩
  rw [hL] at b3 rc v1 i1 hrl
  have HG := Lib.hid hG
  have K6 : k + 1 ≤ 6 := by omega
  have HI := Lib.hid hI
  have NX := Lib.hid nx
  have HX := Lib.hid hx
  obtain ⟨K, hK⟩ : ∃ K, k + 1 = K := ⟨_, rfl⟩
  rw [hK] at ON v1 LS CE FIN K6 ⊢
  clear hG hI hI2 nx hx hr st hrn ih hc hL rc
  go_enter Try.func104, Try.ntmps104
  go_upto_region 1 with fail
  go_quiet ((refine (ON.out _).mono ?_; rintro e w' ⟨rfl, rfl⟩; exact ⟨rfl, _, rfl⟩))
  go_wp2_with fail
  clear b0 b1 b2 b3 b4 ri v1 i0 i1
  have W0 := Lib.hid (ST.out.drewN nq)
  have G0 : Hid (w.grownBy (w.drewN nq) (some bm)) := grown_drewN_one (World.grownBy.refl _ _) nq
  have NE := Lib.hid ST.out.ne
  generalize w.drewN nq = W at W0 G0
  go_loopw [4, 5, 7, 8, 9, 10, 11, 12, 32] (fun _ _ v7 v8 _ _ _ _ v32 wr => ∃ (j : Nat) (s : Int) (c' : Nat), v32 = .int .i64 j ∧ j ≤ n ∧ v7 = .int .i64 s ∧ v8 = .int .i64 (sg (colsL j S).length) ∧ accD n xs rows S (colsL j S).length = some s ∧ MnSt n a m xs rows (some ⟨gq, oq, none⟩) qc px bm c' wr ∧ w.grownBy wr (some bm) ∧ c' ≤ c + (colsL j S).length * G) (fun _ _ _ _ _ _ _ _ v32 _ => n - (intOf v32).toNat)
  case atStart => exact ⟨0, 0, c, rfl, by omega, rfl, rfl, rfl, W0.out, G0.out, by omega⟩
  case round =>
    obtain ⟨j, s, c', rfl, hj, rfl, rfl, hs, hst, hg, hc'⟩ := hrel
    have E := Lib.hid hs
    have M := Lib.hid hst
    have GR := Lib.hid hg
    obtain ⟨b0, b1, b2, b3, b4⟩ := hst.blk.all
    clear hs hst hg
    by_cases hlt : j < n
    · rcases Bool.eq_false_or_eq_true (S.testBit j) with hb | hb
      · have HAj : Hid (∀ w', Calls Try.prog 118 #[.int .u64 S, .int .i64 j] w' fun e w2 => e = .returned (.bool true) ∧ w2 = w') := fun w' => by
          have := HA.out j w' hlt
          rw [hb] at this
          exact this
        obtain ⟨l1, l2, l3, l4, l5⟩ := LS.out j hlt hb
        obtain ⟨e1, e2, e3⟩ := CE.out j hlt hb s E.out
        have BDj : Hid (∀ s, accD n xs rows S (colsL (j + 1) S).length = some s → -2000000000000000000 ≤ s ∧ s ≤ 2000000000000000000) := fun s => BD.out j s hlt hb
        have E1 := Lib.hid e1
        have E2 := Lib.hid e2
        have E3 := Lib.hid e3
        have L1 := Lib.hid l1
        have L2 := Lib.hid l2
        have L4 := Lib.hid l4
        have so := SO.out j
        have SOJ := Lib.hid so
        obtain ⟨zn, zl⟩ := ZN.out j hlt
        have dz : r * n + j < n * n := by rw [← HX.out]; exact zl
        have M36 : n * n ≤ 6 * 6 := Nat.mul_le_mul h6 h6
        obtain ⟨ga, oa, ha⟩ := M.out.cells.addr (by rw [HX.out]; omega)
        have zc : wr.cell? ⟨ga, oa + (r * n + j), none⟩ = some (.int .i64 (xs.getD (r * n + j) 0)) := by
          have := M.out.cells
          rw [ha] at this
          exact this.cells _ zl
        subst ha
        obtain ⟨z, hz⟩ : ∃ z, xs.getD (r * n + j) 0 = z := ⟨_, rfl⟩
        rw [hz] at zc zn E1 E2 E3
        obtain ⟨P, hP⟩ : ∃ P, r * n + j = P := ⟨_, rfl⟩
        rw [hP] at zc dz
        have c1 : (r : Int) * (n : Int) = ((r * n : Nat) : Int) := (Int.natCast_mul _ _).symm
        have u1 : IntKind.i64.wrap ((r : Int) * (n : Int)) = (r : Int) * (n : Int) := IntWalk.i64_in _ (by rw [c1]; omega)
        have u2 : IntKind.i64.wrap ((r : Int) * (n : Int) + (j : Int)) = (P : Int) := by
          rw [show (r : Int) * (n : Int) + (j : Int) = (P : Int) by rw [c1, ← hP]; omega]
          exact IntWalk.i64_in _ (by omega)
        have p0 : (0 : Int) ≤ (P : Int) := by omega
        have p1 : (P : Int) < ((n * n : Nat) : Int) := by omega
        obtain ⟨sn, hsn⟩ : ∃ z, sg (colsL j S).length = z := ⟨_, rfl⟩
        have s1 : sn = 1 ∨ sn = -1 := by rw [← hsn]; exact sg_or _
        have vn : IntKind.i64.wrap (-sn) = -sn := IntWalk.i64_in _ (by omega)
        have SS : Hid (sg (colsL (j + 1) S).length = -sn) := by show _ = _; rw [L4.out, sg_succ, hsn]
        rw [hsn] at E3 ⊢
        obtain ⟨p, hp⟩ : ∃ p, (colsL j S).length = p := ⟨_, rfl⟩
        have CC : Hid (c' ≤ c + (colsL (j + 1) S).length * G ∧ c' + G ≤ c + (colsL (j + 1) S).length * G ∧ c' + G ≤ c + 6 * G) := by
          have t1 : (p + 1) * G ≤ 6 * G := Nat.mul_le_mul_right G (by omega)
          rw [Nat.succ_mul] at t1
          show _ ∧ _ ∧ _
          rw [L4.out, hp, Nat.succ_mul]
          rw [hp] at hc'
          omega
        have WIj : Hid (∀ w', Calls Try.prog 81 #[.int .u64 S, .int .i64 j] w' fun e w2 => e = .returned (.int .u64 (lessS S j)) ∧ w2 = w') := fun w' => WI.out j w' hlt
        obtain ⟨T, hT⟩ : ∃ T, lessS S j = T := ⟨_, rfl⟩
        rw [hT] at L1 L2 SOJ E2 E3 WIj
        obtain ⟨d, hd⟩ : ∃ d, setD n xs rows T = d := ⟨_, rfl⟩
        have DT : Hid (∀ w', MnSt n (some ⟨ga, oa, none⟩) m xs rows (some ⟨gq, oq, none⟩) qc px bm c' w' → Calls Try.prog 68 #[.pointer (some ⟨px, 0, none⟩), .int .u64 T] w' (fun e w2 => e = .returned (.tuple #[.int .i64 (detR d).1, .bool (detR d).2]) ∧ MnSt n (some ⟨ga, oa, none⟩) m xs rows (some ⟨gq, oq, none⟩) qc px bm (c' + G) w2 ∧ w'.grownBy w2 (some bm))) := fun w' h => by
          have := IH.out T c' w' L1.out L2.out h (by rw [HG.out]; have := CC.out; omega)
          rw [HG.out, hd] at this
          exact this
        rw [hd] at SOJ E2 E3
        clear hb l1 l2 l3 l4 l5 e1 e2 e3 so zl hz hP c1 hsn hp hT hd hc'
        by_cases h0 : z = 0
        · have n1 : (z != 0) = false := by simp [h0]
          have A := Lib.hid (E1.out h0)
          clear h0 s1 zn
          go_wp2_with fail
          refine (HAj.out _).mono ?_
          rintro e w2 ⟨rfl, rfl⟩
          go_upto_region 7 with fail
          go_quiet (fail)
          go_wp2_with fail
          go_roundw
          case rel => exact ⟨j + 1, s, c', by go_num, by omega, rfl, by rw [SS.out], A.out, M.out.drewN nq, grown_drewN_one GR.out nq, CC.out.1⟩
          case measure => simp [intOf]; omega
        · have n1 : (z != 0) = true := by simp [h0]
          have H0 := Lib.hid h0
          clear h0
          go_wp2_with fail
          refine (HAj.out _).mono ?_
          rintro e w2 ⟨rfl, rfl⟩
          go_upto_region 7 with fail
          go_quiet (fail)
          go_wp2_with fail
          refine (WIj.out _).mono ?_
          rintro e w2 ⟨rfl, rfl⟩
          go_wp2_with fail
          refine (DT.out _ (M.out.drewN nq)).mono ?_
          rintro e w2 ⟨rfl, hm2, hg2⟩
          have M2 := Lib.hid hm2
          have GR2 := Lib.hid ((grown_drewN_one GR.out nq).trans hg2)
          clear hm2 hg2
          by_cases h1 : d = badN
          · have A := Lib.hid (E2.out H0.out h1)
            have R := detR_bad h1
            have M3 := Lib.hid (M2.out.mono CC.out.2.2)
            rw [R]
            clear h1 R s1 zn
            go_wp2_with fail
            exact bodyPost_ret (v := .tuple #[.int .i64 0, .bool false]) (by simp [results, Try.results104, go_sem]) rfl ⟨by rw [A.out]; rfl, M3.out, GR2.out⟩
          · have A := Lib.hid (E3.out H0.out h1)
            have R := detR_num h1
            have bd := BDj.out _ A.out
            have mx : NumP (sn * z) := by unfold NumP at *; rcases s1 with rfl | rfl <;> omega
            have my := mul_num _ _ mx (SOJ.out.resolve_left h1)
            unfold NumP at mx
            have v1 : IntKind.i64.wrap (sn * z) = sn * z := IntWalk.i64_in _ (by omega)
            have v2 : IntKind.i64.wrap (sn * z * d) = sn * z * d := IntWalk.i64_in _ (by omega)
            have v3 : IntKind.i64.wrap (s + sn * z * d) = s + sn * z * d := IntWalk.i64_in _ (by omega)
            rw [R]
            clear h1 R s1 zn bd mx my
            go_wp2_with fail
            go_roundw
            case rel => exact ⟨j + 1, s + sn * z * d, c' + G, by go_num, by omega, rfl, by rw [SS.out], A.out, M2.out, GR2.out, CC.out.2.1⟩
            case measure => simp [intOf]; omega
      · have O := Lib.hid (OUT.out j hb)
        have HAj : Hid (∀ w', Calls Try.prog 118 #[.int .u64 S, .int .i64 j] w' fun e w2 => e = .returned (.bool false) ∧ w2 = w') := fun w' => by
          have := HA.out j w' hlt
          rw [hb] at this
          exact this
        clear hb
        go_wp2_with fail
        refine (HAj.out _).mono ?_
        rintro e w2 ⟨rfl, rfl⟩
        go_wp2_with fail
        go_roundw
        case rel => exact ⟨j + 1, s, c', by go_num, by omega, rfl, by rw [O.out], by rw [O.out]; exact E.out, M.out, GR.out, by rw [O.out]; exact hc'⟩
        case measure => simp [intOf]; omega
    · obtain rfl : j = n := by omega
      rw [FIN.out] at hc'
      have E2 : Hid (accD j xs rows S K = some s) := by
        have := E.out
        rw [FIN.out] at this
        exact this
      have K7 : K * G ≤ 6 * G := Nat.mul_le_mul_right G K6
      have M2 := Lib.hid (M.out.mono (show c' ≤ c + 6 * G by omega))
      clear hlt hc' K7
      go_wp2_with fail
      exact bodyPost_ret (v := .tuple #[.int .i64 s, .bool true]) (by simp [results, Try.results104, go_sem]) rfl ⟨by rw [E2.out]; rfl, M2.out, GR.out⟩
end Go.Proofs.Ytdnajkoeojlnbaa
end

section
/-
  Chapter 6, in the program: determinants of a set of columns, with a memory.
-/
namespace Go.Proofs.Ytdnajkoeojlnbaa
set_option maxRecDepth 100000
open Go.RowKit Go.Maps

theorem wf_cols {S : Nat} (h : S < 64) : (Lit.int .u64 (S : Int)).wf = true := by
  revert S
  decide +kernel
theorem wf_num {s : Int} (h : NumP s) : (Lit.int .i64 s).wf = true := by
  unfold NumP at h
  exact WalkArith.wf_i64 (by omega)
set_option maxHeartbeats 1000000 in
theorem iMinor (n : Nat) (a : Option Addr) (m : Nat) (xs : List Int) (rows : List Nat) (q : Option Addr) (qc px bm : Nat) (h6 : n ≤ 6) (hx : xs.length = n * n) (nx : nums xs = true) (hrn : ∀ i, i < rows.length → rows.getD i 0 < n) (hrl : rows.length ≤ 6) :
    ∀ k, k ≤ rows.length → MinorAt n a m xs rows q qc px bm k := by
  intro k
  induction k with
  | zero =>
    intro _ S c w hS hc st hcb
    obtain rfl : S = 0 := colsL_none n h6 S hS hc
    have V : Hid (detR (setD n xs rows 0) = (1, true)) := by show _ = _; rw [setD_zero]; exact detR_num (by decide)
    have M := Lib.hid (st.mono (show c ≤ c + 7 ^ 0 by omega))
    rw [V.out]
    clear st
    go_enter Try.func68, Try.ntmps68
    go_wp2_with fail
    exact bodyPost_ret (v := .tuple #[.int .i64 1, .bool true]) (by simp [results, Try.results68, go_sem]) rfl ⟨rfl, M.out, World.grownBy.refl _ _⟩
  | succ k ih =>
    intro hk S c w hS hc st hcb
    have h64 : S < 64 := Nat.lt_of_lt_of_le hS (pow_64 n h6)
    have s0 : S ≠ 0 := by
      rintro rfl
      rw [colsL_zero] at hc
      simp at hc
    have n1 : ((S : Int) == 0) = false := by simp; omega
    have p7 : 7 ^ (k + 1) = 7 * 7 ^ k := by rw [Nat.pow_succ, Nat.mul_comm]
    have p1 : 1 ≤ 7 ^ k := Nat.one_le_pow _ _ (by omega)
    have EX : Hid (∀ w', MnSt n a m xs rows q qc px bm c w' → Calls Try.prog 104 #[.pointer (some ⟨px, 0, none⟩), .int .u64 S] w' (fun e w2 => e = .returned (.tuple #[.int .i64 (exR (accD n xs rows S (k + 1))).1, .bool (exR (accD n xs rows S (k + 1))).2]) ∧ MnSt n a m xs rows q qc px bm (c + 6 * 7 ^ k) w2 ∧ w'.grownBy w2 (some bm))) := fun w' h => iExpand n a m xs rows q qc px bm k h6 hx nx hrn hk hrl (ih (by omega)) S c w' hS hc h (by omega)
    have D0 : Hid (accD n xs rows S (k + 1) = none → setD n xs rows S = badN) := fun h => setD_none hc h
    have D1 : Hid (∀ s, accD n xs rows S (k + 1) = some s → ¬ NumP s → setD n xs rows S = badN) := fun s h h1 => setD_bad hc h h1
    have D2 : Hid (∀ s, accD n xs rows S (k + 1) = some s → NumP s → setD n xs rows S = s) := fun s h h1 => setD_num hc h h1
    have KY : keyOf Try.prog 68 (.int .u64 (S : Int)) = some (.int .u64 (S : Int)) := keyOf_int_mk und_cols (wf_cols h64)
    obtain ⟨b0, b1, b2, b3, b4⟩ := st.blk.all
    have ST := Lib.hid st
    obtain ⟨D, hD, hM⟩ := st.memo
    have MP := Lib.hid hD
    have ME := Lib.hid hM
    obtain ⟨d, hd⟩ : ∃ d, setD n xs rows S = d := ⟨_, rfl⟩
    have DD := Lib.hid hd
    rw [p7] at hcb ⊢
    generalize 7 ^ k = G at EX p1 hcb ⊢
    rw [hd] at D0 D1 D2 ⊢
    clear st hD hM hd p7 ih hx nx hrn hrl hk hc s0
    rcases Bool.eq_false_or_eq_true (Maps.has D (.int .u64 (S : Int))) with hh | hh
    · obtain ⟨hb, ha⟩ := ME.out S hh
      rw [DD.out] at hb ha
      have R : Hid (detR d = (d, true)) := detR_num hb
      have HA := Lib.hid ha
      have M := Lib.hid (ST.out.mono (show c ≤ c + 7 * G by omega))
      clear hb ha
      rw [R.out]
      go_enter Try.func68, Try.ntmps68
      go_wp2_with (first
        | (at_lookup; refine wpList_lookup_own_ok_int _ rfl _ _ 87 rfl 68 3 .i64 keyed_cols und_map und_int (zero_int _) bm c D rfl MP.out _ _ rfl KY ?_; intro v hat hwc)
        | fail)
      obtain rfl : v = d := by
        rw [HA.out] at hat
        injection hat with hat
        injection hat with _ hat
        exact hat.symm
      exact bodyPost_ret (v := .tuple #[.int .i64 v, .bool true]) (by simp [results, Try.results68, go_sem]) rfl ⟨rfl, M.out, World.grownBy.refl _ _⟩
    · cases hac : accD n xs rows S (k + 1) with
      | none =>
        have R : Hid (detR d = (0, false)) := detR_bad (D0.out hac)
        rw [hac, show exR none = (0, false) from rfl] at EX
        clear hac
        rw [R.out]
        go_enter Try.func68, Try.ntmps68
        go_wp2_with (first
          | (at_lookup; refine wpList_lookup_own_ok_int _ rfl _ _ 87 rfl 68 3 .i64 keyed_cols und_map und_int (zero_int _) bm c D rfl MP.out _ _ rfl KY ?_; intro v hat hwc)
          | fail)
        refine (EX.out _ ST.out).mono ?_
        rintro e w2 ⟨rfl, hm2, hg2⟩
        have M2 := Lib.hid (hm2.mono (show c + 6 * G ≤ c + 7 * G by omega))
        have GR := Lib.hid hg2
        clear hm2 hg2
        go_wp2_with fail
        exact bodyPost_ret (v := .tuple #[.int .i64 0, .bool false]) (by simp [results, Try.results68, go_sem]) rfl ⟨rfl, M2.out, GR.out⟩
      | some s =>
        rw [hac, show exR (some s) = (s, true) from rfl] at EX
        by_cases hs : NumP s
        · have e : d = s := D2.out s hac hs
          subst e
          have R : Hid (detR d = (d, true)) := detR_num hs.ne_bad
          have WF := wf_num hs
          have NB := Lib.hid hs.ne_bad
          have n2 : decide (NumP d) = true := decide_eq_true hs
          clear hac hs
          rw [R.out]
          go_enter Try.func68, Try.ntmps68
          go_wp2_with (first
            | (at_lookup; refine wpList_lookup_own_ok_int _ rfl _ _ 87 rfl 68 3 .i64 keyed_cols und_map und_int (zero_int _) bm c D rfl MP.out _ _ rfl KY ?_; intro v hat hwc)
            | fail)
          refine (EX.out _ ST.out).mono ?_
          rintro e w2 ⟨rfl, hm2, hg2⟩
          clear b0 b1 b2 b3 b4
          obtain ⟨b0, b1, b2, b3, b4⟩ := hm2.blk.all
          have M2 := Lib.hid hm2
          obtain ⟨E, hE, hF⟩ := hm2.memo
          have MP2 := Lib.hid hE
          have ME2 := Lib.hid hF
          have GR := Lib.hid hg2
          clear hm2 hg2 hE hF
          go_wp2_with fail
          refine (iIsNum d _).mono ?_
          rintro e w3 ⟨rfl, rfl⟩
          rw [n2]
          go_wp2_with (first
            | (at_mapUpdate; refine wpList_mapUpdate_own _ rfl _ _ _ 87 rfl 68 3 keyed_cols und_map _ bm (c + 6 * G) E rfl MP2.out (by unfold maxLen; omega) _ _ _ rfl rfl KY _ [] (plainElem_int und_int WF) ?_; intro w4 hown4 hg4)
            | fail)
          have hP := ME2.out.put (World.ownsMap.isMap MP2.out) S (by rw [DD.out]; exact NB.out)
          rw [DD.out] at hP
          exact bodyPost_ret (v := .tuple #[.int .i64 d, .bool true]) (by simp [results, Try.results68, go_sem]) rfl ⟨rfl, (M2.out.turn hg4 hown4 hP).mono (by omega), GR.out.trans hg4⟩
        · have R : Hid (detR d = (0, false)) := detR_bad (D1.out s hac hs)
          have n2 : decide (NumP s) = false := decide_eq_false hs
          clear hac hs
          rw [R.out]
          go_enter Try.func68, Try.ntmps68
          go_wp2_with (first
            | (at_lookup; refine wpList_lookup_own_ok_int _ rfl _ _ 87 rfl 68 3 .i64 keyed_cols und_map und_int (zero_int _) bm c D rfl MP.out _ _ rfl KY ?_; intro v hat hwc)
            | fail)
          refine (EX.out _ ST.out).mono ?_
          rintro e w2 ⟨rfl, hm2, hg2⟩
          have M2 := Lib.hid (hm2.mono (show c + 6 * G ≤ c + 7 * G by omega))
          have GR := Lib.hid hg2
          clear hm2 hg2
          go_wp2_with fail
          refine (iIsNum s _).mono ?_
          rintro e w3 ⟨rfl, rfl⟩
          rw [n2]
          go_wp2_with fail
          exact bodyPost_ret (v := .tuple #[.int .i64 0, .bool false]) (by simp [results, Try.results68, go_sem]) rfl ⟨rfl, M2.out, GR.out⟩
end Go.Proofs.Ytdnajkoeojlnbaa
end

section
/-
  Chapter 6, in the program: IsSquare.
-/
namespace Go.Proofs.Ytdnajkoeojlnbaa
set_option maxRecDepth 100000
open Go.RowKit

set_option maxHeartbeats 1000000 in
theorem iIsSq (r c : Int) (a : Option Addr) (m : Nat) (xs : List Int) (w : World) (h : Rd w a xs) (hn : xs.length ≤ 16777216) :
    Calls Try.prog 18 #[.agg #[.int .i64 r, .int .i64 c, .slice a xs.length m]] w (Gives (.bool (isSq r c xs)) w) := by
  have H := Lib.hid h
  obtain ⟨n, hx⟩ : ∃ n, xs.length = n := ⟨_, rfl⟩
  have HX := Lib.hid hx
  rw [hx] at hn ⊢
  clear hx h
  have B0 : ∀ o1, Below w.heap.size w (w.alloc o1) := fun o1 => (Below.refl _ _).alloc (Nat.le_refl _) _
  have BH := Lib.hid B0
  clear B0
  have fin : ∀ b (w' : World), isSq r c xs = b → Below w.heap.size w w' → Gives (.bool (isSq r c xs)) w (.returned (.bool b)) w' := fun b w' h1 h2 => ⟨by rw [h1], h2⟩
  have FIN := Lib.hid fin
  clear fin
  go_enter Try.func18, Try.ntmps18
  go_wp2_with fail
  have ST := iIsMat r c a m xs _ (H.out.below (BH.out (.cells #[.int .i64 r, .int .i64 c, .slice a n m] 27))) (by rw [HX.out]; omega)
  rw [HX.out] at ST
  refine ST.mono ?_
  clear ST
  rintro e w1 ⟨rfl, hb⟩
  have K0 : Hid (Blk3 w1 w.heap.size 27 (.int .i64 r) (.int .i64 c) (.slice a n m)) := (Blk3.at_ _ _ _ _ rfl).keep hb (by simp)
  have B : Hid (Below w.heap.size w w1) := (BH.out _).trans (hb.mono (by simp))
  clear hb
  obtain ⟨ca0, ca1, ca2, -, -, -⟩ := K0.out.all
  obtain ⟨bm, hbm⟩ : ∃ b, isMat r c xs = b := ⟨_, rfl⟩
  rw [hbm]
  cases bm with
  | false =>
    have V : Hid (isSq r c xs = false) := by show isSq r c xs = false; unfold isSq; rw [hbm]; rfl
    clear hbm
    go_wp2_with fail
    go_ret
    exact FIN.out _ _ V.out B.out
  | true =>
    by_cases h1 : r = c
    · by_cases h2 : r ≤ 6
      · have V : Hid (isSq r c xs = true) := by show isSq r c xs = true; unfold isSq; rw [hbm, decide_eq_true h1, decide_eq_true h2]; rfl
        clear hbm
        subst h1
        go_wp2_with fail
        go_ret
        exact FIN.out _ _ V.out B.out
      · have V : Hid (isSq r c xs = false) := by show isSq r c xs = false; unfold isSq; rw [hbm, decide_eq_false h2]; simp
        clear hbm
        subst h1
        go_wp2_with fail
        go_ret
        exact FIN.out _ _ (by rw [V.out]; exact (decide_eq_false (by omega)).symm) B.out
    · have V : Hid (isSq r c xs = false) := by show isSq r c xs = false; unfold isSq; rw [hbm, decide_eq_false h1]; simp
      have n1 : (r == c) = false := by simpa using h1
      clear hbm
      go_wp2_with fail
      go_ret
      exact FIN.out _ _ V.out B.out
end Go.Proofs.Ytdnajkoeojlnbaa
end

section
/-
  Chapter 6, in the program: DeterminantOf.
-/
namespace Go.Proofs.Ytdnajkoeojlnbaa
set_option maxRecDepth 100000
open Go.RowKit Go.Maps

theorem rows_rd {w : World} {B l : Nat} {q : Option Addr} {qc : Nat} {rows : List Nat} (h : w.ownsRow B 3 1 (.slice q l qc) rows.length (rows.map fun (r : Nat) => Value.int .i64 (r : Int))) (hr : rows.length ≤ 6) : l = rows.length ∧ Rd w q (rows.map fun (r : Nat) => (r : Int)) := by
  have h2 : w.ownsRow B 3 1 (.slice q l qc) (rows.map fun (r : Nat) => (r : Int)).length ((rows.map fun (r : Nat) => (r : Int)).map (Value.int .i64)) := by
    rw [List.length_map, List.map_map]
    exact h
  have ho := Own.of_row h2 (by rw [List.length_map]; omega)
  rcases ho with ⟨hv, e⟩ | ⟨g, cap, hv, _, hi, _⟩
  · injection hv with e1 e2 e3
    subst e1
    rw [e]
    refine ⟨?_, Rd.nil _ _⟩
    have := congrArg List.length e
    rw [List.length_map] at this
    rw [e2, this]; rfl
  · injection hv with e1 e2 e3
    subst e1
    rw [List.length_map] at e2
    exact ⟨e2, hi.rd⟩
/-- A new block of determinants as the state that the expansion wants. -/
theorem new_st {n : Nat} {a : Option Addr} {m : Nat} {xs : List Int} {rows : List Nat} {q : Option Addr} {l qc px bm B : Nat} {w : World} (h5 : Blk5 w px 89 (.int .i64 n) (.int .i64 n) (.slice a (n * n) m) (.slice q l qc) (.map (some bm))) (ho : w.ownsRow B 3 1 (.slice q l qc) rows.length (rows.map fun (r : Nat) => Value.int .i64 (r : Int))) (hm : Mp w bm 0 (.map [])) (h : Rd w a xs) (hr : rows.length ≤ 6) :
    MnSt n a m xs rows q qc px bm 0 w := by
  obtain ⟨rfl, hq⟩ := rows_rd ho hr
  exact ⟨h5, h, hq, _, hm, Memo.none _ _ _⟩
theorem rowsBut_pick (n : Nat) (e : Int) (i : Nat) (h : i < (rowsBut n e).length) : (rowsBut n e).getD i 0 < n := rowsBut_lt h
theorem keepD {w0 W w' : World} {b : Nat} {p q v : Value} (h : W.cell? ⟨b, 0, none⟩ = some p ∧ W.cell? ⟨b, 1, none⟩ = some q ∧ W.cell? ⟨b, 2, none⟩ = some v ∧ Below w0.heap.size w0 W) (hb : Below W.heap.size W w') :
    w'.cell? ⟨b, 0, none⟩ = some p ∧ w'.cell? ⟨b, 1, none⟩ = some q ∧ w'.cell? ⟨b, 2, none⟩ = some v ∧ Below w0.heap.size w0 w' :=
  ⟨(hb.cell (World.block_lt_of_cell? W _ h.1)).trans h.1, (hb.cell (World.block_lt_of_cell? W _ h.2.1)).trans h.2.1, (hb.cell (World.block_lt_of_cell? W _ h.2.2.1)).trans h.2.2.1, h.2.2.2.trans (hb.mono h.2.2.2.size)⟩
theorem keepG {w0 W w' : World} {b bm : Nat} {p q v : Value} (h : W.cell? ⟨b, 0, none⟩ = some p ∧ W.cell? ⟨b, 1, none⟩ = some q ∧ W.cell? ⟨b, 2, none⟩ = some v ∧ Below w0.heap.size w0 W) (hb : W.grownBy w' (some bm)) (h1 : b < bm) (h2 : w0.heap.size ≤ bm) :
    w'.cell? ⟨b, 0, none⟩ = some p ∧ w'.cell? ⟨b, 1, none⟩ = some q ∧ w'.cell? ⟨b, 2, none⟩ = some v ∧ Below w0.heap.size w0 w' :=
  ⟨hb.cell h.1 (by simp; omega), hb.cell h.2.1 (by simp; omega), hb.cell h.2.2.1 (by simp; omega), h.2.2.2.trans (below_of_one hb h2 h.2.2.2.size)⟩
theorem pow7 : ∀ n, n ≤ 6 → 0 + 7 ^ n ≤ 1000000 := by decide
set_option maxHeartbeats 1000000 in
theorem iDetOf (r c : Int) (a : Option Addr) (m : Nat) (xs : List Int) (w : World) (h : Rd w a xs) (hn : xs.length ≤ 16777216) :
    Calls Try.prog 25 #[.agg #[.int .i64 r, .int .i64 c, .slice a xs.length m]] w (Gives (.tuple #[.int .i64 (detOf r c xs).1, .bool (detOf r c xs).2]) w) := by
  have H := Lib.hid h
  obtain ⟨l, hx⟩ : ∃ n, xs.length = n := ⟨_, rfl⟩
  have HX := Lib.hid hx
  rw [hx] at hn ⊢
  clear hx h
  have B0 : Hid (∀ o1, Below w.heap.size w (w.alloc o1)) := fun o1 => (Below.refl _ _).alloc (Nat.le_refl _) _
  have SQ : Hid (∀ w', Below w.heap.size w w' → Calls Try.prog 18 #[.agg #[.int .i64 r, .int .i64 c, .slice a l m]] w' (Gives (.bool (isSq r c xs)) w')) := fun w' hb => by
    have := iIsSq r c a m xs w' (H.out.below hb) (by rw [HX.out]; exact hn)
    rw [HX.out] at this
    exact this
  rcases Bool.eq_false_or_eq_true (isSq r c xs) with hs | hs
  · obtain ⟨n, rfl, rfl, h6, hl, nx⟩ := isSq_says hs
    have V : Hid (detOf n n xs = detM n xs) := by show detOf n n xs = _; unfold detOf; rw [if_pos hs]; rfl
    have LN : l = n * n := by rw [← HX.out]; exact hl
    subst LN
    have NW : Hid (∀ w', Calls Try.prog 67 #[.agg #[.int .i64 n, .int .i64 n, .slice a (n * n) m]] w' (MnNewR n (n * n) m a w')) := fun w' => iMinorsOf n (n * n) m a w' h6
    have FC : Hid (∀ w', Calls Try.prog 69 #[.int .i64 n] w' fun e w2 => e = .returned (.int .u64 ((2 ^ n - 1 : Nat) : Int)) ∧ w2 = w') := fun w' => iFirst n h6 w'
    have RL : (rowsBut n (-1)).length = n := by rw [rowsBut_all, List.length_range]
    have MI : Hid (∀ (px bm B : Nat) (V : Value) (w' : World), Blk5 w' px 89 (.int .i64 n) (.int .i64 n) (.slice a (n * n) m) V (.map (some bm)) → w'.ownsRow B 3 1 V (rowsBut n (-1)).length ((rowsBut n (-1)).map fun (r : Nat) => Value.int .i64 (r : Int)) → Mp w' bm 0 (.map []) → Below w.heap.size w w' →
        Calls Try.prog 68 #[.pointer (some ⟨px, 0, none⟩), .int .u64 ((2 ^ n - 1 : Nat) : Int)] w' (fun e w2 => e = .returned (.tuple #[.int .i64 (detM n xs).1, .bool (detM n xs).2]) ∧ w'.grownBy w2 (some bm))) := fun px bm B V w' h5 ho hm hb => by
      obtain ⟨q, l, qc, rfl⟩ := rows_form ho
      have := iMinor n a m xs (rowsBut n (-1)) q qc px bm h6 hl nx (fun i hi => rowsBut_lt hi) (by omega) n (by omega) (2 ^ n - 1) 0 w' (by have := Nat.two_pow_pos n; omega) (by rw [colsL_full n h6, List.length_range]) (new_st h5 ho hm (H.out.below hb) (by omega)) (pow7 n h6)
      rw [rowsBut_all, setD_all h6 hl] at this
      refine this.mono ?_
      rintro e w2 ⟨rfl, -, hg⟩
      exact ⟨rfl, hg⟩
    obtain ⟨dn, hdn⟩ : ∃ d, (detM n xs).1 = d := ⟨_, rfl⟩
    obtain ⟨db, hdb⟩ : ∃ d, (detM n xs).2 = d := ⟨_, rfl⟩
    rw [V.out]
    rw [hdn, hdb] at MI ⊢
    obtain ⟨F, hF⟩ : ∃ F, (2 ^ n - 1 : Nat) = F := ⟨_, rfl⟩
    rw [hF] at MI FC
    clear V hdn hdb hF RL
    rw [hs] at SQ
    clear hs
    go_enter Try.func25, Try.ntmps25
    go_wp2_with fail
    refine (SQ.out _ (B0.out _)).mono ?_
    rintro e w1 ⟨rfl, hb⟩
    have K0 : Hid (Blk3 w1 w.heap.size 27 (.int .i64 n) (.int .i64 n) (.slice a (n * n) m)) := (Blk3.at_ _ _ _ _ rfl).keep hb (by simp)
    have B : Hid (Below w.heap.size w w1) := (B0.out _).trans (hb.mono (by simp))
    clear hb
    obtain ⟨a0, a1, a2, -, -, -⟩ := K0.out.all
    have hS := Lib.hid (And.intro a0 (And.intro a1 (And.intro a2 B.out)))
    have SZ : w.heap.size < w1.heap.size := K0.out.lt
    go_upto_region 3 with fail
    go_region_held3 (fun w' => w'.cell? ⟨w.heap.size, 0, none⟩ = some (.int .i64 n) ∧ w'.cell? ⟨w.heap.size, 1, none⟩ = some (.int .i64 n) ∧ w'.cell? ⟨w.heap.size, 2, none⟩ = some (.slice a (n * n) m) ∧ Below w.heap.size w w') (first | exact keepD hS.out (Below.refl _ _).drew | with_reducible exact keepD ‹_› ‹Below _ _ _› | with_reducible exact keepG ‹_› ‹World.grownBy _ _ _› ‹_› (Nat.le_of_lt ‹_›))
      (first
      | (go_at_call 67; (with_reducible refine (NW.out _).mono ?_); rintro e w2 ⟨px, bm, V, rfl, -, x2, x3, x4, x5, hb1⟩; replace x2 : w.heap.size < bm := Nat.lt_of_lt_of_le SZ x2)
      | (go_at_call 69; (with_reducible refine (FC.out _).mono ?_); rintro e w3 ⟨rfl, rfl⟩; have hb3 := Below.refl w3.heap.size w3)
      | (go_at_call 68; (with_reducible refine (MI.out _ _ _ _ _ ‹_› ‹_› ‹_› (And.right (And.right (And.right ‹_›)))).mono ?_); rintro e w4 ⟨rfl, hg4⟩))
    all_goals
      go_wp2_with fail
      exact bodyPost_ret (v := .tuple #[.int .i64 dn, .bool db]) (by simp [results, Try.results25, go_sem]) rfl ⟨rfl, (And.right (And.right (And.right ‹_ ∧ _ ∧ _ ∧ Below w.heap.size w _›)))⟩
  · have V : Hid (detOf r c xs = (0, false)) := by show detOf r c xs = _; unfold detOf; rw [if_neg (by rw [hs]; decide)]
    rw [hs] at SQ
    clear hs
    rw [V.out]
    go_enter Try.func25, Try.ntmps25
    go_wp2_with fail
    refine (SQ.out _ (B0.out _)).mono ?_
    rintro e w1 ⟨rfl, hb⟩
    have B : Hid (Below w.heap.size w w1) := (B0.out _).trans (hb.mono (by simp))
    clear hb
    go_wp2_with fail
    exact bodyPost_ret (v := .tuple #[.int .i64 0, .bool false]) (by simp [results, Try.results25, go_sem]) rfl ⟨rfl, B.out⟩
end Go.Proofs.Ytdnajkoeojlnbaa
end
