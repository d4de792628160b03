/-
  Texts of this seat, joined: ZASoLif · ZASvRep · ZAWcI · ZAElTo · ZAMnMath · ZAMnMem · ZAMnTake · ZAMnNew · ZAMnAcc · ZAMnBits · ZAMnDet · ZAMnDet2 · ZADetI · ZASdI · ZASoDet · ZAChiL
-/
import Derived.BigQuiet
import Derived.Deep.QuietTactic
import Derived.Maps.OwnSet
import Derived.Maps.AppendAt
import Derived.Deep.DeepCutAuto
import Derived.IntWalk
import Derived.Test.YtcapddcmnjeloaaGreatDoorRows
import Derived.WalkKit
import Derived.Laws.BitsAll
import Derived.Deep.RegionHeld3
import Derived.Test.YtcapddcmnjeloaaGreatDoorPk1
import Derived.Test.YtcapddcmnjeloaaGreatDoorPk2
import Derived.Test.YtcapddcmnjeloaaGreatDoorPk3
import Derived.Test.YtcapddcmnjeloaaGreatDoorPk4
import Derived.Test.YtcapddcmnjeloaaGreatDoorPk6
import Derived.Test.YtcapddcmnjeloaaGreatDoorPk7

section
/-
  Chapter 11, in the program: SolveByLifting.
-/
namespace Go.Proofs.YtcapddcmnjeloaaGreatDoor
set_option maxRecDepth 100000
open Go.RowKit
theorem sysRLif {r c : Int} {xs bs : List Int} (h : isSq r c xs = true) : fitR r bs = sysB r c xs bs := by
  obtain ⟨n, rfl, -, h6, -, -⟩ := isSq_says h
  rw [fitR_eq (by omega)]
  unfold sysB
  rw [h, Bool.true_and]
set_option maxHeartbeats 2000000 in
theorem iSolveLif (r c : Int) (a : Option Addr) (m : Nat) (xs : List Int) (ab : Option Addr) (mb : Nat) (bs : List Int) (w : World) (h : Rd w a xs) (hn : xs.length ≤ 16777216) (hb : Rd w ab bs) (hbn : bs.length ≤ 16777216) (zs : List (Int × Int)) (ok : Bool)
    (HN : sysB r c xs bs = false → zs = [] ∧ ok = false) (HY : sysB r c xs bs = true → ∀ w', Below w.heap.size w w' → Calls Tryz.prog 42 #[.agg #[.int .i64 r, .int .i64 c, .slice a xs.length m], .slice ab bs.length mb] w' (RoadRes zs ok w')) :
    Calls Tryz.prog 35 #[.agg #[.int .i64 r, .int .i64 c, .slice a xs.length m], .slice ab bs.length mb, .func (.func 42) #[] #[]] w (QRes zs ok w) := by
  have SQ : Hid (∀ w', Below w.heap.size w w' → Calls Tryz.prog 73 #[.agg #[.int .i64 r, .int .i64 c, .slice a xs.length m]] w' (Gives (.bool (isSq r c xs)) w')) := fun w' hb' => iIsSq r c a m xs w' (h.below hb') hn
  have FT : Hid (∀ w', Below w.heap.size w w' → Calls Tryz.prog 74 #[.agg #[.int .i64 r, .int .i64 c, .slice a xs.length m], .slice ab bs.length mb] w' (Gives (.bool (fitR r bs)) w')) := fun w' hb' => iFits r c a xs.length m ab mb bs w' (hb.below hb') hbn
  have HN := Lib.hid HN
  have HY := Lib.hid HY
  have K0 : Hid (Blk3 (w.alloc (.cells #[.int .i64 r, .int .i64 c, .slice a xs.length m] 26)) w.heap.size 26 (.int .i64 r) (.int .i64 c) (.slice a xs.length m)) := Blk3.at_ _ _ _ _ rfl
  have B0 : Hid (Below w.heap.size w (w.alloc (.cells #[.int .i64 r, .int .i64 c, .slice a xs.length m] 26))) := (Below.refl _ _).alloc (Nat.le_refl _) _
  have NS : Hid (isSq r c xs = false → sysB r c xs bs = false) := fun h => sysB_false (.inl h)
  have YS : Hid (isSq r c xs = true → fitR r bs = sysB r c xs bs) := fun h => sysRLif h
  generalize sysB r c xs bs = sb at HN HY NS YS
  generalize isSq r c xs = sq at SQ NS YS
  generalize fitR r bs = ft at FT YS
  generalize xs.length = L at SQ FT HY K0 B0 hn ⊢
  generalize bs.length = Lb at FT HY hbn ⊢
  clear h hb
  obtain ⟨z0, z1, z2, -, -, -⟩ := K0.out.all
  go_enter Tryz.func35, Tryz.ntmps35
  go_wp2_with fail
  refine (SQ.out _ B0.out).mono ?_
  rintro e w1 ⟨rfl, hb1⟩
  have K1 := Lib.hid (K0.out.step hb1)
  have B1 := Lib.hid (B0.out.trans (hb1.mono B0.out.size))
  clear hb1 z0 z1 z2 K0 B0 SQ
  obtain ⟨z0, z1, z2, -, -, -⟩ := K1.out.all
  cases sq with
  | false =>
    obtain ⟨e1, e2⟩ := HN.out (NS.out rfl)
    subst e1 e2
    go_wp2_with fail
    go_ret2
    exact ⟨_, rfl, OwnR.nil _ _, B1.out⟩
  | true =>
    have e3 : ft = sb := YS.out rfl
    subst e3
    go_wp2_with fail
    refine (FT.out _ B1.out).mono ?_
    rintro e w2 ⟨rfl, hb2⟩
    have K2 := Lib.hid (K1.out.step hb2)
    have B2 := Lib.hid (B1.out.trans (hb2.mono B1.out.size))
    clear hb2 z0 z1 z2 K1 B1 FT
    obtain ⟨z0, z1, z2, -, -, -⟩ := K2.out.all
    cases ft with
    | false =>
      obtain ⟨e1, e2⟩ := HN.out rfl
      subst e1 e2
      go_wp2_with fail
      go_ret2
      exact ⟨_, rfl, OwnR.nil _ _, B2.out⟩
    | true =>
      have HR : Hid (∀ w', Below w.heap.size w w' → Calls Tryz.prog 42 #[.agg #[.int .i64 r, .int .i64 c, .slice a L m], .slice ab Lb mb] w' (RoadRes zs ok w')) := HY.out rfl
      go_wp2_with fail
      refine (HR.out _ B2.out).mono ?_
      rintro e w3 ⟨v, ev, rfl, own, hb3, hev⟩
      obtain ⟨qa, qc, rfl⟩ := own.form
      have B3 := Lib.hid (B2.out.trans (hb3.mono B2.out.size))
      have OW := Lib.hid (own.le B2.out.size)
      clear hb3 own z0 z1 z2 K2
      rcases hev with ⟨rfl, rfl⟩ | ⟨rfl, ty, u, rfl⟩
      · go_wp2_with fail
        go_quiet (fail)
        go_wp2_with fail
        go_ret2
        exact ⟨_, rfl, OW.out, below_drewN B3.out _⟩
      · go_wp2_with fail
        go_quiet (fail)
        go_wp2_with fail
        go_ret2
        exact ⟨_, rfl, OW.out, below_drewN B3.out _⟩
theorem iSl (r c : Int) (a : Option Addr) (m : Nat) (xs : List Int) (ab : Option Addr) (mb : Nat) (bs : List Int) (w : World) (h : Rd w a xs) (hc : CelA a xs.length m) (hn : xs.length ≤ 16777216) (hb : Rd w ab bs) (hbn : bs.length ≤ 16777216) (tb : TabE w) :
    Calls Tryz.prog 11 #[.agg #[.int .i64 r, .int .i64 c, .slice a xs.length m], .slice ab bs.length mb] w (QRes (slX r c xs bs).1 (slX r c xs bs).2 w) := by
  have SV : Hid (∀ w', Below w.heap.size w w' → Calls Tryz.prog 35 #[.agg #[.int .i64 r, .int .i64 c, .slice a xs.length m], .slice ab bs.length mb, .func (.func 42) #[] #[]] w' (QRes (slX r c xs bs).1 (slX r c xs bs).2 w')) := fun w' hb' => iSolveLif r c a m xs ab mb bs w' (h.below hb') hn (hb.below hb') hbn _ _ (fun h => by rw [slX_sys h]; exact ⟨rfl, rfl⟩) (fun hs w2 hb2 => by
    obtain ⟨n, rfl, rfl, -⟩ := sysB_says hs
    exact iByLif n a m xs ab mb bs w2 ((h.below hb').below hb2) hc hs ((hb.below hb').below hb2) ((tb.below hb').below hb2))
  have B0 : Hid (Below w.heap.size w (w.alloc (.cells #[.int .i64 r, .int .i64 c, .slice a xs.length m] 26))) := (Below.refl _ _).alloc (Nat.le_refl _) _
  have K0 : Hid (Blk3 (w.alloc (.cells #[.int .i64 r, .int .i64 c, .slice a xs.length m] 26)) w.heap.size 26 (.int .i64 r) (.int .i64 c) (.slice a xs.length m)) := Blk3.at_ _ _ _ _ rfl
  generalize slX r c xs bs = RES at SV ⊢
  generalize xs.length = L at SV K0 B0 ⊢
  generalize bs.length = Lb at SV ⊢
  clear h hn hb hbn hc tb
  obtain ⟨z0, z1, z2, -, -, -⟩ := K0.out.all
  go_enter Tryz.func11, Tryz.ntmps11
  go_wp2_with fail
  refine (SV.out _ B0.out).mono ?_
  rintro e w1 ⟨v, rfl, own, hb1⟩
  obtain ⟨qa, qc, rfl⟩ := own.form
  have B1 := Lib.hid (B0.out.trans (hb1.mono B0.out.size))
  have OW := Lib.hid (own.le B0.out.size)
  clear hb1 own z0 z1 z2 K0
  go_wp2_with fail
  go_ret2
  exact ⟨_, rfl, OW.out, B1.out⟩
end Go.Proofs.YtcapddcmnjeloaaGreatDoor
end

section
/-
  Chapter 11, in the model: a column replaced.
-/
namespace Go.Proofs.YtcapddcmnjeloaaGreatDoor
set_option maxRecDepth 100000
open Go.RowKit
def rcTo (n : Nat) (xs bs : List Int) (j i : Nat) : List Int := tab n n fun p q => if q = j ∧ p < i then bs.getD p 0 else xs.getD (p * n + q) 0
theorem rcTo_length (n : Nat) (xs bs : List Int) (j i : Nat) : (rcTo n xs bs j i).length = n * n := tab_length _ _ _
theorem rcTo_zero {n : Nat} {xs : List Int} (hx : xs.length = n * n) (bs : List Int) (j : Nat) : rcTo n xs bs j 0 = xs := by
  refine (tab_ext hx fun p q _ _ => ?_).symm
  rw [if_neg (fun h => by omega)]
theorem rcTo_all (n : Nat) (xs bs : List Int) (j : Nat) : rcTo n xs bs j n = rcL n xs bs j := by
  unfold rcTo rcL
  refine tab_ext (tab_length _ _ _) fun p q hp hq => ?_
  rw [tab_at _ _ _ hp hq]
  by_cases h : q = j
  · rw [if_pos h, if_pos ⟨h, hp⟩]
  · rw [if_neg h, if_neg (fun e => h e.1)]
theorem rcTo_step {n i j : Nat} (xs bs : List Int) (hi : i < n) (hj : j < n) : (rcTo n xs bs j i).set (i * n + j) (bs.getD i 0) = rcTo n xs bs j (i + 1) := set_tab hi hj (by show (if j = j ∧ i < i + 1 then _ else _) = _; rw [if_pos ⟨rfl, by omega⟩]) fun p q _ _ h => by
  by_cases e : q = j ∧ p < i
  · rw [if_pos e, if_pos ⟨e.1, by omega⟩]
  · rw [if_neg e, if_neg fun h2 => by
      rcases Nat.lt_or_ge p i with h3 | h3
      · exact e ⟨h2.1, h3⟩
      · exact h ⟨by omega, h2.1⟩]
end Go.Proofs.YtcapddcmnjeloaaGreatDoor
end

section
/-
  Chapter 11, in the program: withColumn.
-/
namespace Go.Proofs.YtcapddcmnjeloaaGreatDoor
set_option maxRecDepth 100000
open Go.RowKit
set_option maxHeartbeats 4000000 in
theorem iWith (n j : Nat) (a : Option Addr) (m : Nat) (xs : List Int) (ab : Option Addr) (mb : Nat) (bs : List Int) (w : World) (h : Rd w a xs) (hx : xs.length = n * n) (hb : Rd w ab bs) (hbl : bs.length = n) (hj : j < n) (h6 : n ≤ 6) :
    Calls Tryz.prog 76 #[.agg #[.int .i64 n, .int .i64 n, .slice a (n * n) m], .int .i64 j, .slice ab n mb] w fun e w' => ∃ g cap : Nat, e = .returned (.agg #[.int .i64 n, .int .i64 n, .slice (some ⟨g, 0, none⟩) (n * n) cap]) ∧ Ints w' g (rcL n xs bs j) ∧ Below w.heap.size w w' := by
  have N36 : n * n ≤ 36 := Nat.mul_le_mul h6 h6
  have N0 : 0 < n * n := Nat.mul_pos (by omega) (by omega)
  have CP : Hid (∀ w', Below w.heap.size w w' → Calls Tryz.prog 124 #[.agg #[.int .i64 n, .int .i64 n, .slice a (n * n) m]] w' (fun e w2 => ∃ g cap : Nat, e = .returned (.agg #[.int .i64 n, .int .i64 n, .slice (some ⟨g, 0, none⟩) (n * n) cap]) ∧ w'.heap.size ≤ g ∧ Ints w2 g xs ∧ Below w'.heap.size w' w2)) := fun w' hb' => (iCopyOf n n a m (n * n) xs hx w' (h.below hb') (by omega)).mono fun e w2 ⟨q, qc, e1, own, hb2⟩ => by
    rcases own.cases with ⟨-, e0⟩ | ⟨g, cap, e2, hg, hi, -⟩
    · rw [e0] at hx; simp only [List.length_nil] at hx; omega
    · injection e2 with e3 e4 e5
      subst e3 e5
      exact ⟨g, qc, e1, hg, hi, hb2⟩
  have IY : Hid (∀ i, i < n → i * n + j < n * n ∧ IntKind.i64.wrap ((i : Int) * (n : Int)) = (i : Int) * (n : Int) ∧ IntKind.i64.wrap ((i : Int) * (n : Int) + (j : Int)) = ((i * n + j : Nat) : Int)) := fun i hi => by
    have h1 : i * n + j < n * n := idx_lt hi hj
    have c1 : (i : Int) * (n : Int) = ((i * n : Nat) : Int) := (Int.natCast_mul _ _).symm
    refine ⟨by omega, IntWalk.i64_in _ (by rw [c1]; omega), ?_⟩
    rw [show (i : Int) * (n : Int) + (j : Int) = ((i * n + j : Nat) : Int) by rw [c1]; omega]
    exact IntWalk.i64_in _ (by omega)
  have R0 : Hid (rcTo n xs bs j 0 = xs) := rcTo_zero hx bs j
  have RA := Lib.hid (rcTo_all n xs bs j)
  have RS : Hid (∀ i, i < n → (rcTo n xs bs j i).set (i * n + j) (bs.getD i 0) = rcTo n xs bs j (i + 1)) := fun i hi => rcTo_step xs bs hi hj
  have RL : Hid (∀ i, (rcTo n xs bs j i).length = n * n) := fun i => rcTo_length n xs bs j i
  have RB : Hid (Rd w ab bs) := hb
  have XB := Lib.hid hbl
  obtain ⟨N, hN⟩ : ∃ N, n * n = N := ⟨_, rfl⟩
  rw [hN] at CP IY RL N36 ⊢
  clear h hb hx hbl hN N0
  have K3 : Hid (Blk3 ((w.alloc (.cells #[.int .i64 n, .int .i64 n, .slice a N m] 26)).alloc (.cells #[.int .i64 0, .int .i64 0, .slice none 0 0] 26)) w.heap.size 26 (.int .i64 n) (.int .i64 n) (.slice a N m)) := (Blk3.at_ _ _ _ _ rfl).old _
  have K6 : Hid (Blk3 ((w.alloc (.cells #[.int .i64 n, .int .i64 n, .slice a N m] 26)).alloc (.cells #[.int .i64 0, .int .i64 0, .slice none 0 0] 26)) (w.heap.size + 1) 26 (.int .i64 0) (.int .i64 0) (.slice none 0 0)) := Blk3.at_ _ _ _ _ (by simp)
  have B0 : Hid (Below w.heap.size w ((w.alloc (.cells #[.int .i64 n, .int .i64 n, .slice a N m] 26)).alloc (.cells #[.int .i64 0, .int .i64 0, .slice none 0 0] 26))) := ((Below.refl _ _).alloc (Nat.le_refl _) _).alloc (by simp) _
  obtain ⟨z0, z1, z2, -, -, -⟩ := K3.out.all
  go_enter Tryz.func76, Tryz.ntmps76
  go_wp2_with fail
  clear z0 z1 z2
  generalize (w.alloc (.cells #[.int .i64 n, .int .i64 n, .slice a N m] 26)).alloc (.cells #[.int .i64 0, .int .i64 0, .slice none 0 0] 26) = W at K3 K6 B0 ⊢
  refine (CP.out _ B0.out).mono ?_
  rintro e w1 ⟨g, cap, rfl, hg, hi, hb1⟩
  have l3 := K3.out.lt
  have l6 := K6.out.lt
  have lg := hi.lt
  have I1 : Hid (Ints (w1.alloc (.cells #[.int .i64 n, .int .i64 n, .slice (some ⟨g, 0, none⟩) N cap] 26)) g (rcTo n xs bs j 0)) := by refine Lib.hid ?_; rw [R0.out]; exact hi.move (Below.heap_alloc _ _ _ lg)
  have K3 := Lib.hid ((K3.out.step hb1).old (.cells #[.int .i64 n, .int .i64 n, .slice (some ⟨g, 0, none⟩) N cap] 26))
  have K6 := Lib.hid ((K6.out.step hb1).old (.cells #[.int .i64 n, .int .i64 n, .slice (some ⟨g, 0, none⟩) N cap] 26))
  have K7 : Hid (Blk3 (w1.alloc (.cells #[.int .i64 n, .int .i64 n, .slice (some ⟨g, 0, none⟩) N cap] 26)) w1.heap.size 26 (.int .i64 n) (.int .i64 n) (.slice (some ⟨g, 0, none⟩) N cap)) := Blk3.at_ _ _ _ _ rfl
  have s1 := hb1.size
  have B1 := Lib.hid ((B0.out.trans (hb1.mono B0.out.size)).alloc (by have := B0.out.size; omega) (.cells #[.int .i64 n, .int .i64 n, .slice (some ⟨g, 0, none⟩) N cap] 26))
  have sW := B0.out.size
  clear hi hb1 B0
  obtain ⟨b7, hb7⟩ : ∃ b7, w1.heap.size = b7 := ⟨_, rfl⟩
  have n7 : b7 ≠ g := by omega
  have n3 : w.heap.size ≠ g := by omega
  have n6 : w.heap.size + 1 ≠ g := by omega
  go_upto_region 2 with fail
  rw [hb7] at K7
  generalize w1.alloc (.cells #[.int .i64 n, .int .i64 n, .slice (some ⟨g, 0, none⟩) N cap] 26) = W1 at I1 K3 K6 K7 B1 ⊢
  clear hb7 l3 l6 s1
  go_wp2_with fail
  go_loopw [8, 9, 14] (fun _ _ v14 wr => ∃ i : Nat, v14 = .int .i64 i ∧ i ≤ n ∧ Ints wr g (rcTo n xs bs j i) ∧ Blk3 wr w.heap.size 26 (.int .i64 n) (.int .i64 n) (.slice a N m) ∧ Blk3 wr (w.heap.size + 1) 26 (.int .i64 0) (.int .i64 0) (.slice none 0 0) ∧ Blk3 wr b7 26 (.int .i64 n) (.int .i64 n) (.slice (some ⟨g, 0, none⟩) N cap) ∧ Below w.heap.size w wr) (fun _ _ v14 _ => n - (intOf v14).toNat)
  case atStart => exact ⟨0, rfl, by omega, I1.out, K3.out, K6.out, K7.out, B1.out⟩
  case round =>
    clear I1 K3 K6 K7 B1
    obtain ⟨i, rfl, hi, hI, h3, h6', h7, hB⟩ := hrel
    have I := Lib.hid hI
    have K3 := Lib.hid h3
    have K6 := Lib.hid h6'
    have K7 := Lib.hid h7
    have BO := Lib.hid hB
    clear hI h3 h6' h7 hB
    by_cases hlt : i < n
    · obtain ⟨y1, y2, y3⟩ := IY.out i hlt
      have SS := Lib.hid (RS.out i hlt)
      obtain ⟨b1, o1, rfl, hc1⟩ := (RB.out.below BO.out) i (by rw [XB.out]; exact hlt)
      obtain ⟨x, hx⟩ : ∃ x, bs.getD i 0 = x := ⟨_, rfl⟩
      rw [hx] at hc1 SS
      obtain ⟨P, hP⟩ : ∃ P, i * n + j = P := ⟨_, rfl⟩
      rw [hP] at SS y1 y3
      have P0 : (0 : Int) ≤ (P : Int) := by omega
      have P1 : (P : Int) < (N : Int) := by omega
      have gc := I.out.cell (i := P) (by rw [RL.out]; omega)
      have gf := I.out.free P
      obtain ⟨a0, a1, a2, -, -, -⟩ := K3.out.all
      obtain ⟨c0, c1, c2, -, -, -⟩ := K7.out.all
      clear hx hP
      go_wp2_with fail
      go_roundw
      case rel =>
        refine ⟨i + 1, by go_num, by omega, ?_, K3.out.far n3 _, K6.out.far n6 _, K7.out.far n7 _, ?_⟩
        · rw [← SS.out]
          exact I.out.set P x
        · exact BO.out.setCell (by show w.heap.size ≤ g; omega) _
      case measure => simp [intOf]; omega
    · obtain rfl : i = n := by omega
      obtain ⟨q0, q1, q2, q3, q4, q5⟩ := K6.out.all
      obtain ⟨y0, y1, y2, -, -, -⟩ := K7.out.all
      go_wp2_with fail
      obtain ⟨E0, E1, E2, -, -, -⟩ := (K6.out.set3 (.int .i64 i) (.int .i64 i) (.slice (some ⟨g, 0, none⟩) N cap)).all
      refine bodyPost_ret (v := .agg #[.int .i64 i, .int .i64 i, .slice (some ⟨g, 0, none⟩) N cap]) (by simp [results, Tryz.results76, go_sem, E0, E1, E2]) rfl ⟨g, cap, rfl, ?_, ?_⟩
      · rw [← RA.out]
        exact ((I.out.far (fun e => n6 e.symm) _).far (fun e => n6 e.symm) _).far (fun e => n6 e.symm) _
      · exact ((BO.out.setCell (by show w.heap.size ≤ w.heap.size + 1; omega) _).setCell (by show w.heap.size ≤ w.heap.size + 1; omega) _).setCell (by show w.heap.size ≤ w.heap.size + 1; omega) _
end Go.Proofs.YtcapddcmnjeloaaGreatDoor
end

section
/-
  Plain mathematics of chapter 6: a step of the elimination, cell by cell. Nothing of a program is used.
-/
namespace Go.Proofs.YtcapddcmnjeloaaGreatDoor
end Go.Proofs.YtcapddcmnjeloaaGreatDoor
end

section
/-
  Plain mathematics of chapter 6: determinants of the last of some rows in a set of columns, the columns as the bits of a number. Nothing of a program is used.
-/
namespace Go.Proofs.YtcapddcmnjeloaaGreatDoor
def colsL (n S : Nat) : List Nat := (List.range n).filter fun c => S.testBit c
def lessS (S c : Nat) : Nat := S &&& (18446744073709551615 - 2 ^ c)
def rowsD (xs : List Int) (n : Nat) (rows cs : List Nat) : List Int := tab cs.length cs.length fun i j => xs.getD (rows.getD (rows.length - cs.length + i) 0 * n + cs.getD j 0) 0
def setD (n : Nat) (xs : List Int) (rows : List Nat) (S : Nat) : Int := detB (colsL n S).length (rowsD xs n rows (colsL n S))
theorem colsL_succ (c S : Nat) : colsL (c + 1) S = if S.testBit c then colsL c S ++ [c] else colsL c S := by
  unfold colsL
  rw [List.range_succ, List.filter_append]
  by_cases h : S.testBit c = true
  · rw [if_pos h]; simp [h]
  · rw [if_neg h]; simp [h]
theorem colsL_in {c S : Nat} (h : S.testBit c = true) : (colsL (c + 1) S).length = (colsL c S).length + 1 := by rw [colsL_succ, if_pos h]; simp
theorem colsL_out {c S : Nat} (h : S.testBit c = false) : colsL (c + 1) S = colsL c S := by rw [colsL_succ, if_neg (by rw [h]; decide)]
theorem colsL_pre {c n S : Nat} (h : c ≤ n) : ∃ r, colsL n S = colsL c S ++ r := by
  obtain ⟨k, rfl⟩ := Nat.exists_eq_add_of_le h
  unfold colsL
  rw [List.range_add, List.filter_append]
  exact ⟨_, rfl⟩
theorem colsL_at {c n S : Nat} (hc : c < n) (h : S.testBit c = true) : (colsL c S).length < (colsL n S).length ∧ (colsL n S).getD (colsL c S).length 0 = c := by
  obtain ⟨r, e⟩ := colsL_pre (S := S) (show c + 1 ≤ n from hc)
  rw [e, colsL_succ, if_pos h]
  refine ⟨by simp, ?_⟩
  simp [List.getD]
theorem colsL_le {c n S : Nat} (h : c ≤ n) : (colsL c S).length ≤ (colsL n S).length := by
  obtain ⟨r, e⟩ := colsL_pre (S := S) h
  rw [e, List.length_append]; omega
theorem colsL_less : ∀ n, n ≤ 6 → ∀ S, S < 64 → ∀ c, c < n → S.testBit c = true → colsL n (lessS S c) = (colsL n S).eraseIdx (colsL c S).length ∧ lessS S c < 64 := by
  decide +kernel
theorem lessS_lt : ∀ n, n ≤ 6 → ∀ S, S < 2 ^ n → ∀ c, c < n → lessS S c < 2 ^ n := by
  decide +kernel
theorem colsL_none : ∀ n, n ≤ 6 → ∀ S, S < 2 ^ n → (colsL n S).length = 0 → S = 0 := by
  decide +kernel
theorem colsL_full : ∀ n, n ≤ 6 → colsL n (2 ^ n - 1) = List.range n := by decide +kernel
theorem colsL_zero (n : Nat) : colsL n 0 = [] := by unfold colsL; simp
theorem erase_getD (cs : List Nat) (t j : Nat) : (cs.eraseIdx t).getD j 0 = cs.getD (skp t j) 0 := by
  unfold skp
  rw [List.getD, List.getD, List.getElem?_eraseIdx]
  split <;> rfl
theorem rowsD_minor (xs : List Int) (n : Nat) (rows cs : List Nat) (k t : Nat) (hc : cs.length = k + 1) (hr : k + 1 ≤ rows.length) (ht : t < k + 1) :
    woL (k + 1) 0 (t : Int) (rowsD xs n rows cs) ((k + 1) * (k + 1)) = rowsD xs n rows (cs.eraseIdx t) := by
  have hl : (cs.eraseIdx t).length = k := by rw [List.length_eraseIdx, hc, if_pos ht]; omega
  have e := woL_tab k 0 t (rowsD xs n rows cs) (by omega) ht
  rw [show ((0 : Nat) : Int) = 0 from rfl] at e
  rw [e]
  unfold rowsD
  rw [hl, hc]
  have hl2 : (tab k k fun i j => xs.getD (rows.getD (rows.length - k + i) 0 * n + (cs.eraseIdx t).getD j 0) 0).length = k * k := tab_length _ _ _
  refine (tab_ext hl2 fun i j hi hj => ?_).symm
  rw [tab_at k k _ hi hj, tab_at (k + 1) (k + 1) _ (skp_lt hi) (skp_lt hj), erase_getD, skp_zero]
  rw [show rows.length - (k + 1) + (i + 1) = rows.length - k + i by omega]
theorem setD_first {xs : List Int} {n : Nat} {rows cs : List Nat} {k : Nat} (hc : cs.length = k + 1) (j : Nat) (hj : j < k + 1) : (rowsD xs n rows cs).getD j 0 = xs.getD (rows.getD (rows.length - (k + 1)) 0 * n + cs.getD j 0) 0 := by
  have := tab_at (k + 1) (k + 1) (fun i j => xs.getD (rows.getD (rows.length - (k + 1) + i) 0 * n + cs.getD j 0) 0) (show 0 < k + 1 by omega) hj
  rw [Nat.zero_mul, Nat.zero_add, Nat.add_zero] at this
  unfold rowsD
  rw [hc]
  exact this
theorem setD_zero (n : Nat) (xs : List Int) (rows : List Nat) : setD n xs rows 0 = 1 := by unfold setD; rw [colsL_zero]; rfl
theorem setD_or (n : Nat) (xs : List Int) (rows : List Nat) (S : Nat) : setD n xs rows S = badN ∨ NumP (setD n xs rows S) := detB_or _ _
theorem mnB_less {n S c k : Nat} {xs : List Int} {rows : List Nat} (h6 : n ≤ 6) (hS : S < 64) (hc : c < n) (hb : S.testBit c = true) (hk : (colsL n S).length = k + 1) (hr : k + 1 ≤ rows.length) :
    mnB k (rowsD xs n rows (colsL n S)) (colsL c S).length = setD n xs rows (lessS S c) := by
  obtain ⟨e, -⟩ := colsL_less n h6 S hS c hc hb
  have hp := (colsL_at hc hb).1
  unfold mnB setD
  rw [e, List.length_eraseIdx, hk, if_pos (by omega), Nat.add_sub_cancel, rowsD_minor xs n rows _ k _ hk hr (by omega)]
theorem less_card {n S c k : Nat} (h6 : n ≤ 6) (hS : S < 64) (hc : c < n) (hb : S.testBit c = true) (hk : (colsL n S).length = k + 1) : (colsL n (lessS S c)).length = k := by
  obtain ⟨e, -⟩ := colsL_less n h6 S hS c hc hb
  have hp := (colsL_at hc hb).1
  rw [e, List.length_eraseIdx, hk, if_pos (by omega)]; omega
theorem setD_all {n : Nat} {xs : List Int} (h6 : n ≤ 6) (hx : xs.length = n * n) : setD n xs (List.range n) (2 ^ n - 1) = detB n xs := by
  unfold setD
  rw [colsL_full n h6]
  unfold rowsD
  simp only [List.length_range, Nat.sub_self, Nat.zero_add]
  congr 1
  refine (tab_ext hx fun i j hi hj => ?_).symm
  simp [List.getD, hi, hj]
def rowsBut (n : Nat) (e : Int) : List Nat := (List.range n).filter fun (r : Nat) => decide ((r : Int) ≠ e)
theorem rowsBut_all (n : Nat) : rowsBut n (-1) = List.range n := by
  unfold rowsBut
  refine List.filter_eq_self.mpr fun r _ => decide_eq_true (by omega)
theorem rowsBut_le (n : Nat) (e : Int) : (rowsBut n e).length ≤ n := by
  unfold rowsBut
  have := List.length_filter_le (fun (r : Nat) => decide ((r : Int) ≠ e)) (List.range n)
  simpa using this
theorem rowsBut_lt {n : Nat} {e : Int} {k : Nat} (h : k < (rowsBut n e).length) : (rowsBut n e).getD k 0 < n := by
  have := List.getElem_mem h
  rw [List.getD, List.getElem?_eq_getElem h]
  unfold rowsBut at this
  exact List.mem_range.mp (List.mem_filter.mp this).1
theorem rowsBut_in {e : Int} {r : Nat} (h : (r : Int) ≠ e) : rowsBut (r + 1) e = rowsBut r e ++ [r] := by
  unfold rowsBut
  rw [List.range_succ, List.filter_append]
  simp [h]
theorem rowsBut_out {e : Int} {r : Nat} (h : (r : Int) = e) : rowsBut (r + 1) e = rowsBut r e := by
  unfold rowsBut
  rw [List.range_succ, List.filter_append]
  simp [h]
end Go.Proofs.YtcapddcmnjeloaaGreatDoor
end

section
/-
  Chapter 6, in the program: a block of five cells, a map of determinants, clear. No function of the program is named.
-/
namespace Go.Proofs.YtcapddcmnjeloaaGreatDoor
open Go.RowKit Go.Maps
def Blk5 (w : World) (b : Nat) (t : TypeId) (p q r s u : Value) : Prop := w.heap[b]? = some (.cells #[p, q, r, s, u] t (0, 0))
theorem Blk5.all {w : World} {b : Nat} {t : TypeId} {p q r s u : Value} (h : Blk5 w b t p q r s u) : w.cell? ⟨b, 0, none⟩ = some p ∧ w.cell? ⟨b, 1, none⟩ = some q ∧ w.cell? ⟨b, 2, none⟩ = some r ∧ w.cell? ⟨b, 3, none⟩ = some s ∧ w.cell? ⟨b, 4, none⟩ = some u := by
  unfold Blk5 at h
  simp [World.cell?, h]
theorem Blk5.free {w : World} {b : Nat} {t : TypeId} {p q r s u : Value} (h : Blk5 w b t p q r s u) (o : Nat) : w.frozen? ⟨b, o, none⟩ = false := by unfold Blk5 at h; simp [World.frozen?, h]
theorem Blk5.lt {w : World} {b : Nat} {t : TypeId} {p q r s u : Value} (h : Blk5 w b t p q r s u) : b < w.heap.size := lt_of_block h
theorem Blk5.move {w w' : World} {b : Nat} {t : TypeId} {p q r s u : Value} (h : Blk5 w b t p q r s u) (e : w'.heap[b]? = w.heap[b]?) : Blk5 w' b t p q r s u := e.trans h
theorem Blk5.old {w : World} {b : Nat} {t : TypeId} {p q r s u : Value} (h : Blk5 w b t p q r s u) (o : Obj) : Blk5 (w.alloc o) b t p q r s u := h.move (Below.heap_alloc w o b h.lt)
theorem Blk5.one {w w' : World} {b c : Nat} {t : TypeId} {p q r s u : Value} (h : Blk5 w b t p q r s u) (hg : w.grownBy w' (some c)) (hne : b ≠ c) : Blk5 w' b t p q r s u := h.move (hg.block b h.lt (by simpa using hne))
theorem Blk5.grown {w w' : World} {b : Nat} {row : Option Nat} {t : TypeId} {p q r s u : Value} (h : Blk5 w b t p q r s u) (hg : w.grownBy w' row) (hne : some b ≠ row) : Blk5 w' b t p q r s u := h.move (hg.block b h.lt hne)
theorem Blk5.at_ {w : World} {b : Nat} (t : TypeId) (p q r s u : Value) (hb : b = w.heap.size) : Blk5 (w.alloc (.cells #[p, q, r, s, u] t)) b t p q r s u := by
  subst hb; unfold Blk5; show (w.heap.push _)[w.heap.size]? = _
  rw [Array.getElem?_push, if_pos rfl]
theorem Blk5.set3 {w : World} {b : Nat} {t : TypeId} {p q r s u : Value} (h : Blk5 w b t p q r s u) (v : Value) : Blk5 (w.setCell ⟨b, 3, none⟩ v) b t p q r v u := by
  have hlt := h.lt
  unfold Blk5 at h ⊢
  have h' : w.heap[b] = .cells #[p, q, r, s, u] t (0, 0) := by simpa [Array.getElem?_eq_getElem hlt] using h
  show (w.heap.modify b _)[b]? = _
  rw [Array.getElem?_eq_getElem (by simpa using hlt), Array.getElem_modify_self, h']
  rfl
def Mp (w : World) (bm c : Nat) (D : DataW Unit) : Prop := w.ownsMap Tryz.prog 141 (plainElem Tryz.prog 3) bm c D
theorem keyed_cols : Keyed Tryz.prog 141 := int_keyed (q := .u64) (by kernel_rfl)
theorem und_cols : Tryz.prog.underlying 141 = some (.int .u64) := by kernel_rfl
theorem und_map : Tryz.prog.underlying 177 = some (.map 141 3) := by kernel_rfl
theorem und_int : Tryz.prog.underlying 3 = some (.int .i64) := by kernel_rfl
theorem zero_int (w : World) : (zeroValue 3).run Tryz.prog w = .ok (.int .i64 0) w := by kernel_rfl
theorem Mp.lt {w : World} {bm c : Nat} {D : DataW Unit} (h : Mp w bm c D) : bm < w.heap.size := World.ownsMap.lt h
theorem Mp.made (w : World) : Mp (w.alloc (.map #[] 0)) w.heap.size 0 (.map []) := World.ownsMap_made w _ _ _
theorem Mp.kept {w w' : World} {bm c : Nat} {D : DataW Unit} {row : Option Nat} (h : Mp w bm c D) (hg : w.grownBy w' row) (hne : some bm ≠ row) : Mp w' bm c D := World.ownsMap.kept h hg hne
theorem Mp.move {w w' : World} {bm c : Nat} {D : DataW Unit} (h : Mp w bm c D) (e : w'.heap[bm]? = w.heap[bm]?) : Mp w' bm c D := by
  obtain ⟨es, clock, hb, r⟩ := h
  exact ⟨es, clock, e.trans hb, r⟩
theorem Mp.mono {w : World} {bm c c' : Nat} {D : DataW Unit} (h : Mp w bm c D) (hc : c ≤ c') : Mp w bm c' D := World.ownsMap.mono h hc
theorem Mp.ne5 {w : World} {bm c b : Nat} {D : DataW Unit} {t : TypeId} {p q r s u : Value} (h : Mp w bm c D) (k : Blk5 w b t p q r s u) : b ≠ bm := by
  obtain ⟨es, clock, hb, -⟩ := h
  rintro rfl
  unfold Blk5 at k
  rw [hb] at k
  cases k
theorem Mp.neCell {w : World} {bm c b : Nat} {D : DataW Unit} {o : Nat} {v : Value} (h : Mp w bm c D) (k : w.cell? ⟨b, o, none⟩ = some v) : b ≠ bm := by
  obtain ⟨es, clock, hb, -⟩ := h
  rintro rfl
  simp [World.cell?, hb] at k
theorem Rd.map {w w' : World} {bm c : Nat} {D : DataW Unit} {a : Option Addr} {zs : List Int} (h : Rd w a zs) (hm : Mp w bm c D) (hg : w.grownBy w' (some bm)) : Rd w' a zs := fun i hi => by
  obtain ⟨b, o, ha, hc⟩ := h i hi
  exact ⟨b, o, ha, hg.cell hc (by simpa using hm.neCell hc)⟩
theorem Mp.clear {w : World} {bm c : Nat} {D : DataW Unit} (h : Mp w bm c D) (ty : TypeId) :
    ∃ w', (Builtin.clear_ #[177] ty #[.map (some bm)]).run Tryz.prog w = .ok (.tuple #[]) w' ∧ Mp w' bm 0 (.map []) ∧ w.grownBy w' (some bm) := by
  obtain ⟨es, clock, hb, -⟩ := h
  refine ⟨ChangeMaps.setBlock w bm (.map #[] clock), ?_, ⟨#[], clock, ChangeMaps.heap_setBlock_same hb _, ⟨by simp, MapKept.stamped_empty clock, by simp⟩, Nat.le_refl _, rfl⟩, ⟨rfl, rfl, rfl, by simp [ChangeMaps.setBlock], fun i _ hi => ChangeMaps.heap_setBlock_other hb _ (fun e => hi (by rw [e]))⟩⟩
  simp [Builtin.clear_, run_underlying und_map, MapKept.run_getObj_map hb, MapKept.run_setObj_map _ hb, Result.andThen, ChangeMaps.setBlock]
def Memo (n : Nat) (xs : List Int) (rows : List Nat) (D : DataW Unit) : Prop := ∀ S : Nat, Maps.has D (.int .u64 (S : Int)) = true → setD n xs rows S ≠ badN ∧ D.atKey (.int .u64 (S : Int)) (.lit (.int .i64 0)) = .lit (.int .i64 (setD n xs rows S))
theorem Memo.none (n : Nat) (xs : List Int) (rows : List Nat) : Memo n xs rows (.map []) := fun S h => by
  unfold Maps.has at h
  simp at h
theorem Memo.put {n : Nat} {xs : List Int} {rows : List Nat} {D : DataW Unit} (h : Memo n xs rows D) (hD : IsMap D) (S : Nat) (hb : setD n xs rows S ≠ badN) : Memo n xs rows (D.put (.int .u64 (S : Int)) (.lit (.int .i64 (setD n xs rows S)))) := fun S' hS => by
  by_cases e : S' = S
  · subst e
    exact ⟨hb, Maps.atKey_put_same hD (by trivial) _ _⟩
  · have ne : Lit.int .u64 (S' : Int) ≠ Lit.int .u64 (S : Int) := fun he => e (by injection he with _ he; omega)
    rw [Maps.has_put_other ne] at hS
    rw [Maps.atKey_put_other ne]
    exact h S' hS
structure MnSt (n : Nat) (a : Option Addr) (m : Nat) (xs : List Int) (rows : List Nat) (q : Option Addr) (qc px bm c : Nat) (w : World) : Prop where
  blk : Blk5 w px 179 (.int .i64 n) (.int .i64 n) (.slice a (n * n) m) (.slice q rows.length qc) (.map (some bm))
  cells : Rd w a xs
  rws : Rd w q (rows.map fun (r : Nat) => (r : Int))
  memo : ∃ D, Mp w bm c D ∧ Memo n xs rows D
theorem MnSt.ne {n : Nat} {a : Option Addr} {m : Nat} {xs : List Int} {rows : List Nat} {q : Option Addr} {qc px bm c : Nat} {w : World} (h : MnSt n a m xs rows q qc px bm c w) : px ≠ bm := by
  obtain ⟨D, hD, -⟩ := h.memo
  exact hD.ne5 h.blk
theorem MnSt.turn {n : Nat} {a : Option Addr} {m : Nat} {xs : List Int} {rows : List Nat} {q : Option Addr} {qc px bm c c' : Nat} {w w' : World} (h : MnSt n a m xs rows q qc px bm c w) (hg : w.grownBy w' (some bm)) {D : DataW Unit} (hD : Mp w' bm c' D) (hM : Memo n xs rows D) : MnSt n a m xs rows q qc px bm c' w' := by
  obtain ⟨D0, h0, -⟩ := h.memo
  exact ⟨h.blk.one hg h.ne, h.cells.map h0 hg, h.rws.map h0 hg, D, hD, hM⟩
theorem MnSt.mono {n : Nat} {a : Option Addr} {m : Nat} {xs : List Int} {rows : List Nat} {q : Option Addr} {qc px bm c c' : Nat} {w : World} (h : MnSt n a m xs rows q qc px bm c w) (hc : c ≤ c') : MnSt n a m xs rows q qc px bm c' w := by
  obtain ⟨D, hD, hM⟩ := h.memo
  exact ⟨h.blk, h.cells, h.rws, D, hD.mono hc, hM⟩
theorem MnSt.drewN {n : Nat} {a : Option Addr} {m : Nat} {xs : List Int} {rows : List Nat} {q : Option Addr} {qc px bm c : Nat} {w : World} (h : MnSt n a m xs rows q qc px bm c w) (k : Nat) : MnSt n a m xs rows q qc px bm c (w.drewN k) := ⟨h.blk, h.cells, h.rws, h.memo⟩
end Go.Proofs.YtcapddcmnjeloaaGreatDoor
end

section
/-
  Chapter 6, in the program: over to all rows but one.
-/
namespace Go.Proofs.YtcapddcmnjeloaaGreatDoor
set_option maxRecDepth 100000
open Go.RowKit Go.Maps
theorem own_ne5 {w : World} {B n b k : Nat} {v : Value} {us : List Value} {p q r s u : Value} (h : w.ownsRow B 3 1 v n us) (hk : v.ownBlock = some k) (h5 : Blk5 w b 179 p q r s u) : b ≠ k := by
  rcases h.2 with ⟨rfl, -⟩ | ⟨g, cap, cur, rfl, -, hg, -⟩
  · cases hk
  · injection hk with hk
    subst hk
    rintro rfl
    unfold Blk5 at h5
    change w.heap[b]? = _ at hg
    rw [hg] at h5
    injection h5 with h5
    injection h5 with _ h5 _
    exact absurd h5 (by decide)
theorem own_neM {w : World} {B n bm c k : Nat} {D : DataW Unit} {v : Value} {us : List Value} (h : w.ownsRow B 3 1 v n us) (hk : v.ownBlock = some k) (hm : Mp w bm c D) : bm ≠ k := by
  obtain ⟨es, clock, hb, -⟩ := hm
  rcases h.2 with ⟨rfl, -⟩ | ⟨g, cap, cur, rfl, -, hg, -⟩
  · cases hk
  · injection hk with hk
    subst hk
    rintro rfl
    change w.heap[bm]? = _ at hg
    rw [hg] at hb
    cases hb
theorem FrS.of_row {w w' : World} {row : Option Nat} (h : w.grownBy w' row) : FrS (fun k => row = some k) w w' := ⟨h.os, h.tape, h.output, h.size, fun k hk hn => h.block k hk (fun e => hn e.symm)⟩
theorem Blk5.ne_map {w : World} {b bm c : Nat} {D : DataW Unit} {t : TypeId} {p q r s u : Value} (h : Blk5 w b t p q r s u) (hm : Mp w bm c D) (e : bm = b) : False := hm.ne5 h e.symm
theorem take5 {w w1 : World} {B n b : Nat} {v : Value} {us : List Value} {p q r s u : Value} {o : Obj} (h5 : Blk5 w b 179 p q r s u) (h : w.ownsRow B 3 1 v n us) (hg : (w.alloc o).grownBy w1 v.ownBlock) : Blk5 w1 b 179 p q r s u :=
  (h5.old o).grown hg (fun e => own_ne5 h e.symm h5 rfl)
def TkSt (n : Nat) (A : Value) (px bm c B : Nat) (D : DataW Unit) (V : Value) (e : Int) (w : World) (k : Nat) (wr : World) : Prop := ∃ V', Blk5 wr px 179 (.int .i64 n) (.int .i64 n) A V' (.map (some bm)) ∧ wr.ownsRow B 3 1 V' (rowsBut k e).length ((rowsBut k e).map fun (r : Nat) => Value.int .i64 (r : Int)) ∧ (∀ g, V'.ownBlock = some g → V.ownBlock = some g ∨ w.heap.size ≤ g) ∧ Mp wr bm c D ∧ FrS (fun k => k = px ∨ k = bm ∨ V.ownBlock = some k) w wr
set_option maxHeartbeats 1000000 in
theorem iTake (n N m : Nat) (a : Option Addr) (e : Int) (px bm c B l : Nat) (D : DataW Unit) (V : Value) (us : List Value) (w : World) (h6 : n ≤ 6) (h5 : Blk5 w px 179 (.int .i64 n) (.int .i64 n) (.slice a N m) V (.map (some bm))) (ho : w.ownsRow B 3 1 V l us) (hm : Mp w bm c D) (hB : B ≤ w.heap.size) :
    Calls Tryz.prog 160 #[.pointer (some ⟨px, 0, none⟩), .int .i64 e] w (fun r w' => Void r ∧ ∃ V', Blk5 w' px 179 (.int .i64 n) (.int .i64 n) (.slice a N m) V' (.map (some bm)) ∧ w'.ownsRow B 3 1 V' (rowsBut n e).length ((rowsBut n e).map fun (r : Nat) => Value.int .i64 (r : Int)) ∧ (∀ g, V'.ownBlock = some g → V.ownBlock = some g ∨ w.heap.size ≤ g) ∧ Mp w' bm 0 (.map []) ∧ FrS (fun k => k = px ∨ k = bm ∨ V.ownBlock = some k) w w') := by
  have H5 := Lib.hid h5
  have MM := Lib.hid hm
  have HB := Lib.hid hB
  have OO := Lib.hid ho
  obtain ⟨b0, b1, b2, b3, b4⟩ := h5.all
  have bf := h5.free 3
  have PN : Hid (∀ g, V.ownBlock = some g → px ≠ g) := fun g hg => own_ne5 ho hg h5
  obtain ⟨fi, hfi, hz0, hz1, hz2⟩ := facts_int
  rcases ho.2 with ⟨rfl, -⟩ | ⟨g, cap, cur, rfl, hg1, hg2, hg3, hg4, hg5, hg6⟩
  · have S0 : Hid (TkSt n (.slice a N m) px bm c B D (.slice none 0 0) e w 0 (w.setCell ⟨px, 3, none⟩ (.slice none 0 0))) :=
      ⟨_, H5.out.set3 _, World.ownsRow_nil _ _ _ _, fun g hg => .inl hg, MM.out.move (Below.heap_setCell _ _ _ _ (Ne.symm (MM.out.ne5 H5.out))), (FrS.refl _ w).set (.inl (.inl rfl)) _⟩
    clear h5 hm hB ho
    go_enter Tryz.func160, Tryz.ntmps160
    go_wp2_with fail
    clear b0 b1 b2 b3 b4 bf PN OO
    generalize w.setCell ⟨px, 3, none⟩ (.slice none 0 0) = W at S0
    go_loopw [4, 18] (fun _ i wr => ∃ k : Nat, i = .int .i64 k ∧ k ≤ n ∧ TkSt n (.slice a N m) px bm c B D (.slice none 0 0) e w k wr) (fun _ i _ => n - (intOf i).toNat)
    case atStart => exact ⟨0, rfl, by omega, S0.out⟩
    case round =>
      obtain ⟨k, rfl, hk, hst⟩ := hrel
      have ST := Lib.hid hst
      obtain ⟨V', k5, ko, kn, km, kf⟩ := hst
      obtain ⟨b0, b1, b2, b3, b4⟩ := k5.all
      by_cases hlt : k < n
      · by_cases hr : (k : Int) = e
        · have n1 : ((k : Int) != e) = false := by simp [hr]
          have n2 : ((k : Int) == e) = true := by simp [hr]
          have RE : Hid (rowsBut (k + 1) e = rowsBut k e) := rowsBut_out hr
          clear k5 ko kn km kf hr
          go_wp2_with fail
          go_roundw
          case rel => exact ⟨k + 1, by go_num, by omega, by have := ST.out; unfold TkSt at this ⊢; rw [RE.out]; exact this⟩
          case measure => simp [intOf]; omega
        · have n1 : ((k : Int) != e) = true := by simp [hr]
          have n2 : ((k : Int) == e) = false := by simp [hr]
          have RE : Hid (rowsBut (k + 1) e = rowsBut k e ++ [k]) := rowsBut_in hr
          have LB : (rowsBut k e).length ≤ 6 := Nat.le_trans (rowsBut_le k e) (by omega)
          have hBw : B ≤ wr.heap.size := Nat.le_trans HB.out kf.size
          have K5 := Lib.hid k5
          have KO := Lib.hid ko
          have KN := Lib.hid kn
          have KM := Lib.hid km
          have KF := Lib.hid kf
          have bf := k5.free 3
          clear k5 ko kn km kf hr ST
          have KOA : Hid ((wr.alloc (.cells #[.int .i64 (k : Int)] 3)).ownsRow B 3 1 V' (rowsBut k e).length ((rowsBut k e).map fun (r : Nat) => Value.int .i64 (r : Int))) := KO.out.alloc _
          have G1 : Hid (wr.grownBy (wr.alloc (.cells #[.int .i64 (k : Int)] 3)) V'.ownBlock) := World.grownBy_alloc _ _ _
          obtain ⟨L, hL⟩ : ∃ L, (rowsBut k e).length = L := ⟨_, rfl⟩
          have HL := Lib.hid hL
          rw [hL] at KOA LB
          clear hL
          go_wp2_with (first
            | (at_builtin; refine wpList_append_own_at _ rfl _ _ 24 rfl B 3 fi (.int .i64 0) 1 8 underlying_ints hfi hz0 hz1 hz2 rfl (by decide) _ _ _ rfl KOA.out ⟨wr.heap.size, 0, none⟩ 1 1 [.int .i64 (k : Int)] rfl rfl (cell_one_new _ _ _) (ints_oneCell .i64 [(k : Int)]) (by unfold maxLen; omega) (by omega) (by simp; omega) ?_; intro v' w1 hown' hgrow hnil hloc; obtain ⟨va, vm, vc, rfl⟩ := rows_form hown'; have K51 := take5 K5.out KO.out hgrow; have bf1 := K51.free 3; obtain ⟨-, -, -, q3, -⟩ := K51.all; replace K51 := Lib.hid K51)
            | fail)
          have PK : V'.ownBlock ≠ some px := fun e => own_ne5 KO.out e K5.out rfl
          have PM : V'.ownBlock ≠ some bm := fun e => own_neM KO.out e KM.out rfl
          have NV : ∀ g, (Value.slice va vm vc).ownBlock = some g → (Value.slice none 0 0).ownBlock = some g ∨ w.heap.size ≤ g := fun g hg => by
            rcases hloc with hl | hl
            · exact KN.out g (hl ▸ hg)
            · rw [hl] at hg
              injection hg with hg
              have := KF.out.size
              exact .inr (by rw [← hg]; simp; omega)
          have F1 : FrS (fun k => k = px ∨ V'.ownBlock = some k) wr (w1.setCell ⟨px, 3, none⟩ (.slice va vm vc)) := ((((FrS.refl _ wr).alloc _).trans ((FrS.of_row hgrow).mono (fun k hk => .inr hk)))).set (.inl (.inl rfl)) _
          go_roundw
          case rel =>
            refine ⟨k + 1, by go_num, by omega, _, K51.out.set3 _, ?_, NV, KM.out.move (F1.block bm KM.out.lt ?_), KF.out.transR F1 ?_⟩
            · have : w1.ownsRow B 3 1 (.slice va vm vc) (rowsBut (k + 1) e).length ((rowsBut (k + 1) e).map fun (r : Nat) => Value.int .i64 (r : Int)) := by
                rw [RE.out, List.length_append, List.map_append, HL.out]
                exact hown'
              refine this.kept (row := some px) (grown_set_one (World.grownBy.refl _ _) rfl _) (.inr fun hv => ?_)
              exact own_ne5 this hv K51.out rfl
            · rintro (e1 | e1)
              · exact K5.out.ne_map KM.out e1
              · exact PM e1
            · rintro k0 hk0 (rfl | e1)
              · exact .inl rfl
              · rcases KN.out k0 e1 with h | h
                · exact .inr (.inr h)
                · omega
          case measure => simp [intOf]; omega
      · obtain rfl : k = n := by omega
        have K5 := Lib.hid k5
        have KO := Lib.hid ko
        have KN := Lib.hid kn
        have KM := Lib.hid km
        have KF := Lib.hid kf
        clear k5 ko kn km kf hlt
        obtain ⟨w1, hcl, hm1, hg1⟩ := KM.out.clear 0
        go_wp2_with fail
        go_end0
        refine ⟨rfl, V', K5.out.one hg1 (KM.out.ne5 K5.out), KO.out.kept hg1 ?_, KN.out, hm1, KF.out.transR (FrS.of_row hg1) (fun k _ hk => .inr (.inl (by injection hk with hk; exact hk.symm)))⟩
        cases hv : V'.ownBlock with
        | none => exact .inl rfl
        | some g0 => exact .inr (fun e => own_neM KO.out hv KM.out (by injection e with e; exact e.symm))
  · have S0 : Hid (TkSt n (.slice a N m) px bm c B D (.slice (some ⟨g, 0, none⟩) l cap) e w 0 (w.setCell ⟨px, 3, none⟩ (.slice (some ⟨g, 0, none⟩) 0 cap))) :=
      ⟨_, H5.out.set3 _, ⟨rfl, .inr ⟨g, cap, cur, rfl, hg1, (Below.heap_setCell w ⟨px, 3, none⟩ _ g (Ne.symm (PN.out g rfl))).trans hg2, Nat.zero_le _, hg4, hg5, by simp [rowsBut]⟩⟩, fun g hg => .inl hg, MM.out.move (Below.heap_setCell _ _ _ _ (Ne.symm (MM.out.ne5 H5.out))), (FrS.refl _ w).set (.inl (.inl rfl)) _⟩
    clear h5 hm hB ho hg2 hg3 hg4 hg5 hg6
    go_enter Tryz.func160, Tryz.ntmps160
    go_wp2_with fail
    clear b0 b1 b2 b3 b4 bf PN OO
    generalize w.setCell ⟨px, 3, none⟩ (.slice (some ⟨g, 0, none⟩) 0 cap) = W at S0
    go_loopw [4, 18] (fun _ i wr => ∃ k : Nat, i = .int .i64 k ∧ k ≤ n ∧ TkSt n (.slice a N m) px bm c B D (.slice (some ⟨g, 0, none⟩) l cap) e w k wr) (fun _ i _ => n - (intOf i).toNat)
    case atStart => exact ⟨0, rfl, by omega, S0.out⟩
    case round =>
      obtain ⟨k, rfl, hk, hst⟩ := hrel
      have ST := Lib.hid hst
      obtain ⟨V', k5, ko, kn, km, kf⟩ := hst
      obtain ⟨b0, b1, b2, b3, b4⟩ := k5.all
      by_cases hlt : k < n
      · by_cases hr : (k : Int) = e
        · have n1 : ((k : Int) != e) = false := by simp [hr]
          have n2 : ((k : Int) == e) = true := by simp [hr]
          have RE : Hid (rowsBut (k + 1) e = rowsBut k e) := rowsBut_out hr
          clear k5 ko kn km kf hr
          go_wp2_with fail
          go_roundw
          case rel => exact ⟨k + 1, by go_num, by omega, by have := ST.out; unfold TkSt at this ⊢; rw [RE.out]; exact this⟩
          case measure => simp [intOf]; omega
        · have n1 : ((k : Int) != e) = true := by simp [hr]
          have n2 : ((k : Int) == e) = false := by simp [hr]
          have RE : Hid (rowsBut (k + 1) e = rowsBut k e ++ [k]) := rowsBut_in hr
          have LB : (rowsBut k e).length ≤ 6 := Nat.le_trans (rowsBut_le k e) (by omega)
          have hBw : B ≤ wr.heap.size := Nat.le_trans HB.out kf.size
          have K5 := Lib.hid k5
          have KO := Lib.hid ko
          have KN := Lib.hid kn
          have KM := Lib.hid km
          have KF := Lib.hid kf
          have bf := k5.free 3
          clear k5 ko kn km kf hr ST
          have KOA : Hid ((wr.alloc (.cells #[.int .i64 (k : Int)] 3)).ownsRow B 3 1 V' (rowsBut k e).length ((rowsBut k e).map fun (r : Nat) => Value.int .i64 (r : Int))) := KO.out.alloc _
          have G1 : Hid (wr.grownBy (wr.alloc (.cells #[.int .i64 (k : Int)] 3)) V'.ownBlock) := World.grownBy_alloc _ _ _
          obtain ⟨L, hL⟩ : ∃ L, (rowsBut k e).length = L := ⟨_, rfl⟩
          have HL := Lib.hid hL
          rw [hL] at KOA LB
          clear hL
          go_wp2_with (first
            | (at_builtin; refine wpList_append_own_at _ rfl _ _ 24 rfl B 3 fi (.int .i64 0) 1 8 underlying_ints hfi hz0 hz1 hz2 rfl (by decide) _ _ _ rfl KOA.out ⟨wr.heap.size, 0, none⟩ 1 1 [.int .i64 (k : Int)] rfl rfl (cell_one_new _ _ _) (ints_oneCell .i64 [(k : Int)]) (by unfold maxLen; omega) (by omega) (by simp; omega) ?_; intro v' w1 hown' hgrow hnil hloc; obtain ⟨va, vm, vc, rfl⟩ := rows_form hown'; have K51 := take5 K5.out KO.out hgrow; have bf1 := K51.free 3; obtain ⟨-, -, -, q3, -⟩ := K51.all; replace K51 := Lib.hid K51)
            | fail)
          have PK : V'.ownBlock ≠ some px := fun e => own_ne5 KO.out e K5.out rfl
          have PM : V'.ownBlock ≠ some bm := fun e => own_neM KO.out e KM.out rfl
          have NV : ∀ g', (Value.slice va vm vc).ownBlock = some g' → (Value.slice (some ⟨g, 0, none⟩) l cap).ownBlock = some g' ∨ w.heap.size ≤ g' := fun g' hg => by
            rcases hloc with hl | hl
            · exact KN.out g' (hl ▸ hg)
            · rw [hl] at hg
              injection hg with hg
              have := KF.out.size
              exact .inr (by rw [← hg]; simp; omega)
          have F1 : FrS (fun k => k = px ∨ V'.ownBlock = some k) wr (w1.setCell ⟨px, 3, none⟩ (.slice va vm vc)) := ((((FrS.refl _ wr).alloc _).trans ((FrS.of_row hgrow).mono (fun k hk => .inr hk)))).set (.inl (.inl rfl)) _
          go_roundw
          case rel =>
            refine ⟨k + 1, by go_num, by omega, _, K51.out.set3 _, ?_, NV, KM.out.move (F1.block bm KM.out.lt ?_), KF.out.transR F1 ?_⟩
            · have : w1.ownsRow B 3 1 (.slice va vm vc) (rowsBut (k + 1) e).length ((rowsBut (k + 1) e).map fun (r : Nat) => Value.int .i64 (r : Int)) := by
                rw [RE.out, List.length_append, List.map_append, HL.out]
                exact hown'
              refine this.kept (row := some px) (grown_set_one (World.grownBy.refl _ _) rfl _) (.inr fun hv => ?_)
              exact own_ne5 this hv K51.out rfl
            · rintro (e1 | e1)
              · exact K5.out.ne_map KM.out e1
              · exact PM e1
            · rintro k0 hk0 (rfl | e1)
              · exact .inl rfl
              · rcases KN.out k0 e1 with h | h
                · exact .inr (.inr h)
                · omega
          case measure => simp [intOf]; omega
      · obtain rfl : k = n := by omega
        have K5 := Lib.hid k5
        have KO := Lib.hid ko
        have KN := Lib.hid kn
        have KM := Lib.hid km
        have KF := Lib.hid kf
        clear k5 ko kn km kf hlt
        obtain ⟨w1, hcl, hm1, hg1⟩ := KM.out.clear 0
        go_wp2_with fail
        go_end0
        refine ⟨rfl, V', K5.out.one hg1 (KM.out.ne5 K5.out), KO.out.kept hg1 ?_, KN.out, hm1, KF.out.transR (FrS.of_row hg1) (fun k _ hk => .inr (.inl (by injection hk with hk; exact hk.symm)))⟩
        cases hv : V'.ownBlock with
        | none => exact .inl rfl
        | some g0 => exact .inr (fun e => own_neM KO.out hv KM.out (by injection e with e; exact e.symm))
end Go.Proofs.YtcapddcmnjeloaaGreatDoor
end

section
/-
  Chapter 6, in the program: the determinants' block is made.
-/
namespace Go.Proofs.YtcapddcmnjeloaaGreatDoor
set_option maxRecDepth 100000
open Go.RowKit Go.Maps
def MnNewR (n N m : Nat) (a : Option Addr) (w : World) (e : Ending) (w' : World) : Prop := ∃ px bm V, e = .returned (.pointer (some ⟨px, 0, none⟩)) ∧ w.heap.size ≤ px ∧ w.heap.size ≤ bm ∧ Blk5 w' px 179 (.int .i64 n) (.int .i64 n) (.slice a N m) V (.map (some bm)) ∧ w'.ownsRow w.heap.size 3 1 V (rowsBut n (-1)).length ((rowsBut n (-1)).map fun (r : Nat) => Value.int .i64 (r : Int)) ∧ Mp w' bm 0 (.map []) ∧ Below w.heap.size w w'
set_option maxHeartbeats 1000000 in
theorem iMinorsOf (n N m : Nat) (a : Option Addr) (w : World) (h6 : n ≤ 6) : Calls Tryz.prog 121 #[.agg #[.int .i64 n, .int .i64 n, .slice a N m]] w (MnNewR n N m a w) := by
  have hmm := @run_makeMap Tryz.prog
  go_enter Tryz.func121, Tryz.ntmps121
  go_wp2_with fail
  obtain ⟨W, hW⟩ : ∃ W, ((w.alloc (.cells #[.int .i64 n, .int .i64 n, .slice a N m] 26)).alloc (.map #[] 0)).alloc (.cells #[.int .i64 n, .int .i64 n, .slice a N m, .slice none 0 0, .map (some (w.heap.size + 1))] 179) = W := ⟨_, rfl⟩
  have B5 : Hid (Blk5 W (w.heap.size + 1 + 1) 179 (.int .i64 n) (.int .i64 n) (.slice a N m) (.slice none 0 0) (.map (some (w.heap.size + 1)))) := by
    show Blk5 W _ _ _ _ _ _ _
    rw [← hW]
    exact Blk5.at_ _ _ _ _ _ _ (by simp)
  have MM : Hid (Mp W (w.heap.size + 1) 0 (.map [])) := by
    show Mp W (w.heap.size + 1) 0 (.map [])
    have := Mp.made (w.alloc (.cells #[.int .i64 n, .int .i64 n, .slice a N m] 26))
    have h2 := this.kept (World.grownBy_alloc _ (.cells #[.int .i64 n, .int .i64 n, .slice a N m, .slice none 0 0, .map (some (w.heap.size + 1))] 179) none) (by simp)
    rw [hW] at h2
    simpa using h2
  have BW : Hid (Below w.heap.size w W) := by
    show Below w.heap.size w W
    rw [← hW]
    exact (((Below.refl _ _).alloc (Nat.le_refl _) _).alloc (by simp) _).alloc (by simp <;> omega) _
  rw [hW]
  clear hW
  refine (iTake n N m a (-1) (w.heap.size + 1 + 1) (w.heap.size + 1) 0 w.heap.size 0 (.map []) (.slice none 0 0) [] W h6 B5.out (World.ownsRow_nil _ _ _ _) MM.out BW.out.size).mono ?_
  rintro e w' ⟨rfl, V, h5, ho, hn, hm, hf⟩
  have H : Hid (Below w.heap.size w w') := BW.out.trans (hf.below (fun k hk => by rcases hk with h | h | h; omega; omega; cases h) BW.out.size)
  have R : MnNewR n N m a w (.returned (.pointer (some ⟨w.heap.size + 1 + 1, 0, none⟩))) w' := ⟨_, _, V, rfl, by omega, by omega, h5, ho, hm, H.out⟩
  clear h5 ho hn hm hf
  have RR := Lib.hid R
  clear R
  go_wp2_with fail
  go_ret
  exact RR.out
end Go.Proofs.YtcapddcmnjeloaaGreatDoor
end

section
/-
  Plain mathematics of chapter 6: the expansion of a set of columns, column by column. Nothing of a program is used.
-/
namespace Go.Proofs.YtcapddcmnjeloaaGreatDoor
def accD (n : Nat) (xs : List Int) (rows : List Nat) (S p : Nat) : Option Int := detAcc (fun j => (rowsD xs n rows (colsL n S)).getD j 0) (mnB ((colsL n S).length - 1) (rowsD xs n rows (colsL n S))) p
def detR (d : Int) : Int × Bool := if d = badN then (0, false) else (d, true)
def exR : Option Int → Int × Bool
  | none => (0, false)
  | some s => (s, true)
theorem detR_bad {d : Int} (h : d = badN) : detR d = (0, false) := if_pos h
theorem detR_num {d : Int} (h : d ≠ badN) : detR d = (d, true) := if_neg h
theorem NumP.ne_bad {d : Int} (h : NumP d) : d ≠ badN := by
  unfold NumP at h
  unfold badN
  omega
theorem setD_acc {n S k : Nat} {xs : List Int} {rows : List Nat} (hk : (colsL n S).length = k + 1) : setD n xs rows S = match accD n xs rows S (k + 1) with
    | none => badN
    | some s => fitB s := by
  unfold setD accD
  rw [hk]
  rfl
theorem setD_none {n S k : Nat} {xs : List Int} {rows : List Nat} (hk : (colsL n S).length = k + 1) (h : accD n xs rows S (k + 1) = none) : setD n xs rows S = badN := by rw [setD_acc hk, h]
theorem setD_bad {n S k : Nat} {xs : List Int} {rows : List Nat} {s : Int} (hk : (colsL n S).length = k + 1) (h : accD n xs rows S (k + 1) = some s) (hs : ¬ NumP s) : setD n xs rows S = badN := by
  rw [setD_acc hk, h]
  exact if_neg hs
theorem setD_num {n S k : Nat} {xs : List Int} {rows : List Nat} {s : Int} (hk : (colsL n S).length = k + 1) (h : accD n xs rows S (k + 1) = some s) (hs : NumP s) : setD n xs rows S = s := by
  rw [setD_acc hk, h]
  exact if_pos hs
theorem acc_cell {n S c k : Nat} {xs : List Int} {rows : List Nat} (hc : c < n) (hb : S.testBit c = true) (hk : (colsL n S).length = k + 1) :
    (rowsD xs n rows (colsL n S)).getD (colsL c S).length 0 = xs.getD (rows.getD (rows.length - (k + 1)) 0 * n + c) 0 := by
  obtain ⟨h1, h2⟩ := colsL_at hc hb
  rw [setD_first hk _ (by omega), h2]
section
variable {n S c k : Nat} {xs : List Int} {rows : List Nat} {s : Int}
theorem acc_skip (hc : c < n) (hb : S.testBit c = true) (hk : (colsL n S).length = k + 1) (h : accD n xs rows S (colsL c S).length = some s) (h0 : xs.getD (rows.getD (rows.length - (k + 1)) 0 * n + c) 0 = 0) :
    accD n xs rows S (colsL (c + 1) S).length = some s := by
  rw [colsL_in hb]
  exact detAcc_skip h (by show (rowsD xs n rows (colsL n S)).getD _ 0 = 0; rw [acc_cell hc hb hk]; exact h0)
theorem acc_bad (h6 : n ≤ 6) (hS : S < 64) (hr : k + 1 ≤ rows.length) (hc : c < n) (hb : S.testBit c = true) (hk : (colsL n S).length = k + 1) (h : accD n xs rows S (colsL c S).length = some s) (h0 : xs.getD (rows.getD (rows.length - (k + 1)) 0 * n + c) 0 ≠ 0) (h1 : setD n xs rows (lessS S c) = badN) :
    accD n xs rows S (k + 1) = none := by
  refine detAcc_none (detAcc_bad h (by rw [acc_cell hc hb hk]; exact h0) ?_) (by have := (colsL_at hc hb).1; omega)
  rw [hk, Nat.add_sub_cancel, mnB_less h6 hS hc hb hk hr]
  exact h1
theorem acc_add (h6 : n ≤ 6) (hS : S < 64) (hr : k + 1 ≤ rows.length) (hc : c < n) (hb : S.testBit c = true) (hk : (colsL n S).length = k + 1) (h : accD n xs rows S (colsL c S).length = some s) (h0 : xs.getD (rows.getD (rows.length - (k + 1)) 0 * n + c) 0 ≠ 0) (h1 : setD n xs rows (lessS S c) ≠ badN) :
    accD n xs rows S (colsL (c + 1) S).length = some (s + sg (colsL c S).length * xs.getD (rows.getD (rows.length - (k + 1)) 0 * n + c) 0 * setD n xs rows (lessS S c)) := by
  have e : mnB ((colsL n S).length - 1) (rowsD xs n rows (colsL n S)) (colsL c S).length = setD n xs rows (lessS S c) := by rw [hk, Nat.add_sub_cancel, mnB_less h6 hS hc hb hk hr]
  have := detAcc_add h (by show (rowsD xs n rows (colsL n S)).getD _ 0 ≠ 0; rw [acc_cell hc hb hk]; exact h0) (by rw [e]; exact h1)
  rw [acc_cell hc hb hk, e] at this
  rw [colsL_in hb]
  exact this
end
theorem rowsD_nums {n k : Nat} {xs : List Int} {rows cs : List Nat} (nx : nums xs = true) (hc : cs.length = k + 1) (j : Nat) (hj : j < k + 1) : NumP ((rowsD xs n rows cs).getD j 0) := by
  rw [setD_first hc j hj]
  obtain ⟨p, hp⟩ : ∃ p, rows.getD (rows.length - (k + 1)) 0 * n + cs.getD j 0 = p := ⟨_, rfl⟩
  rw [hp]
  rcases Nat.lt_or_ge p xs.length with h1 | h1
  · exact nums_at nx h1
  · rw [List.getD, List.getElem?_eq_none h1]; exact ⟨by decide, by decide⟩
theorem acc_bd {n S k p : Nat} {xs : List Int} {rows : List Nat} {s : Int} (nx : nums xs = true) (hk : (colsL n S).length = k + 1) (hp : p ≤ k + 1) (h : accD n xs rows S p = some s) : -((p : Int) * 160000000000000000) ≤ s ∧ s ≤ (p : Int) * 160000000000000000 :=
  detAcc_bd (fun j hj => rowsD_nums nx hk j (by omega)) (fun j _ => detB_or _ _) h
theorem cols_card : ∀ n, n ≤ 6 → ∀ S, S < 2 ^ n → (colsL 6 S).length = (colsL n S).length := by decide +kernel
theorem pow_64 : ∀ n, n ≤ 6 → 2 ^ n ≤ 64 := by decide
end Go.Proofs.YtcapddcmnjeloaaGreatDoor
end

section
/-
  Chapter 6, in the program: sets of columns as bits.
-/
namespace Go.Proofs.YtcapddcmnjeloaaGreatDoor
set_option maxRecDepth 100000
open Go.RowKit
theorem iOnes64 (S : Nat) (h : S < 64) (w : World) : Calls Tryz.prog 198 #[.int .u64 S] w fun e w' => e = .returned (.int .i64 ((colsL 6 S).length : Int)) ∧ w' = w := by
  go_enter Tryz.func198, Tryz.ntmps198
  go_wp2
  go_ret
  refine ⟨congrArg Ending.returned (congrArg (Value.int .i64) ?_), rfl⟩
  revert S
  decide +kernel
theorem iOnes (S : Nat) (h : S < 64) (w : World) : Calls Tryz.prog 184 #[.int .u64 S] w fun e w' => e = .returned (.int .i64 ((colsL 6 S).length : Int)) ∧ w' = w := by
  go_enter Tryz.func184, Tryz.ntmps184
  go_wp2_with fail
  refine (iOnes64 S h _).mono ?_
  rintro e w' ⟨rfl, rfl⟩
  go_wp2_with fail
  go_ret
  exact ⟨rfl, rfl⟩
theorem iHas (S c : Nat) (h : S < 64) (hc : c < 6) (w : World) : Calls Tryz.prog 185 #[.int .u64 S, .int .i64 c] w fun e w' => e = .returned (.bool (S.testBit c)) ∧ w' = w := by
  have c0 : (0 : Int) ≤ (c : Int) := by omega
  have c1 : (c : Int) ≤ 64 := by omega
  go_enter Tryz.func185, Tryz.ntmps185
  go_wp2
  go_ret
  refine ⟨congrArg Ending.returned (congrArg Value.bool ?_), rfl⟩
  clear c0 c1
  revert c
  revert S
  decide +kernel
theorem iWithout (S c : Nat) (h : S < 64) (hc : c < 6) (w : World) : Calls Tryz.prog 186 #[.int .u64 S, .int .i64 c] w fun e w' => e = .returned (.int .u64 (lessS S c)) ∧ w' = w := by
  have c0 : (0 : Int) ≤ (c : Int) := by omega
  have c1 : (c : Int) ≤ 64 := by omega
  go_enter Tryz.func186, Tryz.ntmps186
  go_wp2
  go_ret
  refine ⟨congrArg Ending.returned (congrArg (Value.int .u64) ?_), rfl⟩
  clear c0 c1
  revert c
  revert S
  decide +kernel
theorem iFirst (n : Nat) (h : n ≤ 6) (w : World) : Calls Tryz.prog 123 #[.int .i64 n] w fun e w' => e = .returned (.int .u64 ((2 ^ n - 1 : Nat) : Int)) ∧ w' = w := by
  have c0 : (0 : Int) ≤ (n : Int) := by omega
  have c1 : (n : Int) ≤ 64 := by omega
  go_enter Tryz.func123, Tryz.ntmps123
  go_wp2
  go_ret
  refine ⟨congrArg Ending.returned (congrArg (Value.int .u64) ?_), rfl⟩
  clear c0 c1
  revert n
  decide +kernel
end Go.Proofs.YtcapddcmnjeloaaGreatDoor
end

section
/-
  Chapter 6, in the program: determinants of a set of columns, expanded with a memory.
-/
namespace Go.Proofs.YtcapddcmnjeloaaGreatDoor
set_option maxRecDepth 100000
open Go.RowKit Go.Maps
def MinorAt (n : Nat) (a : Option Addr) (m : Nat) (xs : List Int) (rows : List Nat) (q : Option Addr) (qc px bm k : Nat) : Prop := ∀ (S c : Nat) (w : World), S < 2 ^ n → (colsL n S).length = k → MnSt n a m xs rows q qc px bm c w → c + 7 ^ k ≤ 1000000 →
  Calls Tryz.prog 122 #[.pointer (some ⟨px, 0, none⟩), .int .u64 S] w (fun e w' => e = .returned (.tuple #[.int .i64 (detR (setD n xs rows S)).1, .bool (detR (setD n xs rows S)).2]) ∧ MnSt n a m xs rows q qc px bm (c + 7 ^ k) w' ∧ w.grownBy w' (some bm))
set_option maxHeartbeats 2000000 in
theorem iExpand (n : Nat) (a : Option Addr) (m : Nat) (xs : List Int) (rows : List Nat) (q : Option Addr) (qc px bm k : Nat) (h6 : n ≤ 6) (hx : xs.length = n * n) (nx : nums xs = true) (hrn : ∀ i, i < rows.length → rows.getD i 0 < n) (hk : k + 1 ≤ rows.length) (hrl : rows.length ≤ 6) (ih : MinorAt n a m xs rows q qc px bm k)
    (S c : Nat) (w : World) (hS : S < 2 ^ n) (hc : (colsL n S).length = k + 1) (st : MnSt n a m xs rows q qc px bm c w) (hcb : c + 6 * 7 ^ k ≤ 1000000) :
    Calls Tryz.prog 161 #[.pointer (some ⟨px, 0, none⟩), .int .u64 S] w (fun e w' => e = .returned (.tuple #[.int .i64 (exR (accD n xs rows S (k + 1))).1, .bool (exR (accD n xs rows S (k + 1))).2]) ∧ MnSt n a m xs rows q qc px bm (c + 6 * 7 ^ k) w' ∧ w.grownBy w' (some bm)) := by
  have h64 : S < 64 := Nat.lt_of_lt_of_le hS (pow_64 n h6)
  have IH := Lib.hid ih
  have ON : Hid (∀ w', Calls Tryz.prog 184 #[.int .u64 S] w' fun e w2 => e = .returned (.int .i64 ((k + 1 : Nat) : Int)) ∧ w2 = w') := fun w' => by
    have := iOnes S h64 w'
    rw [cols_card n h6 S hS, hc] at this
    exact this
  have HA : Hid (∀ j (w' : World), j < n → Calls Tryz.prog 185 #[.int .u64 S, .int .i64 j] w' fun e w2 => e = .returned (.bool (S.testBit j)) ∧ w2 = w') := fun j w' hj => iHas S j h64 (by omega) w'
  have WI : Hid (∀ j (w' : World), j < n → Calls Tryz.prog 186 #[.int .u64 S, .int .i64 j] w' fun e w2 => e = .returned (.int .u64 (lessS S j)) ∧ w2 = w') := fun j w' hj => iWithout S j h64 (by omega) w'
  obtain ⟨I, hI⟩ : ∃ I, rows.length = I + (k + 1) := ⟨rows.length - (k + 1), by omega⟩
  have hI2 : rows.length - (k + 1) = I := by omega
  obtain ⟨r, hr⟩ : ∃ r, rows.getD I 0 = r := ⟨_, rfl⟩
  have rn : r < n := by rw [← hr]; exact hrn I (by omega)
  have LS : Hid (∀ j, j < n → S.testBit j = true → lessS S j < 2 ^ n ∧ (colsL n (lessS S j)).length = k ∧ (colsL j S).length ≤ 6 ∧ (colsL (j + 1) S).length = (colsL j S).length + 1 ∧ (colsL j S).length < k + 1) := fun j hj hb => ⟨lessS_lt n h6 S hS j hj, less_card h6 h64 hj hb hc, Nat.le_trans (Nat.le_of_lt (colsL_at hj hb).1) (by have := colsL_le (S := S) (Nat.le_refl n); have := List.length_filter_le (fun c => S.testBit c) (List.range n); simp only [List.length_range] at this; unfold colsL; omega), colsL_in hb, by have := (colsL_at hj hb).1; omega⟩
  have CE : Hid (∀ j, j < n → S.testBit j = true → ∀ s, accD n xs rows S (colsL j S).length = some s → (xs.getD (r * n + j) 0 = 0 → accD n xs rows S (colsL (j + 1) S).length = some s) ∧ (xs.getD (r * n + j) 0 ≠ 0 → setD n xs rows (lessS S j) = badN → accD n xs rows S (k + 1) = none) ∧ (xs.getD (r * n + j) 0 ≠ 0 → setD n xs rows (lessS S j) ≠ badN → accD n xs rows S (colsL (j + 1) S).length = some (s + sg (colsL j S).length * xs.getD (r * n + j) 0 * setD n xs rows (lessS S j)))) := fun j hj hb s h => by
    have e : rows.getD (rows.length - (k + 1)) 0 = r := by rw [hI2, hr]
    rw [← e]
    exact ⟨fun h0 => acc_skip hj hb hc h h0, fun h0 h1 => acc_bad h6 h64 hk hj hb hc h h0 h1, fun h0 h1 => acc_add h6 h64 hk hj hb hc h h0 h1⟩
  have BD : Hid (∀ j s, j < n → S.testBit j = true → accD n xs rows S (colsL (j + 1) S).length = some s → -2000000000000000000 ≤ s ∧ s ≤ 2000000000000000000) := fun j s hj hb h => by
    have h1 := LS.out j hj hb
    have := acc_bd nx hc (by omega) h
    omega
  have OUT : Hid (∀ j, S.testBit j = false → colsL (j + 1) S = colsL j S) := fun j h => colsL_out h
  have SO : Hid (∀ j, setD n xs rows (lessS S j) = badN ∨ NumP (setD n xs rows (lessS S j))) := fun j => setD_or _ _ _ _
  have ZN : Hid (∀ j, j < n → NumP (xs.getD (r * n + j) 0) ∧ r * n + j < xs.length) := fun j hj => by
    have := idx_lt rn hj
    exact ⟨nums_at nx (by omega), by omega⟩
  have FIN : Hid ((colsL n S).length = k + 1) := hc
  have ST := Lib.hid st
  have rc : w.cell? ⟨px, 3, none⟩ = some (.slice q rows.length qc) := st.blk.all.2.2.2.1
  obtain ⟨gq, oq, hq⟩ := st.rws.addr (by simp; omega)
  have ri : w.cell? ⟨gq, oq + I, none⟩ = some (.int .i64 (r : Int)) := by
    have := st.rws
    rw [hq] at this
    have := this.cells I (by simp; omega)
    rw [this]
    simp [← hr, List.getD, show I < rows.length by omega]
  obtain ⟨G, hG⟩ : ∃ G, 7 ^ k = G := ⟨_, rfl⟩
  have v1 : IntKind.i64.wrap ((rows.length : Int) - ((k + 1 : Nat) : Int)) = (I : Int) := by
    rw [show (rows.length : Int) - ((k + 1 : Nat) : Int) = (I : Int) by omega]
    exact IntWalk.i64_in _ (by omega)
  have i0 : (0 : Int) ≤ (I : Int) := by omega
  have i1 : (I : Int) < (rows.length : Int) := by omega
  obtain ⟨b0, b1, b2, b3, b4⟩ := st.blk.all
  subst hq
  rw [hG] at hcb ⊢
  obtain ⟨L, hL⟩ : ∃ L, rows.length = L := ⟨_, rfl⟩
  rw [hL] at b3 rc v1 i1 hrl
  have HG := Lib.hid hG
  have K6 : k + 1 ≤ 6 := by omega
  have HI := Lib.hid hI
  have NX := Lib.hid nx
  have HX := Lib.hid hx
  obtain ⟨K, hK⟩ : ∃ K, k + 1 = K := ⟨_, rfl⟩
  rw [hK] at ON v1 LS CE FIN K6 ⊢
  clear hG hI hI2 nx hx hr st hrn ih hc hL rc
  go_enter Tryz.func161, Tryz.ntmps161
  go_upto_region 1 with fail
  go_quiet ((refine (ON.out _).mono ?_; rintro e w' ⟨rfl, rfl⟩; exact ⟨rfl, _, rfl⟩))
  go_wp2_with fail
  clear b0 b1 b2 b3 b4 ri v1 i0 i1
  have W0 := Lib.hid (ST.out.drewN nq)
  have G0 : Hid (w.grownBy (w.drewN nq) (some bm)) := grown_drewN_one (World.grownBy.refl _ _) nq
  have NE := Lib.hid ST.out.ne
  generalize w.drewN nq = W at W0 G0
  go_loopw [4, 5, 7, 8, 9, 10, 11, 12, 32] (fun _ _ v7 v8 _ _ _ _ v32 wr => ∃ (j : Nat) (s : Int) (c' : Nat), v32 = .int .i64 j ∧ j ≤ n ∧ v7 = .int .i64 s ∧ v8 = .int .i64 (sg (colsL j S).length) ∧ accD n xs rows S (colsL j S).length = some s ∧ MnSt n a m xs rows (some ⟨gq, oq, none⟩) qc px bm c' wr ∧ w.grownBy wr (some bm) ∧ c' ≤ c + (colsL j S).length * G) (fun _ _ _ _ _ _ _ _ v32 _ => n - (intOf v32).toNat)
  case atStart => exact ⟨0, 0, c, rfl, by omega, rfl, rfl, rfl, W0.out, G0.out, by omega⟩
  case round =>
    obtain ⟨j, s, c', rfl, hj, rfl, rfl, hs, hst, hg, hc'⟩ := hrel
    have E := Lib.hid hs
    have M := Lib.hid hst
    have GR := Lib.hid hg
    obtain ⟨b0, b1, b2, b3, b4⟩ := hst.blk.all
    clear hs hst hg
    by_cases hlt : j < n
    · rcases Bool.eq_false_or_eq_true (S.testBit j) with hb | hb
      · have HAj : Hid (∀ w', Calls Tryz.prog 185 #[.int .u64 S, .int .i64 j] w' fun e w2 => e = .returned (.bool true) ∧ w2 = w') := fun w' => by
          have := HA.out j w' hlt
          rw [hb] at this
          exact this
        obtain ⟨l1, l2, l3, l4, l5⟩ := LS.out j hlt hb
        obtain ⟨e1, e2, e3⟩ := CE.out j hlt hb s E.out
        have BDj : Hid (∀ s, accD n xs rows S (colsL (j + 1) S).length = some s → -2000000000000000000 ≤ s ∧ s ≤ 2000000000000000000) := fun s => BD.out j s hlt hb
        have E1 := Lib.hid e1
        have E2 := Lib.hid e2
        have E3 := Lib.hid e3
        have L1 := Lib.hid l1
        have L2 := Lib.hid l2
        have L4 := Lib.hid l4
        have so := SO.out j
        have SOJ := Lib.hid so
        obtain ⟨zn, zl⟩ := ZN.out j hlt
        have dz : r * n + j < n * n := by rw [← HX.out]; exact zl
        have M36 : n * n ≤ 6 * 6 := Nat.mul_le_mul h6 h6
        obtain ⟨ga, oa, ha⟩ := M.out.cells.addr (by rw [HX.out]; omega)
        have zc : wr.cell? ⟨ga, oa + (r * n + j), none⟩ = some (.int .i64 (xs.getD (r * n + j) 0)) := by
          have := M.out.cells
          rw [ha] at this
          exact this.cells _ zl
        subst ha
        obtain ⟨z, hz⟩ : ∃ z, xs.getD (r * n + j) 0 = z := ⟨_, rfl⟩
        rw [hz] at zc zn E1 E2 E3
        obtain ⟨P, hP⟩ : ∃ P, r * n + j = P := ⟨_, rfl⟩
        rw [hP] at zc dz
        have c1 : (r : Int) * (n : Int) = ((r * n : Nat) : Int) := (Int.natCast_mul _ _).symm
        have u1 : IntKind.i64.wrap ((r : Int) * (n : Int)) = (r : Int) * (n : Int) := IntWalk.i64_in _ (by rw [c1]; omega)
        have u2 : IntKind.i64.wrap ((r : Int) * (n : Int) + (j : Int)) = (P : Int) := by
          rw [show (r : Int) * (n : Int) + (j : Int) = (P : Int) by rw [c1, ← hP]; omega]
          exact IntWalk.i64_in _ (by omega)
        have p0 : (0 : Int) ≤ (P : Int) := by omega
        have p1 : (P : Int) < ((n * n : Nat) : Int) := by omega
        obtain ⟨sn, hsn⟩ : ∃ z, sg (colsL j S).length = z := ⟨_, rfl⟩
        have s1 : sn = 1 ∨ sn = -1 := by rw [← hsn]; exact sg_or _
        have vn : IntKind.i64.wrap (-sn) = -sn := IntWalk.i64_in _ (by omega)
        have SS : Hid (sg (colsL (j + 1) S).length = -sn) := by show _ = _; rw [L4.out, sg_succ, hsn]
        rw [hsn] at E3 ⊢
        obtain ⟨p, hp⟩ : ∃ p, (colsL j S).length = p := ⟨_, rfl⟩
        have CC : Hid (c' ≤ c + (colsL (j + 1) S).length * G ∧ c' + G ≤ c + (colsL (j + 1) S).length * G ∧ c' + G ≤ c + 6 * G) := by
          have t1 : (p + 1) * G ≤ 6 * G := Nat.mul_le_mul_right G (by omega)
          rw [Nat.succ_mul] at t1
          show _ ∧ _ ∧ _
          rw [L4.out, hp, Nat.succ_mul]
          rw [hp] at hc'
          omega
        have WIj : Hid (∀ w', Calls Tryz.prog 186 #[.int .u64 S, .int .i64 j] w' fun e w2 => e = .returned (.int .u64 (lessS S j)) ∧ w2 = w') := fun w' => WI.out j w' hlt
        obtain ⟨T, hT⟩ : ∃ T, lessS S j = T := ⟨_, rfl⟩
        rw [hT] at L1 L2 SOJ E2 E3 WIj
        obtain ⟨d, hd⟩ : ∃ d, setD n xs rows T = d := ⟨_, rfl⟩
        have DT : Hid (∀ w', MnSt n (some ⟨ga, oa, none⟩) m xs rows (some ⟨gq, oq, none⟩) qc px bm c' w' → Calls Tryz.prog 122 #[.pointer (some ⟨px, 0, none⟩), .int .u64 T] w' (fun e w2 => e = .returned (.tuple #[.int .i64 (detR d).1, .bool (detR d).2]) ∧ MnSt n (some ⟨ga, oa, none⟩) m xs rows (some ⟨gq, oq, none⟩) qc px bm (c' + G) w2 ∧ w'.grownBy w2 (some bm))) := fun w' h => by
          have := IH.out T c' w' L1.out L2.out h (by rw [HG.out]; have := CC.out; omega)
          rw [HG.out, hd] at this
          exact this
        rw [hd] at SOJ E2 E3
        clear hb l1 l2 l3 l4 l5 e1 e2 e3 so zl hz hP c1 hsn hp hT hd hc'
        by_cases h0 : z = 0
        · have n1 : (z != 0) = false := by simp [h0]
          have A := Lib.hid (E1.out h0)
          clear h0 s1 zn
          go_wp2_with fail
          refine (HAj.out _).mono ?_
          rintro e w2 ⟨rfl, rfl⟩
          go_upto_region 7 with fail
          go_quiet (fail)
          go_wp2_with fail
          go_roundw
          case rel => exact ⟨j + 1, s, c', by go_num, by omega, rfl, by rw [SS.out], A.out, M.out.drewN nq, grown_drewN_one GR.out nq, CC.out.1⟩
          case measure => simp [intOf]; omega
        · have n1 : (z != 0) = true := by simp [h0]
          have H0 := Lib.hid h0
          clear h0
          go_wp2_with fail
          refine (HAj.out _).mono ?_
          rintro e w2 ⟨rfl, rfl⟩
          go_upto_region 7 with fail
          go_quiet (fail)
          go_wp2_with fail
          refine (WIj.out _).mono ?_
          rintro e w2 ⟨rfl, rfl⟩
          go_wp2_with fail
          refine (DT.out _ (M.out.drewN nq)).mono ?_
          rintro e w2 ⟨rfl, hm2, hg2⟩
          have M2 := Lib.hid hm2
          have GR2 := Lib.hid ((grown_drewN_one GR.out nq).trans hg2)
          clear hm2 hg2
          by_cases h1 : d = badN
          · have A := Lib.hid (E2.out H0.out h1)
            have R := detR_bad h1
            have M3 := Lib.hid (M2.out.mono CC.out.2.2)
            rw [R]
            clear h1 R s1 zn
            go_wp2_with fail
            exact bodyPost_ret (v := .tuple #[.int .i64 0, .bool false]) (by simp [results, Tryz.results161, go_sem]) rfl ⟨by rw [A.out]; rfl, M3.out, GR2.out⟩
          · have A := Lib.hid (E3.out H0.out h1)
            have R := detR_num h1
            have bd := BDj.out _ A.out
            have mx : NumP (sn * z) := by unfold NumP at *; rcases s1 with rfl | rfl <;> omega
            have my := mul_num _ _ mx (SOJ.out.resolve_left h1)
            unfold NumP at mx
            have v1 : IntKind.i64.wrap (sn * z) = sn * z := IntWalk.i64_in _ (by omega)
            have v2 : IntKind.i64.wrap (sn * z * d) = sn * z * d := IntWalk.i64_in _ (by omega)
            have v3 : IntKind.i64.wrap (s + sn * z * d) = s + sn * z * d := IntWalk.i64_in _ (by omega)
            rw [R]
            clear h1 R s1 zn bd mx my
            go_wp2_with fail
            go_roundw
            case rel => exact ⟨j + 1, s + sn * z * d, c' + G, by go_num, by omega, rfl, by rw [SS.out], A.out, M2.out, GR2.out, CC.out.2.1⟩
            case measure => simp [intOf]; omega
      · have O := Lib.hid (OUT.out j hb)
        have HAj : Hid (∀ w', Calls Tryz.prog 185 #[.int .u64 S, .int .i64 j] w' fun e w2 => e = .returned (.bool false) ∧ w2 = w') := fun w' => by
          have := HA.out j w' hlt
          rw [hb] at this
          exact this
        clear hb
        go_wp2_with fail
        refine (HAj.out _).mono ?_
        rintro e w2 ⟨rfl, rfl⟩
        go_wp2_with fail
        go_roundw
        case rel => exact ⟨j + 1, s, c', by go_num, by omega, rfl, by rw [O.out], by rw [O.out]; exact E.out, M.out, GR.out, by rw [O.out]; exact hc'⟩
        case measure => simp [intOf]; omega
    · obtain rfl : j = n := by omega
      rw [FIN.out] at hc'
      have E2 : Hid (accD j xs rows S K = some s) := by
        have := E.out
        rw [FIN.out] at this
        exact this
      have K7 : K * G ≤ 6 * G := Nat.mul_le_mul_right G K6
      have M2 := Lib.hid (M.out.mono (show c' ≤ c + 6 * G by omega))
      clear hlt hc' K7
      go_wp2_with fail
      exact bodyPost_ret (v := .tuple #[.int .i64 s, .bool true]) (by simp [results, Tryz.results161, go_sem]) rfl ⟨by rw [E2.out]; rfl, M2.out, GR.out⟩
end Go.Proofs.YtcapddcmnjeloaaGreatDoor
end

section
/-
  Chapter 6, in the program: determinants of a set of columns, with a memory.
-/
namespace Go.Proofs.YtcapddcmnjeloaaGreatDoor
set_option maxRecDepth 100000
open Go.RowKit Go.Maps
theorem wf_cols {S : Nat} (h : S < 64) : (Lit.int .u64 (S : Int)).wf = true := by
  revert S
  decide +kernel
theorem wf_num {s : Int} (h : NumP s) : (Lit.int .i64 s).wf = true := by
  unfold NumP at h
  exact WalkArith.wf_i64 (by omega)
set_option maxHeartbeats 1000000 in
theorem iMinor (n : Nat) (a : Option Addr) (m : Nat) (xs : List Int) (rows : List Nat) (q : Option Addr) (qc px bm : Nat) (h6 : n ≤ 6) (hx : xs.length = n * n) (nx : nums xs = true) (hrn : ∀ i, i < rows.length → rows.getD i 0 < n) (hrl : rows.length ≤ 6) :
    ∀ k, k ≤ rows.length → MinorAt n a m xs rows q qc px bm k := by
  intro k
  induction k with
  | zero =>
    intro _ S c w hS hc st hcb
    obtain rfl : S = 0 := colsL_none n h6 S hS hc
    have V : Hid (detR (setD n xs rows 0) = (1, true)) := by show _ = _; rw [setD_zero]; exact detR_num (by decide)
    have M := Lib.hid (st.mono (show c ≤ c + 7 ^ 0 by omega))
    rw [V.out]
    clear st
    go_enter Tryz.func122, Tryz.ntmps122
    go_wp2_with fail
    exact bodyPost_ret (v := .tuple #[.int .i64 1, .bool true]) (by simp [results, Tryz.results122, go_sem]) rfl ⟨rfl, M.out, World.grownBy.refl _ _⟩
  | succ k ih =>
    intro hk S c w hS hc st hcb
    have h64 : S < 64 := Nat.lt_of_lt_of_le hS (pow_64 n h6)
    have s0 : S ≠ 0 := by
      rintro rfl
      rw [colsL_zero] at hc
      simp at hc
    have n1 : ((S : Int) == 0) = false := by simp; omega
    have p7 : 7 ^ (k + 1) = 7 * 7 ^ k := by rw [Nat.pow_succ, Nat.mul_comm]
    have p1 : 1 ≤ 7 ^ k := Nat.one_le_pow _ _ (by omega)
    have EX : Hid (∀ w', MnSt n a m xs rows q qc px bm c w' → Calls Tryz.prog 161 #[.pointer (some ⟨px, 0, none⟩), .int .u64 S] w' (fun e w2 => e = .returned (.tuple #[.int .i64 (exR (accD n xs rows S (k + 1))).1, .bool (exR (accD n xs rows S (k + 1))).2]) ∧ MnSt n a m xs rows q qc px bm (c + 6 * 7 ^ k) w2 ∧ w'.grownBy w2 (some bm))) := fun w' h => iExpand n a m xs rows q qc px bm k h6 hx nx hrn hk hrl (ih (by omega)) S c w' hS hc h (by omega)
    have D0 : Hid (accD n xs rows S (k + 1) = none → setD n xs rows S = badN) := fun h => setD_none hc h
    have D1 : Hid (∀ s, accD n xs rows S (k + 1) = some s → ¬ NumP s → setD n xs rows S = badN) := fun s h h1 => setD_bad hc h h1
    have D2 : Hid (∀ s, accD n xs rows S (k + 1) = some s → NumP s → setD n xs rows S = s) := fun s h h1 => setD_num hc h h1
    have KY : keyOf Tryz.prog 141 (.int .u64 (S : Int)) = some (.int .u64 (S : Int)) := keyOf_int_mk und_cols (wf_cols h64)
    obtain ⟨b0, b1, b2, b3, b4⟩ := st.blk.all
    have ST := Lib.hid st
    obtain ⟨D, hD, hM⟩ := st.memo
    have MP := Lib.hid hD
    have ME := Lib.hid hM
    obtain ⟨d, hd⟩ : ∃ d, setD n xs rows S = d := ⟨_, rfl⟩
    have DD := Lib.hid hd
    rw [p7] at hcb ⊢
    generalize 7 ^ k = G at EX p1 hcb ⊢
    rw [hd] at D0 D1 D2 ⊢
    clear st hD hM hd p7 ih hx nx hrn hrl hk hc s0
    rcases Bool.eq_false_or_eq_true (Maps.has D (.int .u64 (S : Int))) with hh | hh
    · obtain ⟨hb, ha⟩ := ME.out S hh
      rw [DD.out] at hb ha
      have R : Hid (detR d = (d, true)) := detR_num hb
      have HA := Lib.hid ha
      have M := Lib.hid (ST.out.mono (show c ≤ c + 7 * G by omega))
      clear hb ha
      rw [R.out]
      go_enter Tryz.func122, Tryz.ntmps122
      go_wp2_with (first
        | (at_lookup; refine wpList_lookup_own_ok_int _ rfl _ _ 177 rfl 141 3 .i64 keyed_cols und_map und_int (zero_int _) bm c D rfl MP.out _ _ rfl KY ?_; intro v hat hwc)
        | fail)
      obtain rfl : v = d := by
        rw [HA.out] at hat
        injection hat with hat
        injection hat with _ hat
        exact hat.symm
      exact bodyPost_ret (v := .tuple #[.int .i64 v, .bool true]) (by simp [results, Tryz.results122, go_sem]) rfl ⟨rfl, M.out, World.grownBy.refl _ _⟩
    · cases hac : accD n xs rows S (k + 1) with
      | none =>
        have R : Hid (detR d = (0, false)) := detR_bad (D0.out hac)
        rw [hac, show exR none = (0, false) from rfl] at EX
        clear hac
        rw [R.out]
        go_enter Tryz.func122, Tryz.ntmps122
        go_wp2_with (first
          | (at_lookup; refine wpList_lookup_own_ok_int _ rfl _ _ 177 rfl 141 3 .i64 keyed_cols und_map und_int (zero_int _) bm c D rfl MP.out _ _ rfl KY ?_; intro v hat hwc)
          | fail)
        refine (EX.out _ ST.out).mono ?_
        rintro e w2 ⟨rfl, hm2, hg2⟩
        have M2 := Lib.hid (hm2.mono (show c + 6 * G ≤ c + 7 * G by omega))
        have GR := Lib.hid hg2
        clear hm2 hg2
        go_wp2_with fail
        exact bodyPost_ret (v := .tuple #[.int .i64 0, .bool false]) (by simp [results, Tryz.results122, go_sem]) rfl ⟨rfl, M2.out, GR.out⟩
      | some s =>
        rw [hac, show exR (some s) = (s, true) from rfl] at EX
        by_cases hs : NumP s
        · have e : d = s := D2.out s hac hs
          subst e
          have R : Hid (detR d = (d, true)) := detR_num hs.ne_bad
          have WF := wf_num hs
          have NB := Lib.hid hs.ne_bad
          have n2 : decide (NumP d) = true := decide_eq_true hs
          clear hac hs
          rw [R.out]
          go_enter Tryz.func122, Tryz.ntmps122
          go_wp2_with (first
            | (at_lookup; refine wpList_lookup_own_ok_int _ rfl _ _ 177 rfl 141 3 .i64 keyed_cols und_map und_int (zero_int _) bm c D rfl MP.out _ _ rfl KY ?_; intro v hat hwc)
            | fail)
          refine (EX.out _ ST.out).mono ?_
          rintro e w2 ⟨rfl, hm2, hg2⟩
          clear b0 b1 b2 b3 b4
          obtain ⟨b0, b1, b2, b3, b4⟩ := hm2.blk.all
          have M2 := Lib.hid hm2
          obtain ⟨E, hE, hF⟩ := hm2.memo
          have MP2 := Lib.hid hE
          have ME2 := Lib.hid hF
          have GR := Lib.hid hg2
          clear hm2 hg2 hE hF
          go_wp2_with fail
          refine (iIsNum d _).mono ?_
          rintro e w3 ⟨rfl, rfl⟩
          rw [n2]
          go_wp2_with (first
            | (at_mapUpdate; refine wpList_mapUpdate_own _ rfl _ _ _ 177 rfl 141 3 keyed_cols und_map _ bm (c + 6 * G) E rfl MP2.out (by unfold maxLen; omega) _ _ _ rfl rfl KY _ [] (plainElem_int und_int WF) ?_; intro w4 hown4 hg4)
            | fail)
          have hP := ME2.out.put (World.ownsMap.isMap MP2.out) S (by rw [DD.out]; exact NB.out)
          rw [DD.out] at hP
          exact bodyPost_ret (v := .tuple #[.int .i64 d, .bool true]) (by simp [results, Tryz.results122, go_sem]) rfl ⟨rfl, (M2.out.turn hg4 hown4 hP).mono (by omega), GR.out.trans hg4⟩
        · have R : Hid (detR d = (0, false)) := detR_bad (D1.out s hac hs)
          have n2 : decide (NumP s) = false := decide_eq_false hs
          clear hac hs
          rw [R.out]
          go_enter Tryz.func122, Tryz.ntmps122
          go_wp2_with (first
            | (at_lookup; refine wpList_lookup_own_ok_int _ rfl _ _ 177 rfl 141 3 .i64 keyed_cols und_map und_int (zero_int _) bm c D rfl MP.out _ _ rfl KY ?_; intro v hat hwc)
            | fail)
          refine (EX.out _ ST.out).mono ?_
          rintro e w2 ⟨rfl, hm2, hg2⟩
          have M2 := Lib.hid (hm2.mono (show c + 6 * G ≤ c + 7 * G by omega))
          have GR := Lib.hid hg2
          clear hm2 hg2
          go_wp2_with fail
          refine (iIsNum s _).mono ?_
          rintro e w3 ⟨rfl, rfl⟩
          rw [n2]
          go_wp2_with fail
          exact bodyPost_ret (v := .tuple #[.int .i64 0, .bool false]) (by simp [results, Tryz.results122, go_sem]) rfl ⟨rfl, M2.out, GR.out⟩
end Go.Proofs.YtcapddcmnjeloaaGreatDoor
end

section
/-
  Chapter 6, in the program: DeterminantOf.
-/
namespace Go.Proofs.YtcapddcmnjeloaaGreatDoor
set_option maxRecDepth 100000
open Go.RowKit Go.Maps
theorem rows_rd {w : World} {B l : Nat} {q : Option Addr} {qc : Nat} {rows : List Nat} (h : w.ownsRow B 3 1 (.slice q l qc) rows.length (rows.map fun (r : Nat) => Value.int .i64 (r : Int))) (hr : rows.length ≤ 6) : l = rows.length ∧ Rd w q (rows.map fun (r : Nat) => (r : Int)) := by
  have h2 : w.ownsRow B 3 1 (.slice q l qc) (rows.map fun (r : Nat) => (r : Int)).length ((rows.map fun (r : Nat) => (r : Int)).map (Value.int .i64)) := by
    rw [List.length_map, List.map_map]
    exact h
  have ho := Own.of_row h2 (by rw [List.length_map]; omega)
  rcases ho with ⟨hv, e⟩ | ⟨g, cap, hv, _, hi, _⟩
  · injection hv with e1 e2 e3
    subst e1
    rw [e]
    refine ⟨?_, Rd.nil _ _⟩
    have := congrArg List.length e
    rw [List.length_map] at this
    rw [e2, this]; rfl
  · injection hv with e1 e2 e3
    subst e1
    rw [List.length_map] at e2
    exact ⟨e2, hi.rd⟩
theorem new_st {n : Nat} {a : Option Addr} {m : Nat} {xs : List Int} {rows : List Nat} {q : Option Addr} {l qc px bm B : Nat} {w : World} (h5 : Blk5 w px 179 (.int .i64 n) (.int .i64 n) (.slice a (n * n) m) (.slice q l qc) (.map (some bm))) (ho : w.ownsRow B 3 1 (.slice q l qc) rows.length (rows.map fun (r : Nat) => Value.int .i64 (r : Int))) (hm : Mp w bm 0 (.map [])) (h : Rd w a xs) (hr : rows.length ≤ 6) :
    MnSt n a m xs rows q qc px bm 0 w := by
  obtain ⟨rfl, hq⟩ := rows_rd ho hr
  exact ⟨h5, h, hq, _, hm, Memo.none _ _ _⟩
theorem keepD {w0 W w' : World} {b : Nat} {p q v : Value} (h : W.cell? ⟨b, 0, none⟩ = some p ∧ W.cell? ⟨b, 1, none⟩ = some q ∧ W.cell? ⟨b, 2, none⟩ = some v ∧ Below w0.heap.size w0 W) (hb : Below W.heap.size W w') :
    w'.cell? ⟨b, 0, none⟩ = some p ∧ w'.cell? ⟨b, 1, none⟩ = some q ∧ w'.cell? ⟨b, 2, none⟩ = some v ∧ Below w0.heap.size w0 w' :=
  ⟨(hb.cell (World.block_lt_of_cell? W _ h.1)).trans h.1, (hb.cell (World.block_lt_of_cell? W _ h.2.1)).trans h.2.1, (hb.cell (World.block_lt_of_cell? W _ h.2.2.1)).trans h.2.2.1, h.2.2.2.trans (hb.mono h.2.2.2.size)⟩
theorem keepG {w0 W w' : World} {b bm : Nat} {p q v : Value} (h : W.cell? ⟨b, 0, none⟩ = some p ∧ W.cell? ⟨b, 1, none⟩ = some q ∧ W.cell? ⟨b, 2, none⟩ = some v ∧ Below w0.heap.size w0 W) (hb : W.grownBy w' (some bm)) (h1 : b < bm) (h2 : w0.heap.size ≤ bm) :
    w'.cell? ⟨b, 0, none⟩ = some p ∧ w'.cell? ⟨b, 1, none⟩ = some q ∧ w'.cell? ⟨b, 2, none⟩ = some v ∧ Below w0.heap.size w0 w' :=
  ⟨hb.cell h.1 (by simp; omega), hb.cell h.2.1 (by simp; omega), hb.cell h.2.2.1 (by simp; omega), h.2.2.2.trans (below_of_one hb h2 h.2.2.2.size)⟩
theorem pow7 : ∀ n, n ≤ 6 → 0 + 7 ^ n ≤ 1000000 := by decide
set_option maxHeartbeats 1000000 in
theorem iDetOf (r c : Int) (a : Option Addr) (m : Nat) (xs : List Int) (w : World) (h : Rd w a xs) (hn : xs.length ≤ 16777216) :
    Calls Tryz.prog 75 #[.agg #[.int .i64 r, .int .i64 c, .slice a xs.length m]] w (Gives (.tuple #[.int .i64 (detOf r c xs).1, .bool (detOf r c xs).2]) w) := by
  have H := Lib.hid h
  obtain ⟨l, hx⟩ : ∃ n, xs.length = n := ⟨_, rfl⟩
  have HX := Lib.hid hx
  rw [hx] at hn ⊢
  clear hx h
  have B0 : Hid (∀ o1, Below w.heap.size w (w.alloc o1)) := fun o1 => (Below.refl _ _).alloc (Nat.le_refl _) _
  have SQ : Hid (∀ w', Below w.heap.size w w' → Calls Tryz.prog 73 #[.agg #[.int .i64 r, .int .i64 c, .slice a l m]] w' (Gives (.bool (isSq r c xs)) w')) := fun w' hb => by
    have := iIsSq r c a m xs w' (H.out.below hb) (by rw [HX.out]; exact hn)
    rw [HX.out] at this
    exact this
  rcases Bool.eq_false_or_eq_true (isSq r c xs) with hs | hs
  · obtain ⟨n, rfl, rfl, h6, hl, nx⟩ := isSq_says hs
    have V : Hid (detOf n n xs = detM n xs) := by show detOf n n xs = _; unfold detOf; rw [if_pos hs]; rfl
    have LN : l = n * n := by rw [← HX.out]; exact hl
    subst LN
    have NW : Hid (∀ w', Calls Tryz.prog 121 #[.agg #[.int .i64 n, .int .i64 n, .slice a (n * n) m]] w' (MnNewR n (n * n) m a w')) := fun w' => iMinorsOf n (n * n) m a w' h6
    have FC : Hid (∀ w', Calls Tryz.prog 123 #[.int .i64 n] w' fun e w2 => e = .returned (.int .u64 ((2 ^ n - 1 : Nat) : Int)) ∧ w2 = w') := fun w' => iFirst n h6 w'
    have RL : (rowsBut n (-1)).length = n := by rw [rowsBut_all, List.length_range]
    have MI : Hid (∀ (px bm B : Nat) (V : Value) (w' : World), Blk5 w' px 179 (.int .i64 n) (.int .i64 n) (.slice a (n * n) m) V (.map (some bm)) → w'.ownsRow B 3 1 V (rowsBut n (-1)).length ((rowsBut n (-1)).map fun (r : Nat) => Value.int .i64 (r : Int)) → Mp w' bm 0 (.map []) → Below w.heap.size w w' →
        Calls Tryz.prog 122 #[.pointer (some ⟨px, 0, none⟩), .int .u64 ((2 ^ n - 1 : Nat) : Int)] w' (fun e w2 => e = .returned (.tuple #[.int .i64 (detM n xs).1, .bool (detM n xs).2]) ∧ w'.grownBy w2 (some bm))) := fun px bm B V w' h5 ho hm hb => by
      obtain ⟨q, l, qc, rfl⟩ := rows_form ho
      have := iMinor n a m xs (rowsBut n (-1)) q qc px bm h6 hl nx (fun i hi => rowsBut_lt hi) (by omega) n (by omega) (2 ^ n - 1) 0 w' (by have := Nat.two_pow_pos n; omega) (by rw [colsL_full n h6, List.length_range]) (new_st h5 ho hm (H.out.below hb) (by omega)) (pow7 n h6)
      rw [rowsBut_all, setD_all h6 hl] at this
      refine this.mono ?_
      rintro e w2 ⟨rfl, -, hg⟩
      exact ⟨rfl, hg⟩
    obtain ⟨dn, hdn⟩ : ∃ d, (detM n xs).1 = d := ⟨_, rfl⟩
    obtain ⟨db, hdb⟩ : ∃ d, (detM n xs).2 = d := ⟨_, rfl⟩
    rw [V.out]
    rw [hdn, hdb] at MI ⊢
    obtain ⟨F, hF⟩ : ∃ F, (2 ^ n - 1 : Nat) = F := ⟨_, rfl⟩
    rw [hF] at MI FC
    clear V hdn hdb hF RL
    rw [hs] at SQ
    clear hs
    go_enter Tryz.func75, Tryz.ntmps75
    go_wp2_with fail
    refine (SQ.out _ (B0.out _)).mono ?_
    rintro e w1 ⟨rfl, hb⟩
    have K0 : Hid (Blk3 w1 w.heap.size 26 (.int .i64 n) (.int .i64 n) (.slice a (n * n) m)) := (Blk3.at_ _ _ _ _ rfl).keep hb (by simp)
    have B : Hid (Below w.heap.size w w1) := (B0.out _).trans (hb.mono (by simp))
    clear hb
    obtain ⟨a0, a1, a2, -, -, -⟩ := K0.out.all
    have hS := Lib.hid (And.intro a0 (And.intro a1 (And.intro a2 B.out)))
    have SZ : w.heap.size < w1.heap.size := K0.out.lt
    go_upto_region 3 with fail
    go_region_held3 (fun w' => w'.cell? ⟨w.heap.size, 0, none⟩ = some (.int .i64 n) ∧ w'.cell? ⟨w.heap.size, 1, none⟩ = some (.int .i64 n) ∧ w'.cell? ⟨w.heap.size, 2, none⟩ = some (.slice a (n * n) m) ∧ Below w.heap.size w w') (first | exact keepD hS.out (Below.refl _ _).drew | with_reducible exact keepD ‹_› ‹Below _ _ _› | with_reducible exact keepG ‹_› ‹World.grownBy _ _ _› ‹_› (Nat.le_of_lt ‹_›))
      (first
      | (go_at_call 121; (with_reducible refine (NW.out _).mono ?_); rintro e w2 ⟨px, bm, V, rfl, -, x2, x3, x4, x5, hb1⟩; replace x2 : w.heap.size < bm := Nat.lt_of_lt_of_le SZ x2)
      | (go_at_call 123; (with_reducible refine (FC.out _).mono ?_); rintro e w3 ⟨rfl, rfl⟩; have hb3 := Below.refl w3.heap.size w3)
      | (go_at_call 122; (with_reducible refine (MI.out _ _ _ _ _ ‹_› ‹_› ‹_› (And.right (And.right (And.right ‹_›)))).mono ?_); rintro e w4 ⟨rfl, hg4⟩))
    all_goals
      go_wp2_with fail
      exact bodyPost_ret (v := .tuple #[.int .i64 dn, .bool db]) (by simp [results, Tryz.results75, go_sem]) rfl ⟨rfl, (And.right (And.right (And.right ‹_ ∧ _ ∧ _ ∧ Below w.heap.size w _›)))⟩
  · have V : Hid (detOf r c xs = (0, false)) := by show detOf r c xs = _; unfold detOf; rw [if_neg (by rw [hs]; decide)]
    rw [hs] at SQ
    clear hs
    rw [V.out]
    go_enter Tryz.func75, Tryz.ntmps75
    go_wp2_with fail
    refine (SQ.out _ (B0.out _)).mono ?_
    rintro e w1 ⟨rfl, hb⟩
    have B : Hid (Below w.heap.size w w1) := (B0.out _).trans (hb.mono (by simp))
    clear hb
    go_wp2_with fail
    exact bodyPost_ret (v := .tuple #[.int .i64 0, .bool false]) (by simp [results, Tryz.results75, go_sem]) rfl ⟨rfl, B.out⟩
end Go.Proofs.YtcapddcmnjeloaaGreatDoor
end

section
/-
  Chapter 11, in the program: byDeterminants.
-/
namespace Go.Proofs.YtcapddcmnjeloaaGreatDoor
set_option maxRecDepth 100000
open Go.RowKit
theorem sdUp_length (n : Nat) (xs bs : List Int) (d : Int) (j : Nat) : (sdUp n xs bs d j).length = j := by simp [sdUp]
set_option maxHeartbeats 4000000 in
theorem iByDet (n : Nat) (a : Option Addr) (m : Nat) (xs : List Int) (ab : Option Addr) (mb : Nat) (bs : List Int) (w : World) (h : Rd w a xs) (hs : sysB n n xs bs = true) (hb : Rd w ab bs) :
    Calls Tryz.prog 36 #[.agg #[.int .i64 n, .int .i64 n, .slice a xs.length m], .slice ab bs.length mb] w (RoadRes (sdX n n xs bs).1 (sdX n n xs bs).2 w) := by
  obtain ⟨n', hn', -, h6, hx, hnx, hbl, hnb⟩ := sysB_says hs
  obtain rfl : n = n' := by omega
  have N36 : n * n ≤ 36 := Nat.mul_le_mul h6 h6
  have DT : Hid (∀ w', Below w.heap.size w w' → Calls Tryz.prog 75 #[.agg #[.int .i64 n, .int .i64 n, .slice a (n * n) m]] w' (Gives (.tuple #[.int .i64 (detOf n n xs).1, .bool (detOf n n xs).2]) w')) := fun w' hb => by
    have := iDetOf n n a m xs w' (h.below hb) (by omega)
    rw [hx] at this
    exact this
  have DC : Hid (∀ j g cap w', j < n → Ints w' g (rcL n xs bs j) → Calls Tryz.prog 75 #[.agg #[.int .i64 n, .int .i64 n, .slice (some ⟨g, 0, none⟩) (n * n) cap]] w' (Gives (.tuple #[.int .i64 (detOf n n (rcL n xs bs j)).1, .bool (detOf n n (rcL n xs bs j)).2]) w')) := fun j g cap w' hj hi => by
    have := iDetOf n n (some ⟨g, 0, none⟩) cap (rcL n xs bs j) w' hi.rd (by rw [rcL_length]; omega)
    rw [rcL_length] at this
    exact this
  have WC : Hid (∀ j w', j < n → Below w.heap.size w w' → Calls Tryz.prog 76 #[.agg #[.int .i64 n, .int .i64 n, .slice a (n * n) m], .int .i64 j, .slice ab n mb] w' (fun e w2 => ∃ g cap : Nat, e = .returned (.agg #[.int .i64 n, .int .i64 n, .slice (some ⟨g, 0, none⟩) (n * n) cap]) ∧ Ints w2 g (rcL n xs bs j) ∧ Below w'.heap.size w' w2)) := fun j w' hj hb' => iWith n j a m xs ab mb bs w' (h.below hb') hx (hb.below hb') hbl hj h6
  have MK : Hid (∀ p q w', Calls Tryz.prog 77 #[.int .i64 p, .int .i64 q] w' (Gives (.agg #[.int .i64 (mkRat p q).1, .int .i64 (mkRat p q).2]) w')) := fun p q w' => iMk p q w'
  have N1 : Hid ((detOf n n xs).2 = false → sdX n n xs bs = ([], false)) := fun h => sdX_no (.inr (.inl h))
  have N2 : Hid ((detOf n n xs).1 = 0 → sdX n n xs bs = ([], false)) := fun h => sdX_no (.inr (.inr h))
  have NB : Hid (∀ j, j < n → (detOf n n (rcL n xs bs j)).2 = false → sdX n n xs bs = ([], false)) := fun j hj h => sdX_bad hj h
  have NY : Hid ((detOf n n xs).2 = true → (detOf n n xs).1 ≠ 0 → (∀ j, j < n → (detOf n n (rcL n xs bs j)).2 = true) → sdX n n xs bs = (sdUp n xs bs (detOf n n xs).1 n, true)) := fun h2 h3 h4 => sdX_yes hs h2 h3 h4
  have B0 : Hid (Below w.heap.size w (w.alloc (.cells #[.int .i64 n, .int .i64 n, .slice a (n * n) m] 26))) := (Below.refl _ _).alloc (Nat.le_refl _) _
  have K0 : Hid (Blk3 (w.alloc (.cells #[.int .i64 n, .int .i64 n, .slice a (n * n) m] 26)) w.heap.size 26 (.int .i64 n) (.int .i64 n) (.slice a (n * n) m)) := Blk3.at_ _ _ _ _ rfl
  generalize sdX n n xs bs = RES at N1 N2 NB NY ⊢
  obtain ⟨d, hd⟩ : ∃ d, (detOf n n xs).1 = d := ⟨_, rfl⟩
  obtain ⟨f, hf⟩ : ∃ f, (detOf n n xs).2 = f := ⟨_, rfl⟩
  rw [hd] at DT N2 NY
  rw [hf] at DT N1 NY
  rw [hx, hbl]
  have US : Hid (∀ j, j < n → ∀ u, (sdUp n xs bs d j ++ List.replicate (n - j) ((0, 0) : Int × Int)).set j u = (sdUp n xs bs d j ++ [u]) ++ List.replicate (n - (j + 1)) ((0, 0) : Int × Int)) := fun j hj u => up_set (sdUp_length _ _ _ _ _) hj u
  have UL : Hid (∀ j, j ≤ n → (sdUp n xs bs d j ++ List.replicate (n - j) ((0, 0) : Int × Int)).length = n) := fun j hj => by
    show _ = _; rw [List.length_append, sdUp_length, List.length_replicate]; omega
  obtain ⟨N, hN⟩ : ∃ N, n * n = N := ⟨_, rfl⟩
  rw [hN] at DT DC WC B0 K0 ⊢
  clear h hs hb hx hnx hbl hnb hd hf hn' hN
  obtain ⟨z0, z1, z2, -, -, -⟩ := K0.out.all
  go_enter Tryz.func36, Tryz.ntmps36
  go_wp2_with fail
  refine (DT.out _ B0.out).mono ?_
  rintro e w1 ⟨rfl, hb1⟩
  have K1 := Lib.hid (K0.out.step hb1)
  have B1 := Lib.hid (B0.out.trans (hb1.mono B0.out.size))
  clear hb1 z0 z1 z2 K0 B0
  cases f with
  | false =>
    have V := Lib.hid (N1.out rfl)
    go_wp2_with fail
    rw [V.out]
    go_ret2
    exact ⟨_, _, rfl, OwnR.nil _ _, B1.out, .inr ⟨rfl, _, _, rfl⟩⟩
  | true =>
  by_cases h0 : d = 0
  · have V := Lib.hid (N2.out h0)
    have n0 : (d == 0) = true := by simpa using h0
    go_wp2_with fail
    rw [V.out]
    go_ret2
    exact ⟨_, _, rfl, OwnR.nil _ _, B1.out, .inr ⟨rfl, _, _, rfl⟩⟩
  have n0 : (d == 0) = false := by simpa using h0
  have NZ : Hid ((∀ j, j < n → (detOf n n (rcL n xs bs j)).2 = true) → RES = (sdUp n xs bs d n, true)) := NY.out (by first | rfl | trivial) h0
  have hmk := makeQx n (by omega)
  obtain ⟨z0, z1, z2, -, -, -⟩ := K1.out.all
  have Q1 : Hid (QsX (w1.alloc (.cells (madeCells #[.int .i64 0, .int .i64 0] (n * 2)) 40)) w1.heap.size (sdUp n xs bs d 0 ++ List.replicate (n - 0) ((0, 0) : Int × Int))) := QsX.made n rfl
  have K1b := K1
  have K1 := Lib.hid (K1.out.old (.cells (madeCells #[.int .i64 0, .int .i64 0] (n * 2)) 40))
  have g0 := B1.out.size
  have g1 := K1b.out.lt
  have B1 := Lib.hid (B1.out.alloc B1.out.size (.cells (madeCells #[.int .i64 0, .int .i64 0] (n * 2)) 40))
  clear h0
  go_upto_region 5 with fail
  obtain ⟨g, hg⟩ : ∃ g, w1.heap.size = g := ⟨_, rfl⟩
  rw [hg] at Q1 g0 g1 ⊢
  have kg : w.heap.size ≠ g := by omega
  generalize w1.alloc (.cells (madeCells #[.int .i64 0, .int .i64 0] (n * 2)) 40) = W1 at Q1 K1 B1 ⊢
  clear hg hmk z0 z1 z2 n0 g1 K1b NY
  go_wp2_with fail
  go_loopw [9, 10, 11, 29] (fun _ _ _ v29 wr => ∃ i : Nat, v29 = .int .i64 i ∧ i ≤ n ∧ (∀ j, j < i → (detOf n n (rcL n xs bs j)).2 = true) ∧ QsX wr g (sdUp n xs bs d i ++ List.replicate (n - i) ((0, 0) : Int × Int)) ∧ Blk3 wr w.heap.size 26 (.int .i64 n) (.int .i64 n) (.slice a N m) ∧ Below w.heap.size w wr) (fun _ _ _ v29 _ => n - (intOf v29).toNat)
  case atStart => exact ⟨0, rfl, by omega, fun j hj => by omega, Q1.out, K1.out, B1.out⟩
  case round =>
    clear Q1 K1 B1
    obtain ⟨i, rfl, hi, hk, hQ, hK, hB⟩ := hrel
    have HK := Lib.hid hk
    have Q := Lib.hid hQ
    have K := Lib.hid hK
    have B := Lib.hid hB
    clear hk hQ hK hB
    by_cases hlt : i < n
    · obtain ⟨z0, z1, z2, -, -, -⟩ := K.out.all
      go_wp2_with fail
      refine (WC.out i _ hlt B.out).mono ?_
      rintro e w2 ⟨gc, cap, rfl, hic, hb2⟩
      have IC := Lib.hid hic
      have Q := Lib.hid (Q.out.keep hb2 Q.out.lt)
      have K := Lib.hid (K.out.step hb2)
      have B := Lib.hid (B.out.trans (hb2.mono B.out.size))
      clear hb2 hic z0 z1 z2
      go_wp2_with fail
      refine (DC.out i gc cap _ hlt IC.out).mono ?_
      rintro e w3 ⟨rfl, hb3⟩
      have Q := Lib.hid (Q.out.keep hb3 Q.out.lt)
      have K := Lib.hid (K.out.step hb3)
      have B := Lib.hid (B.out.trans (hb3.mono B.out.size))
      clear hb3 IC
      have NBi := Lib.hid (NB.out i hlt)
      have SU := Lib.hid (sdUp_succ n xs bs d i)
      have HK1 : Hid ((detOf n n (rcL n xs bs i)).2 = true → ∀ j, j < i + 1 → (detOf n n (rcL n xs bs j)).2 = true) := fun h j hj => by
        rcases Nat.lt_or_ge j i with h3 | h3
        · exact HK.out j h3
        · obtain rfl : j = i := by omega
          exact h
      obtain ⟨di, hdi⟩ : ∃ x, (detOf n n (rcL n xs bs i)).1 = x := ⟨_, rfl⟩
      obtain ⟨fi, hfi⟩ : ∃ x, (detOf n n (rcL n xs bs i)).2 = x := ⟨_, rfl⟩
      rw [hdi] at SU ⊢
      rw [hfi] at NBi HK1 ⊢
      clear hdi hfi
      cases fi with
      | false =>
        have V := Lib.hid (NBi.out rfl)
        go_wp2_with fail
        rw [V.out]
        go_ret2
        exact ⟨_, _, rfl, OwnR.nil _ _, B.out, .inr ⟨rfl, _, _, rfl⟩⟩
      | true =>
        go_wp2_with fail
        refine (MK.out di d _).mono ?_
        rintro e w4 ⟨rfl, hb4⟩
        have Q := Lib.hid (Q.out.keep hb4 Q.out.lt)
        have K := Lib.hid (K.out.step hb4)
        have B := Lib.hid (B.out.trans (hb4.mono B.out.size))
        clear hb4
        have QL := UL.out i (by omega)
        obtain ⟨c0, c1⟩ := Q.out.qs.cells (q := i) (by rw [QL]; exact hlt)
        have f0 := Q.out.qs.free (i * 2)
        have f1 := Q.out.qs.free (i * 2 + 1)
        have HL := Lib.hid QL
        clear QL
        generalize hmr : mkRat di d = mr at SU ⊢
        obtain ⟨mn, md⟩ := mr
        clear hmr
        go_wp2_with fail
        go_roundw
        case rel =>
          refine ⟨i + 1, by go_num, by omega, HK1.out (by first | rfl | trivial), ?_, (K.out.far kg _).far kg _, (B.out.setCell (by show w.heap.size ≤ g; omega) _).setCell (by show w.heap.size ≤ g; omega) _⟩
          have := Q.out.set (q := i) (by rw [HL.out]; exact hlt) (mn, md)
          rw [US.out i hlt, ← SU.out] at this
          exact this
        case measure => simp [intOf]; omega
    · obtain rfl : i = n := by omega
      have V := Lib.hid (NZ.out HK.out)
      have QE : QsX wr g (sdUp i xs bs d i) := by
        have := Q.out
        rw [Nat.sub_self, List.replicate_zero, List.append_nil] at this
        exact this
      have OE := QE.own g0 (by rw [sdUp_length]; omega)
      rw [sdUp_length] at OE
      have OE := Lib.hid OE
      clear QE
      go_wp2_with fail
      rw [V.out]
      go_ret2
      exact ⟨_, _, rfl, OE.out, B.out, .inl ⟨rfl, rfl⟩⟩
end Go.Proofs.YtcapddcmnjeloaaGreatDoor
end

section
/-
  Chapter 11, in the program: SolveByDeterminants.
-/
namespace Go.Proofs.YtcapddcmnjeloaaGreatDoor
set_option maxRecDepth 100000
open Go.RowKit
theorem sysRDet {r c : Int} {xs bs : List Int} (h : isSq r c xs = true) : fitR r bs = sysB r c xs bs := by
  obtain ⟨n, rfl, -, h6, -, -⟩ := isSq_says h
  rw [fitR_eq (by omega)]
  unfold sysB
  rw [h, Bool.true_and]
set_option maxHeartbeats 2000000 in
theorem iSolveDet (r c : Int) (a : Option Addr) (m : Nat) (xs : List Int) (ab : Option Addr) (mb : Nat) (bs : List Int) (w : World) (h : Rd w a xs) (hn : xs.length ≤ 16777216) (hb : Rd w ab bs) (hbn : bs.length ≤ 16777216) (zs : List (Int × Int)) (ok : Bool)
    (HN : sysB r c xs bs = false → zs = [] ∧ ok = false) (HY : sysB r c xs bs = true → ∀ w', Below w.heap.size w w' → Calls Tryz.prog 36 #[.agg #[.int .i64 r, .int .i64 c, .slice a xs.length m], .slice ab bs.length mb] w' (RoadRes zs ok w')) :
    Calls Tryz.prog 35 #[.agg #[.int .i64 r, .int .i64 c, .slice a xs.length m], .slice ab bs.length mb, .func (.func 36) #[] #[]] w (QRes zs ok w) := by
  have SQ : Hid (∀ w', Below w.heap.size w w' → Calls Tryz.prog 73 #[.agg #[.int .i64 r, .int .i64 c, .slice a xs.length m]] w' (Gives (.bool (isSq r c xs)) w')) := fun w' hb' => iIsSq r c a m xs w' (h.below hb') hn
  have FT : Hid (∀ w', Below w.heap.size w w' → Calls Tryz.prog 74 #[.agg #[.int .i64 r, .int .i64 c, .slice a xs.length m], .slice ab bs.length mb] w' (Gives (.bool (fitR r bs)) w')) := fun w' hb' => iFits r c a xs.length m ab mb bs w' (hb.below hb') hbn
  have HN := Lib.hid HN
  have HY := Lib.hid HY
  have K0 : Hid (Blk3 (w.alloc (.cells #[.int .i64 r, .int .i64 c, .slice a xs.length m] 26)) w.heap.size 26 (.int .i64 r) (.int .i64 c) (.slice a xs.length m)) := Blk3.at_ _ _ _ _ rfl
  have B0 : Hid (Below w.heap.size w (w.alloc (.cells #[.int .i64 r, .int .i64 c, .slice a xs.length m] 26))) := (Below.refl _ _).alloc (Nat.le_refl _) _
  have NS : Hid (isSq r c xs = false → sysB r c xs bs = false) := fun h => sysB_false (.inl h)
  have YS : Hid (isSq r c xs = true → fitR r bs = sysB r c xs bs) := fun h => sysRDet h
  generalize sysB r c xs bs = sb at HN HY NS YS
  generalize isSq r c xs = sq at SQ NS YS
  generalize fitR r bs = ft at FT YS
  generalize xs.length = L at SQ FT HY K0 B0 hn ⊢
  generalize bs.length = Lb at FT HY hbn ⊢
  clear h hb
  obtain ⟨z0, z1, z2, -, -, -⟩ := K0.out.all
  go_enter Tryz.func35, Tryz.ntmps35
  go_wp2_with fail
  refine (SQ.out _ B0.out).mono ?_
  rintro e w1 ⟨rfl, hb1⟩
  have K1 := Lib.hid (K0.out.step hb1)
  have B1 := Lib.hid (B0.out.trans (hb1.mono B0.out.size))
  clear hb1 z0 z1 z2 K0 B0 SQ
  obtain ⟨z0, z1, z2, -, -, -⟩ := K1.out.all
  cases sq with
  | false =>
    obtain ⟨e1, e2⟩ := HN.out (NS.out rfl)
    subst e1 e2
    go_wp2_with fail
    go_ret2
    exact ⟨_, rfl, OwnR.nil _ _, B1.out⟩
  | true =>
    have e3 : ft = sb := YS.out rfl
    subst e3
    go_wp2_with fail
    refine (FT.out _ B1.out).mono ?_
    rintro e w2 ⟨rfl, hb2⟩
    have K2 := Lib.hid (K1.out.step hb2)
    have B2 := Lib.hid (B1.out.trans (hb2.mono B1.out.size))
    clear hb2 z0 z1 z2 K1 B1 FT
    obtain ⟨z0, z1, z2, -, -, -⟩ := K2.out.all
    cases ft with
    | false =>
      obtain ⟨e1, e2⟩ := HN.out rfl
      subst e1 e2
      go_wp2_with fail
      go_ret2
      exact ⟨_, rfl, OwnR.nil _ _, B2.out⟩
    | true =>
      have HR : Hid (∀ w', Below w.heap.size w w' → Calls Tryz.prog 36 #[.agg #[.int .i64 r, .int .i64 c, .slice a L m], .slice ab Lb mb] w' (RoadRes zs ok w')) := HY.out rfl
      go_wp2_with fail
      refine (HR.out _ B2.out).mono ?_
      rintro e w3 ⟨v, ev, rfl, own, hb3, hev⟩
      obtain ⟨qa, qc, rfl⟩ := own.form
      have B3 := Lib.hid (B2.out.trans (hb3.mono B2.out.size))
      have OW := Lib.hid (own.le B2.out.size)
      clear hb3 own z0 z1 z2 K2
      rcases hev with ⟨rfl, rfl⟩ | ⟨rfl, ty, u, rfl⟩
      · go_wp2_with fail
        go_quiet (fail)
        go_wp2_with fail
        go_ret2
        exact ⟨_, rfl, OW.out, below_drewN B3.out _⟩
      · go_wp2_with fail
        go_quiet (fail)
        go_wp2_with fail
        go_ret2
        exact ⟨_, rfl, OW.out, below_drewN B3.out _⟩
theorem iSd (r c : Int) (a : Option Addr) (m : Nat) (xs : List Int) (ab : Option Addr) (mb : Nat) (bs : List Int) (w : World) (h : Rd w a xs) (hn : xs.length ≤ 16777216) (hb : Rd w ab bs) (hbn : bs.length ≤ 16777216) :
    Calls Tryz.prog 8 #[.agg #[.int .i64 r, .int .i64 c, .slice a xs.length m], .slice ab bs.length mb] w (QRes (sdX r c xs bs).1 (sdX r c xs bs).2 w) := by
  have SV : Hid (∀ w', Below w.heap.size w w' → Calls Tryz.prog 35 #[.agg #[.int .i64 r, .int .i64 c, .slice a xs.length m], .slice ab bs.length mb, .func (.func 36) #[] #[]] w' (QRes (sdX r c xs bs).1 (sdX r c xs bs).2 w')) := fun w' hb' => iSolveDet r c a m xs ab mb bs w' (h.below hb') hn (hb.below hb') hbn _ _ (fun h => by rw [sdX_no (.inl h)]; exact ⟨rfl, rfl⟩) (fun hs w2 hb2 => by
    obtain ⟨n, rfl, rfl, -⟩ := sysB_says hs
    exact iByDet n a m xs ab mb bs w2 ((h.below hb').below hb2) hs ((hb.below hb').below hb2))
  have B0 : Hid (Below w.heap.size w (w.alloc (.cells #[.int .i64 r, .int .i64 c, .slice a xs.length m] 26))) := (Below.refl _ _).alloc (Nat.le_refl _) _
  have K0 : Hid (Blk3 (w.alloc (.cells #[.int .i64 r, .int .i64 c, .slice a xs.length m] 26)) w.heap.size 26 (.int .i64 r) (.int .i64 c) (.slice a xs.length m)) := Blk3.at_ _ _ _ _ rfl
  generalize sdX r c xs bs = RES at SV ⊢
  generalize xs.length = L at SV K0 B0 ⊢
  generalize bs.length = Lb at SV ⊢
  clear h hn hb hbn
  obtain ⟨z0, z1, z2, -, -, -⟩ := K0.out.all
  go_enter Tryz.func8, Tryz.ntmps8
  go_wp2_with fail
  refine (SV.out _ B0.out).mono ?_
  rintro e w1 ⟨v, rfl, own, hb1⟩
  obtain ⟨qa, qc, rfl⟩ := own.form
  have B1 := Lib.hid (B0.out.trans (hb1.mono B0.out.size))
  have OW := Lib.hid (own.le B0.out.size)
  clear hb1 own z0 z1 z2 K0
  go_wp2_with fail
  go_ret2
  exact ⟨_, rfl, OW.out, B1.out⟩
end Go.Proofs.YtcapddcmnjeloaaGreatDoor
end

section
/-
  Plain mathematics of chapter 9: what its functions answer, step by step. Nothing of a program is used.
-/
namespace Go.Proofs.YtcapddcmnjeloaaGreatDoor
def atL (l : List Int) (i : Nat) : Int := l.getD i 0
def modOk (l : List Int) (i : Nat) : Bool := decide (2 ≤ atL l i ∧ atL l i ≤ 400000000) && decide ((prodI (atL l) i).gcd (atL l i) = 1) && decide (prodI (atL l) (i + 1) ≤ 400000000)
def modB (l : List Int) : Bool := decide (l.length ≤ 8) && (List.range l.length).all (modOk l)
theorem modB_says {l : List Int} (h : modB l = true) : l.length ≤ 8 ∧ Modu (atL l) l.length ∧ (∀ i, i < l.length → 2 ≤ atL l i ∧ atL l i ≤ 400000000) ∧ ∀ i, i ≤ l.length → prodI (atL l) i ≤ 400000000 := by
  unfold modB at h
  rw [Bool.and_eq_true, decide_eq_true_eq, List.all_eq_true] at h
  have h2 : ∀ i, i < l.length → (2 ≤ atL l i ∧ atL l i ≤ 400000000) ∧ (prodI (atL l) i).gcd (atL l i) = 1 ∧ prodI (atL l) (i + 1) ≤ 400000000 := fun i hi => by
    have := h.2 i (List.mem_range.mpr hi)
    unfold modOk at this
    simp only [Bool.and_eq_true, decide_eq_true_eq] at this
    exact ⟨this.1.1, this.1.2, this.2⟩
  refine ⟨h.1, fun i hi => ⟨(h2 i hi).1.1, (h2 i hi).2.1⟩, fun i hi => (h2 i hi).1, fun i hi => ?_⟩
  rcases i with _ | i
  · show (1 : Int) ≤ 400000000; decide
  · exact (h2 i hi).2.2
theorem modB_true {l : List Int} (h8 : l.length ≤ 8) (h : ∀ i, i < l.length → modOk l i = true) : modB l = true := by
  unfold modB
  rw [decide_eq_true h8, List.all_eq_true.mpr fun i hi => h i (List.mem_range.mp hi)]; rfl
theorem modB_long {l : List Int} (h : ¬ l.length ≤ 8) : modB l = false := by
  unfold modB
  rw [decide_eq_false h]; rfl
theorem modB_bad {l : List Int} {i : Nat} (hi : i < l.length) (h : modOk l i = false) : modB l = false := by
  cases hb : modB l with
  | false => rfl
  | true =>
    unfold modB at hb
    rw [Bool.and_eq_true, List.all_eq_true] at hb
    rw [hb.2 i (List.mem_range.mpr hi)] at h
    cases h
theorem modOk_low {l : List Int} {i : Nat} (h : ¬ (2 ≤ atL l i ∧ atL l i ≤ 400000000)) : modOk l i = false := by
  unfold modOk; rw [decide_eq_false h]; rfl
theorem modOk_true {l : List Int} {i : Nat} (h1 : 2 ≤ atL l i ∧ atL l i ≤ 400000000) (h2 : (prodI (atL l) i).gcd (atL l i) = 1) (h3 : prodI (atL l) (i + 1) ≤ 400000000) : modOk l i = true := by
  unfold modOk; rw [decide_eq_true h1, decide_eq_true h2, decide_eq_true h3]; rfl
open Classical in
noncomputable def chiV (rs ms : Nat → Int) (k : Nat) : Int := if h : ∃ x, ChiP rs ms k x then Classical.choose h else 0
theorem chiV_eq {rs ms : Nat → Int} {k : Nat} {x : Int} (hm : Modu ms k) (h : ChiP rs ms k x) : chiV rs ms k = x := by
  have hx : ∃ x, ChiP rs ms k x := ⟨x, h⟩
  unfold chiV
  rw [dif_pos hx]
  exact ChiP.uniq hm (Classical.choose_spec hx) h
noncomputable def chiX (rs ms : List Int) : Int × Int × Bool := if (modB ms && decide (rs.length = ms.length) && nums rs) = true then (chiV (atL rs) (atL ms) ms.length, prodI (atL ms) ms.length, true) else (0, 0, false)
theorem chiX_no {rs ms : List Int} (h : modB ms = false ∨ rs.length ≠ ms.length ∨ nums rs = false) : chiX rs ms = (0, 0, false) := by
  unfold chiX
  rcases h with h | h | h
  · rw [h]; rfl
  · rw [decide_eq_false h, Bool.and_false, Bool.false_and]; rfl
  · rw [h, Bool.and_false]; rfl
theorem chiX_yes {rs ms : List Int} {x : Int} (h1 : modB ms = true) (h2 : rs.length = ms.length) (h3 : nums rs = true) (h : ChiP (atL rs) (atL ms) ms.length x) : chiX rs ms = (x, prodI (atL ms) ms.length, true) := by
  unfold chiX
  rw [h1, decide_eq_true h2, h3, chiV_eq (modB_says h1).2.1 h]; rfl
theorem chi_ex {rs ms : Nat → Int} : ∀ {k : Nat}, Modu ms k → ∃ x, ChiP rs ms k x
  | 0, _ => ⟨0, ChiP.zero rs ms⟩
  | k + 1, hm => by
    obtain ⟨x, hx⟩ := chi_ex (rs := rs) (hm.less (Nat.le_succ k))
    have hP := (hm.less (Nat.le_succ k)).pos
    obtain ⟨h2, hg⟩ := hm k (by omega)
    obtain ⟨u, y, hb⟩ := bez (ms k).toNat (prodI ms k).toNat
    have e1 : ((prodI ms k).toNat : Int) = prodI ms k := Int.toNat_of_nonneg (by omega)
    have e2 : ((ms k).toNat : Int) = ms k := Int.toNat_of_nonneg (by omega)
    have e3 : Nat.gcd (prodI ms k).toNat (ms k).toNat = 1 := by
      rw [← hg, Int.gcd, show (prodI ms k).natAbs = (prodI ms k).toNat by omega, show (ms k).natAbs = (ms k).toNat by omega]
    rw [e1, e2, e3] at hb
    refine ⟨_, hx.step (u := u) (by omega) hP ⟨-y, ?_⟩⟩
    have : ((1 : Nat) : Int) = 1 := rfl
    rw [this] at hb
    rw [Int.mul_neg]
    omega
def symX (x m : Int) : Int × Bool := if NumP x ∧ 1 ≤ m ∧ m ≤ 400000000 then (symM x m, true) else (0, false)
theorem symX_no {x m : Int} (h : ¬ (NumP x ∧ 1 ≤ m ∧ m ≤ 400000000)) : symX x m = (0, false) := if_neg h
theorem symX_yes {x m : Int} (h : NumP x ∧ 1 ≤ m ∧ m ≤ 400000000) : symX x m = (symM x m, true) := if_pos h
def rowA (n : Nat) (xs : List Int) (i j : Nat) : Int := sumN j fun k => ((xs.getD (i * n + k) 0).natAbs : Int)
theorem rowA_zero (n : Nat) (xs : List Int) (i : Nat) : rowA n xs i 0 = 0 := rfl
theorem rowA_step (n : Nat) (xs : List Int) (i j : Nat) : rowA n xs i (j + 1) = rowA n xs i j + ((xs.getD (i * n + j) 0).natAbs : Int) := rfl
theorem rowA_nonneg (n : Nat) (xs : List Int) (i j : Nat) : 0 ≤ rowA n xs i j := sumN_nonneg fun _ _ => Int.natCast_nonneg _
theorem rowA_mono (n : Nat) (xs : List Int) (i : Nat) : ∀ {j k : Nat}, j ≤ k → rowA n xs i j ≤ rowA n xs i k
  | j, 0, h => by obtain rfl : j = 0 := by omega
                  exact Int.le_refl _
  | j, k + 1, h => by
    rcases Nat.lt_or_ge j (k + 1) with h1 | h1
    · have := rowA_mono n xs i (j := j) (k := k) (by omega)
      rw [rowA_step]; omega
    · obtain rfl : j = k + 1 := by omega
      exact Int.le_refl _
def bndTo (n : Nat) (xs : List Int) : Nat → Option Int
  | 0 => some 1
  | i + 1 => match bndTo n xs i with
    | none => none
    | some P => if rowA n xs i n ≤ 400000000 ∧ P * rowA n xs i n ≤ 400000000 then some (P * rowA n xs i n) else none
theorem bndTo_none {n : Nat} {xs : List Int} {i : Nat} (h : bndTo n xs i = none) : ∀ j, i ≤ j → bndTo n xs j = none
  | 0, hj => by obtain rfl : i = 0 := by omega
                exact h
  | j + 1, hj => by
    rcases Nat.lt_or_ge i (j + 1) with h1 | h1
    · show (match bndTo n xs j with | none => none | some P => _) = none
      rw [bndTo_none h j (by omega)]
    · obtain rfl : i = j + 1 := by omega
      exact h
theorem bndTo_yes {n : Nat} {xs : List Int} {i : Nat} {P : Int} (h : bndTo n xs i = some P) (h1 : rowA n xs i n ≤ 400000000) (h2 : P * rowA n xs i n ≤ 400000000) : bndTo n xs (i + 1) = some (P * rowA n xs i n) := by
  show (match bndTo n xs i with | none => none | some P => if rowA n xs i n ≤ 400000000 ∧ P * rowA n xs i n ≤ 400000000 then some (P * rowA n xs i n) else none) = _
  rw [h]
  exact if_pos ⟨h1, h2⟩
theorem bndTo_no {n : Nat} {xs : List Int} {i : Nat} {P : Int} (h : bndTo n xs i = some P) (h1 : 400000000 < rowA n xs i n ∨ 400000000 < P * rowA n xs i n) : bndTo n xs (i + 1) = none := by
  show (match bndTo n xs i with | none => none | some P => if rowA n xs i n ≤ 400000000 ∧ P * rowA n xs i n ≤ 400000000 then some (P * rowA n xs i n) else none) = _
  rw [h]
  exact if_neg (by omega)
theorem bndTo_says {n : Nat} {xs : List Int} : ∀ {i : Nat} {P : Int}, bndTo n xs i = some P → 0 ≤ P ∧ P ≤ 400000000 ∧ P = prodI (absR n (mxL n xs)) i
  | 0, P, h => by
    cases h
    exact ⟨by decide, by decide, rfl⟩
  | i + 1, P, h => by
    cases hb : bndTo n xs i with
    | none => rw [bndTo_none hb (i + 1) (by omega)] at h; cases h
    | some Q =>
      obtain ⟨q0, q1, q2⟩ := bndTo_says hb
      have r0 := rowA_nonneg n xs i n
      by_cases h1 : rowA n xs i n ≤ 400000000 ∧ Q * rowA n xs i n ≤ 400000000
      · rw [bndTo_yes hb h1.1 h1.2] at h
        cases h
        refine ⟨Int.mul_nonneg q0 r0, h1.2, ?_⟩
        show _ = prodI (absR n (mxL n xs)) i * absR n (mxL n xs) i
        rw [← q2]; rfl
      · rw [bndTo_no hb (by omega)] at h; cases h
def bndX (r c : Int) (xs : List Int) : Int × Bool := if isSq r c xs = true then (match bndTo r.toNat xs r.toNat with | some P => (P, true) | none => (0, false)) else (0, false)
theorem bndX_sq {r c : Int} {xs : List Int} (h : isSq r c xs = false) : bndX r c xs = (0, false) := by unfold bndX; rw [h]; rfl
theorem bndX_yes {n : Nat} {xs : List Int} {P : Int} (h : isSq n n xs = true) (hb : bndTo n xs n = some P) : bndX n n xs = (P, true) := by
  unfold bndX; rw [h, if_pos rfl]
  show (match bndTo n xs n with | some P => (P, true) | none => (0, false)) = _
  rw [hb]
theorem bndX_no {n : Nat} {xs : List Int} (h : isSq n n xs = true) (hb : bndTo n xs n = none) : bndX n n xs = (0, false) := by
  unfold bndX; rw [h, if_pos rfl]
  show (match bndTo n xs n with | some P => (P, true) | none => (0, false)) = _
  rw [hb]
theorem bndX_says {r c : Int} {xs : List Int} (h : (bndX r c xs).2 = true) : ∃ n : Nat, r = n ∧ c = n ∧ n ≤ 6 ∧ xs.length = n * n ∧ nums xs = true ∧ 0 ≤ (bndX r c xs).1 ∧ (bndX r c xs).1 ≤ 400000000 ∧ ((det n (mxL n xs)).natAbs : Int) ≤ (bndX r c xs).1 := by
  rcases Bool.eq_false_or_eq_true (isSq r c xs) with hs | hs
  rotate_left
  · rw [bndX_sq hs] at h; cases h
  obtain ⟨n, rfl, rfl, h6, hl, hn⟩ := isSq_says hs
  cases hb : bndTo n xs n with
  | none => rw [bndX_no hs hb] at h; cases h
  | some P =>
    rw [bndX_yes hs hb]
    obtain ⟨p0, p1, p2⟩ := bndTo_says hb
    exact ⟨n, rfl, rfl, h6, hl, hn, p0, p1, by show _ ≤ P; rw [p2]; exact det_bound n _⟩
def pr9 : Nat → Int
  | 0 => 101
  | 1 => 103
  | 2 => 107
  | 3 => 109
  | _ => 113
def pp9 : Nat → Int
  | 0 => 1
  | 1 => 101
  | 2 => 10403
  | 3 => 1113121
  | _ => 121330189
theorem pp9_prod {k : Nat} (h : k ≤ 4) : prodI pr9 k = pp9 k := by
  rcases (show k = 0 ∨ k = 1 ∨ k = 2 ∨ k = 3 ∨ k = 4 by omega) with rfl | rfl | rfl | rfl | rfl <;> rfl
theorem pr9_prm : ∀ i, i < 4 → prmB (pr9 i) = true := by
  intro i hi
  rcases (show i = 0 ∨ i = 1 ∨ i = 2 ∨ i = 3 by omega) with rfl | rfl | rfl | rfl <;> decide +kernel
theorem pr9_gap : ∀ p : Nat, 101 ≤ p → p ≤ 113 → prmB (p : Int) = true → p = 101 ∨ p = 103 ∨ p = 107 ∨ p = 109 ∨ p = 113 := by
  intro p h1 h2
  rcases (show p = 101 ∨ p = 102 ∨ p = 103 ∨ p = 104 ∨ p = 105 ∨ p = 106 ∨ p = 107 ∨ p = 108 ∨ p = 109 ∨ p = 110 ∨ p = 111 ∨ p = 112 ∨ p = 113 by omega) with rfl | rfl | rfl | rfl | rfl | rfl | rfl | rfl | rfl | rfl | rfl | rfl | rfl <;> decide +kernel
theorem pr9_modu {k : Nat} (h : k ≤ 4) : Modu pr9 k := Modu.primes (fun i hi => (prmB_says (pr9_prm i (by omega))).1) fun i j hij hj => by
  rcases (show (i = 0 ∧ j = 1) ∨ (i = 0 ∧ j = 2) ∨ (i = 0 ∧ j = 3) ∨ (i = 1 ∧ j = 2) ∨ (i = 1 ∧ j = 3) ∨ (i = 2 ∧ j = 3) by omega) with ⟨rfl, rfl⟩ | ⟨rfl, rfl⟩ | ⟨rfl, rfl⟩ | ⟨rfl, rfl⟩ | ⟨rfl, rfl⟩ | ⟨rfl, rfl⟩ <;> decide
def imX (r c : Int) (xs : List Int) : Int × Bool := if (bndX r c xs).2 = true ∧ 2 * (bndX r c xs).1 < 121330189 then (det r.toNat (mxL r.toNat xs), true) else (0, false)
theorem imX_yes {n : Nat} {xs : List Int} {k : Nat} (hk : k ≤ 4) {x : Int} (h : (bndX n n xs).2 = true) (hb : 2 * (bndX n n xs).1 < pp9 k) (hx : ChiP (fun i => det n (mxL n xs) % pr9 i) pr9 k x) : imX n n xs = (symM x (pp9 k), true) := by
  obtain ⟨n', hn, -, -, -, -, b0, b1, bd⟩ := bndX_says h
  obtain rfl : n = n' := by omega
  have e := chi_img (pr9_modu hk) hx bd (by rw [pp9_prod hk]; exact hb)
  rw [pp9_prod hk] at e
  have hle : pp9 k ≤ 121330189 := by
    rcases (show k = 0 ∨ k = 1 ∨ k = 2 ∨ k = 3 ∨ k = 4 by omega) with rfl | rfl | rfl | rfl | rfl <;> decide
  unfold imX
  rw [if_pos ⟨h, by omega⟩, e]; rfl
theorem imX_no {r c : Int} {xs : List Int} (h : (bndX r c xs).2 = false ∨ 121330189 ≤ 2 * (bndX r c xs).1) : imX r c xs = (0, false) := by
  unfold imX
  refine if_neg fun h2 => ?_
  rcases h with h | h
  · rw [h] at h2; cases h2.1
  · omega
theorem imX_det {r c : Int} {xs : List Int} (h : (imX r c xs).2 = true) : (bndX r c xs).2 = true ∧ ∃ n : Nat, r = n ∧ c = n ∧ (imX r c xs).1 = det n (mxL n xs) := by
  unfold imX at h ⊢
  by_cases h1 : (bndX r c xs).2 = true ∧ 2 * (bndX r c xs).1 < 121330189
  · rw [if_pos h1]
    obtain ⟨n, rfl, rfl, -⟩ := bndX_says h1.1
    exact ⟨h1.1, n, rfl, rfl, rfl⟩
  · rw [if_neg h1] at h; cases h
end Go.Proofs.YtcapddcmnjeloaaGreatDoor
end
