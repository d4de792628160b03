/-
  Proved: for every code, the law FnCore returns true: a system of equations that is written, read, solved by all roads, put in and written again stays the same system with the same solution.
  Conditions: none beyond the row's own (the argument reads as data; the library's tables and its variable errors.errorType read as the program's text lays them, which the card ties).
-/
import Derived.Test.YtcapddcmnjeloaaGreatDoorRows
import Derived.Test.YtcapddcmnjeloaaGreatDoorTie
import Derived.Test.YtcapddcmnjeloaaGreatDoorCards
import Derived.SevenTiedAt
import Derived.Lay
import Derived.LaidMore
import Derived.LaidHandle
import Derived.LaidSub
import Derived.Stop.Joined
import Derived.ChangeOld
import Derived.Below
import Derived.Deep.RegionHeld3
import Derived.Deep.DeepCutAuto
import Derived.WalkKit
import Derived.ProofKit
import Derived.OpenShut
import Derived.ShutString
import Derived.Carry
import Derived.Lib.SmallJoins
import Derived.Test.YtcapddcmnjeloaaGreatDoorPk1
import Derived.Test.YtcapddcmnjeloaaGreatDoorPk2
import Derived.Test.YtcapddcmnjeloaaGreatDoorPk6
import Derived.Test.YtcapddcmnjeloaaGreatDoorPk8
import Derived.Test.YtcapddcmnjeloaaGreatDoorPk10
import Derived.Test.YtcapddcmnjeloaaGreatDoorPk11

namespace Go.Proofs.YtcapddcmnjeloaaGreatDoor.fnCore
open Go.ChangeShapes Go.WideShapes Go.ChangeAt Go.RowKit
open Go.ChangeMaps (open_string shut_string)
set_option linter.unusedVariables false


/-- What the walk is told of a slice of integers that came in: it is nil; or it leads to a row of 'cap' cells, the numbers 'zs' (the first 'len' are its elements), each fitting its kind. -/
def IsRow (k : IntKind) (w : World) (a : Option Addr) (len cap : Nat) (zs : List Int) : Prop :=
  (a = none ∧ len = 0 ∧ cap = 0 ∧ zs = []) ∨
  ∃ x, a = some x ∧ len ≤ cap ∧ cap ≤ maxLen ∧ zs.length = cap ∧ (∀ i, i < zs.length → w.cell? (x.add i) = some (.int k (zs.getD i 0))) ∧ ∀ n ∈ zs, (Lit.int k n).wf = true
theorem isRow_of {H : Type} {enc : TypeId × Value → H} {P : Program} {W : World} {base : Nat} {held : Bool} {t e : TypeId} {k : IntKind} {a : Option Addr} {len cap fuel : Nat} {x : DataW H × List MemPlace}
    (ht : P.underlying t = some (.slice e)) (he : P.underlying e = some (.int k)) (hc : P.cellsOf e = 1) (hf : DataW.trod enc P W base (fun _ => true) held fuel t [.slice a len cap] = some x) : ∃ zs, IsRow k W a len cap zs := by
  rcases open_ints ht he hc hf with ⟨hcs, _⟩ | ⟨x, l, c, zs, hcs, _, hl, hm, hz, _, hcell, hwz⟩
  · simp at hcs
    obtain ⟨rfl, rfl, rfl⟩ := hcs
    exact ⟨[], .inl ⟨rfl, rfl, rfl, rfl⟩⟩
  · simp at hcs
    obtain ⟨rfl, rfl, rfl⟩ := hcs
    exact ⟨zs, .inr ⟨_, rfl, hl, hm, by simpa using hz, hcell, hwz⟩⟩
theorem _root_.Go.Proofs.YtcapddcmnjeloaaGreatDoor.Own.oldT {B : Nat} {w : World} {v : Value} {zs : List Int} (h : Own B w v zs) (o : Obj) : Own B (w.alloc o) v zs := h.keep ((Below.refl _ _).alloc (Nat.le_refl _) o)
theorem _root_.Go.Proofs.YtcapddcmnjeloaaGreatDoor.Own.rdT {B : Nat} {w : World} {a : Option Addr} {n cap : Nat} {zs : List Int} (h : Own B w (.slice a n cap) zs) : Rd w a zs := by
  obtain ⟨a', c', e, hr, -⟩ := h.form
  injection e with e1 e2 e3
  rw [e1]; exact hr
theorem codeIn_of_row {w : World} {a : Option Addr} {len cap : Nat} {zs : List Int} (h : IsRow .u8 w a len cap zs) : CodeIn w a len := by
  rcases h with ⟨rfl, rfl, rfl, rfl⟩ | ⟨x, rfl, hl, hm, hz, hcell, hwf⟩
  · exact codeIn_none w
  · exact codeIn_some hl hm hz hcell hwf
theorem parM_fmt {r c : Int} {xs : List Int} (h : isMat r c xs = true) : parM (fmtM r c xs) = ⟨true, r, c, xs⟩ := by
  obtain ⟨⟨r1, r2⟩, ⟨c1, c2⟩, -, -⟩ := isMat_says h
  obtain ⟨R, rfl⟩ := Int.eq_ofNat_of_zero_le r1
  obtain ⟨C, rfl⟩ := Int.eq_ofNat_of_zero_le c1
  have e : fmtM R C xs = matText R C xs := by unfold fmtM; rw [if_pos h]; rfl
  rw [e]
  exact parM_text h
theorem says_nil : ¬ SaysM [] := by
  intro h
  have h1 := h.1
  rw [pcsM_nil] at h1
  exact absurd h1 (by decide)
theorem ratText_len (p q : Int) : (ratText p q).length ≤ 16777216 := by
  unfold ratText
  split
  · rename_i h
    obtain ⟨d1, d2, n1, n2, -⟩ : IsRatP p q := of_decide_eq_true h
    have a := itoa_len10 p n1 n2
    have b := itoa_len10 q (by omega) d2
    split
    · omega
    · simp only [List.length_append, List.length_cons, List.length_nil]; omega
  · simp
theorem sl_nil {r c : Int} {xs bs : List Int} (h : (slX r c xs bs).2 = false) : (slX r c xs bs).1 = [] := by
  unfold slX at h ⊢
  split at h
  · rename_i h2
    rw [dif_pos h2]
    unfold slQ at h ⊢
    split at h
    · cases h
    · rename_i h3
      rw [if_neg h3]
  · rename_i h2
    rw [dif_neg h2]
theorem sl_core {r c : Int} {xs bs : List Int} (h : (slX r c xs bs).2 = true) : (slX r c xs bs).1.length ≤ 6 ∧ irB r c xs bs (slX r c xs bs).1 = true ∧ (∀ j, j < (slX r c xs bs).1.length → isRat ((slX r c xs bs).1.getD j (0, 0)).1 ((slX r c xs bs).1.getD j (0, 0)).2 = true) ∧ ((imX r c xs).2 = true → (imX r c xs).1 ≠ 0) := by
  obtain ⟨n, rfl, rfl, h6, -, hd, hl, hi⟩ := slX_says h
  refine ⟨by omega, hi, fun j hj => decide_eq_true ((irB_sol hi).2.rat j (by omega)), fun h2 => ?_⟩
  obtain ⟨-, n', e, -, e2⟩ := imX_det h2
  obtain rfl : n = n' := by omega
  rw [e2]; exact hd
theorem lRow (q : Option Addr) (qc l : Nat) (w : World) : Calls Tryz.prog 17 #[.slice q l qc] w (Gives (.agg #[.int .i64 1, .int .i64 (l : Int), .slice q l qc]) w) := by
  have K : Hid (Blk3 (w.alloc (.cells #[.int .i64 1, .int .i64 (l : Int), .slice q l qc] 26)) w.heap.size 26 (.int .i64 1) (.int .i64 (l : Int)) (.slice q l qc)) := Blk3.at_ _ _ _ _ rfl
  have B : Hid (Below w.heap.size w (w.alloc (.cells #[.int .i64 1, .int .i64 (l : Int), .slice q l qc] 26))) := (Below.refl _ _).alloc (Nat.le_refl _) _
  obtain ⟨E0, E1, E2, -, -, -⟩ := K.out.all
  go_enter Tryz.func17, Tryz.ntmps17
  go_wp2_with fail
  exact bodyPost_ret (v := .agg #[.int .i64 1, .int .i64 (l : Int), .slice q l qc]) (by simp [results, Tryz.results17, go_sem, E0, E1, E2]) rfl ⟨rfl, B.out⟩
set_option maxRecDepth 100000 in
set_option maxHeartbeats 16000000 in

theorem walk (a0 : Option Addr) (len0 cap0 : Nat) (z0 : List Int) (w : World) (w0 : IsRow .u8 w a0 len0 cap0 z0) (tb : Tab w ∧ TabE w) :
    Calls Tryz.prog 4 #[.slice a0 len0 cap0] w fun e w' => e = .returned (.bool true) ∧ Below w.heap.size w w' := by
  have TBP := Lib.hid tb.1
  have TBE := Lib.hid tb.2
  have hc : CodeIn w a0 len0 := codeIn_of_row w0
  have hl := hc.1
  have HC := Lib.hid hc
  clear w0 hc tb
  unfold maxLen at hl
  by_cases hbig : len0 ≤ 1048576
  · go_enter Tryz.func4, Tryz.ntmps4
    go_wp2_with (fail)
    refine (big_no w a0 len0 cap0 hbig).mono ?_
    rintro e w1 ⟨rfl, rfl⟩
    go_wp2_with (fail)
    refine (drawSl w a0 len0 cap0 HC.out).mono ?_
    rintro e w1 ⟨r, c, q, qc, xs, qb, qbc, bs, rfl, o1, l1, o2, l2, hb⟩
    have n1 : xs.length ≤ 16777216 := by omega
    have n2 : bs.length ≤ 16777216 := by omega
    have CE := Lib.hid o1.celA
    have OA := Lib.hid o1
    have OB := Lib.hid o2
    have B := Lib.hid hb
    have K : Hid (Blk3 (w1.alloc (.cells #[.int .i64 r, .int .i64 c, .slice q xs.length qc] 26)) w1.heap.size 26 (.int .i64 r) (.int .i64 c) (.slice q xs.length qc)) := Blk3.at_ _ _ _ _ rfl
    obtain ⟨s, hs⟩ : ∃ s, fmtM r c xs = s := ⟨_, rfl⟩
    obtain ⟨t, ht⟩ : ∃ t, fmtM 1 (bs.length : Int) bs = t := ⟨_, rfl⟩
    have ls : s.length ≤ 16777216 := by rw [← hs]; have := fmtM_len r c xs; omega
    have lt : t.length ≤ 16777216 := by rw [← ht]; have := fmtM_len 1 (bs.length : Int) bs; omega
    have FM : Hid (∀ (q : Option Addr) (qc : Nat) (w : World), Rd w q xs → Tab w → Calls Tryz.prog 16 #[.agg #[.int .i64 r, .int .i64 c, .slice q xs.length qc]] w (Gives (.string ⟨s.toArray⟩) w)) := Lib.hid (fun q qc w h tb => by
      rw [← hs]; exact iFormatMatrix r c q qc xs w h n1 tb)
    have FB : Hid (∀ (q : Option Addr) (qc : Nat) (w : World), Rd w q bs → Tab w → Calls Tryz.prog 16 #[.agg #[.int .i64 1, .int .i64 (bs.length : Int), .slice q bs.length qc]] w (Gives (.string ⟨t.toArray⟩) w)) := Lib.hid (fun q qc w h tb => by
      rw [← ht]; exact iFormatMatrix 1 (bs.length : Int) q qc bs w h n2 tb)
    have PS : Hid (∀ (w : World), Tab w → Calls Tryz.prog 18 #[.string ⟨s.toArray⟩] w (MatRes (parM s) w)) := Lib.hid (fun w tb => iParseMatrix s w ls tb)
    have PT : Hid (∀ (w : World), Tab w → Calls Tryz.prog 18 #[.string ⟨t.toArray⟩] w (MatRes (parM t) w)) := Lib.hid (fun w tb => iParseMatrix t w lt tb)
    have IM : Hid (∀ (q : Option Addr) (qc : Nat) (w : World), Rd w q xs → Calls Tryz.prog 19 #[.agg #[.int .i64 r, .int .i64 c, .slice q xs.length qc]] w (Gives (.bool (isMat r c xs)) w)) := Lib.hid (fun q qc w h => sIsMat r c q qc xs w h n1)
    have IB : Hid (∀ (q : Option Addr) (qc : Nat) (w : World), Rd w q bs → Calls Tryz.prog 19 #[.agg #[.int .i64 1, .int .i64 (bs.length : Int), .slice q bs.length qc]] w (Gives (.bool (isMat 1 (bs.length : Int) bs)) w)) := Lib.hid (fun q qc w h => sIsMat 1 (bs.length : Int) q qc bs w h n2)
    have YS : Hid (isMat r c xs = true → parM s = ⟨true, r, c, xs⟩) := fun h => by show _ = _; rw [← hs]; exact parM_fmt h
    have NS : Hid (isMat r c xs = false → s = [] ∧ parM s = MR.no) := fun h => by
      have e : s = [] := by rw [← hs]; unfold fmtM; rw [if_neg (by rw [h]; decide)]
      exact ⟨e, by rw [e]; exact parM_no says_nil⟩
    have YT : Hid (isMat 1 (bs.length : Int) bs = true → parM t = ⟨true, 1, (bs.length : Int), bs⟩) := fun h => by show _ = _; rw [← ht]; exact parM_fmt h
    have NT : Hid (isMat 1 (bs.length : Int) bs = false → t = [] ∧ parM t = MR.no) := fun h => by
      have e : t = [] := by rw [← ht]; unfold fmtM; rw [if_neg (by rw [h]; decide)]
      exact ⟨e, by rw [e]; exact parM_no says_nil⟩
    clear hb o1 o2 hs ht ls lt l1
    have OA := Lib.hid (OA.out.oldT (.cells #[.int .i64 r, .int .i64 c, .slice q xs.length qc] 26))
    have OB := Lib.hid (OB.out.oldT (.cells #[.int .i64 r, .int .i64 c, .slice q xs.length qc] 26))
    have B := Lib.hid (B.out.alloc B.out.size (.cells #[.int .i64 r, .int .i64 c, .slice q xs.length qc] 26))
    obtain ⟨k0, k1, k2, -, -, -⟩ := K.out.all
    go_wp2_with (fail)
    refine (FM.out _ _ _ OA.out.rdT (TBP.out.below B.out)).mono ?_
    rintro e w2 ⟨rfl, hb⟩
    clear k0 k1 k2
    have OA := Lib.hid (OA.out.keep hb)
    have OB := Lib.hid (OB.out.keep hb)
    have K := Lib.hid (K.out.step hb)
    have B := Lib.hid (B.out.trans (hb.mono B.out.size))
    clear hb
    go_wp2_with (fail)
    refine (lRow qb qbc bs.length _).mono ?_
    rintro e w2r ⟨rfl, hb⟩
    have OA := Lib.hid (OA.out.keep hb)
    have OB := Lib.hid (OB.out.keep hb)
    have K := Lib.hid (K.out.step hb)
    have B := Lib.hid (B.out.trans (hb.mono B.out.size))
    clear hb
    go_wp2_with (fail)
    refine (FB.out _ _ _ OB.out.rdT (TBP.out.below B.out)).mono ?_
    rintro e w3 ⟨rfl, hb⟩
    have OA := Lib.hid (OA.out.keep hb)
    have OB := Lib.hid (OB.out.keep hb)
    have K := Lib.hid (K.out.step hb)
    have B := Lib.hid (B.out.trans (hb.mono B.out.size))
    clear hb
    go_wp2_with (fail)
    refine (PS.out _ (TBP.out.below B.out)).mono ?_
    rintro e w4 ⟨v4, rfl, own4, hb⟩
    obtain ⟨qX, cX, rfl, -, -⟩ := own4.form
    have OX := Lib.hid own4
    have OA := Lib.hid (OA.out.keep hb)
    have OB := Lib.hid (OB.out.keep hb)
    have K := Lib.hid (K.out.step hb)
    have B := Lib.hid (B.out.trans (hb.mono B.out.size))
    clear hb
    have KN : Hid (Blk3 (w4.alloc (.cells #[.int .i64 (parM s).r, .int .i64 (parM s).c, .slice qX (parM s).zs.length cX] 26)) w4.heap.size 26 (.int .i64 (parM s).r) (.int .i64 (parM s).c) (.slice qX (parM s).zs.length cX)) := Blk3.at_ _ _ _ _ rfl
    have OX := Lib.hid (OX.out.oldT (.cells #[.int .i64 (parM s).r, .int .i64 (parM s).c, .slice qX (parM s).zs.length cX] 26))
    have OA := Lib.hid (OA.out.oldT (.cells #[.int .i64 (parM s).r, .int .i64 (parM s).c, .slice qX (parM s).zs.length cX] 26))
    have OB := Lib.hid (OB.out.oldT (.cells #[.int .i64 (parM s).r, .int .i64 (parM s).c, .slice qX (parM s).zs.length cX] 26))
    have K := Lib.hid (K.out.old (.cells #[.int .i64 (parM s).r, .int .i64 (parM s).c, .slice qX (parM s).zs.length cX] 26))
    have B := Lib.hid (B.out.alloc B.out.size (.cells #[.int .i64 (parM s).r, .int .i64 (parM s).c, .slice qX (parM s).zs.length cX] 26))
    clear own4
    go_wp2_with (fail)
    refine (PT.out _ (TBP.out.below B.out)).mono ?_
    rintro e w5 ⟨v5, rfl, own5, hb⟩
    obtain ⟨qY, cY, rfl, -, -⟩ := own5.form
    have OY := Lib.hid own5
    have OA := Lib.hid (OA.out.keep hb)
    have OB := Lib.hid (OB.out.keep hb)
    have OX := Lib.hid (OX.out.keep hb)
    have K := Lib.hid (K.out.step hb)
    have KN := Lib.hid (KN.out.step hb)
    have B := Lib.hid (B.out.trans (hb.mono B.out.size))
    clear hb
    have KC : Hid (Blk3 (w5.alloc (.cells #[.int .i64 (parM t).r, .int .i64 (parM t).c, .slice qY (parM t).zs.length cY] 26)) w5.heap.size 26 (.int .i64 (parM t).r) (.int .i64 (parM t).c) (.slice qY (parM t).zs.length cY)) := Blk3.at_ _ _ _ _ rfl
    have OY := Lib.hid (OY.out.oldT (.cells #[.int .i64 (parM t).r, .int .i64 (parM t).c, .slice qY (parM t).zs.length cY] 26))
    have OA := Lib.hid (OA.out.oldT (.cells #[.int .i64 (parM t).r, .int .i64 (parM t).c, .slice qY (parM t).zs.length cY] 26))
    have OB := Lib.hid (OB.out.oldT (.cells #[.int .i64 (parM t).r, .int .i64 (parM t).c, .slice qY (parM t).zs.length cY] 26))
    have OX := Lib.hid (OX.out.oldT (.cells #[.int .i64 (parM t).r, .int .i64 (parM t).c, .slice qY (parM t).zs.length cY] 26))
    have K := Lib.hid (K.out.old (.cells #[.int .i64 (parM t).r, .int .i64 (parM t).c, .slice qY (parM t).zs.length cY] 26))
    have KN := Lib.hid (KN.out.old (.cells #[.int .i64 (parM t).r, .int .i64 (parM t).c, .slice qY (parM t).zs.length cY] 26))
    have B := Lib.hid (B.out.alloc B.out.size (.cells #[.int .i64 (parM t).r, .int .i64 (parM t).c, .slice qY (parM t).zs.length cY] 26))
    clear own5
    go_upto_region 8 with (fail)
    generalize w5.alloc (.cells #[.int .i64 (parM t).r, .int .i64 (parM t).c, .slice qY (parM t).zs.length cY] 26) = W5 at OA OB OX OY K KN KC B ⊢
    rcases Bool.eq_false_or_eq_true (isMat r c xs) with hm | hm
    rotate_left
    · obtain ⟨e1, e2⟩ := NS.out hm
      rw [e2] at KN OX ⊢
      rw [hm] at IM
      rw [e1]
      have on : MR.no.ok = false := rfl
      clear KN OX KC OY PS PT FM FB YS NS YT NT IB e2 hm
      rw [on]
      obtain ⟨k0, k1, k2, -, -, -⟩ := K.out.all
      go_wp2_with (fail)
      refine (IM.out _ _ _ OA.out.rdT).mono ?_
      rintro e w6 ⟨rfl, hb⟩
      have B := Lib.hid (B.out.trans (hb.mono B.out.size))
      clear hb k0 k1 k2
      go_wp2_with (fail)
      go_ret
      exact ⟨rfl, B.out⟩
    rcases Bool.eq_false_or_eq_true (isMat 1 (bs.length : Int) bs) with hr | hr
    rotate_left
    · rw [YS.out hm] at KN OX ⊢
      obtain ⟨e1, e2⟩ := NT.out hr
      rw [e2] at KC OY ⊢
      rw [hm] at IM
      rw [hr] at IB
      rw [e1]
      have on : MR.no.ok = false := rfl
      clear KN OX KC OY PS PT FM FB YS NS YT NT e2 hm hr
      rw [on]
      obtain ⟨k0, k1, k2, -, -, -⟩ := K.out.all
      go_wp2_with (fail)
      refine (IM.out _ _ _ OA.out.rdT).mono ?_
      rintro e w6 ⟨rfl, hb⟩
      have OB := Lib.hid (OB.out.keep hb)
      have B := Lib.hid (B.out.trans (hb.mono B.out.size))
      clear hb
      clear k0 k1 k2
      go_wp2_with (fail)
      refine (lRow qb qbc bs.length _).mono ?_
      rintro e w7 ⟨rfl, hb⟩
      have OB := Lib.hid (OB.out.keep hb)
      have B := Lib.hid (B.out.trans (hb.mono B.out.size))
      clear hb
      go_wp2_with (fail)
      refine (IB.out _ _ _ OB.out.rdT).mono ?_
      rintro e w8 ⟨rfl, hb⟩
      have B := Lib.hid (B.out.trans (hb.mono B.out.size))
      clear hb
      go_wp2_with (fail)
      go_ret
      exact ⟨rfl, B.out⟩
    rw [YS.out hm] at KN OX ⊢
    rw [YT.out hr] at KC OY ⊢
    dsimp only at KN KC OX OY ⊢
    have CX := Lib.hid OX.out.celA
    obtain ⟨lx, hlx⟩ : ∃ l, (slX r c xs bs).1 = l := ⟨_, rfl⟩
    obtain ⟨fx, hfx⟩ : ∃ f, (slX r c xs bs).2 = f := ⟨_, rfl⟩
    obtain ⟨ly, hly⟩ : ∃ l, (sdX r c xs bs).1 = l := ⟨_, rfl⟩
    obtain ⟨fy, hfy⟩ : ∃ f, (sdX r c xs bs).2 = f := ⟨_, rfl⟩
    obtain ⟨dv, hdv⟩ : ∃ d, (imX r c xs).1 = d := ⟨_, rfl⟩
    obtain ⟨dk, hdk⟩ : ∃ d, (imX r c xs).2 = d := ⟨_, rfl⟩
    have SL : Hid (∀ (w : World), Rd w qX xs → Rd w qY bs → TabE w → Calls Tryz.prog 11 #[.agg #[.int .i64 r, .int .i64 c, .slice qX xs.length cX], .slice qY bs.length cY] w (QRes lx fx w)) := Lib.hid (fun w h1 h2 tb => by
      rw [← hlx, ← hfx]; exact iSl r c qX cX xs qY cY bs w h1 CX.out n1 h2 n2 tb)
    have SD : Hid (∀ (w : World), Rd w q xs → Rd w qb bs → Calls Tryz.prog 8 #[.agg #[.int .i64 r, .int .i64 c, .slice q xs.length qc], .slice qb bs.length qbc] w (QRes ly fy w)) := Lib.hid (fun w h1 h2 => by
      rw [← hly, ← hfy]; exact iSd r c q qc xs qb qbc bs w h1 n1 h2 n2)
    have DI : Hid (∀ (w : World), Rd w qX xs → Calls Tryz.prog 22 #[.agg #[.int .i64 r, .int .i64 c, .slice qX xs.length cX]] w (Gives (.tuple #[.int .i64 dv, .bool dk]) w)) := Lib.hid (fun w h1 => by
      rw [← hdv, ← hdk]; exact iImg r c qX cX xs w h1 n1)
    have EN : Hid (fx = false → lx = []) := fun h => by show _ = _; rw [← hlx]; exact sl_nil (by rw [hfx]; exact h)
    have E1 : Hid (fx = true → lx.length ≤ 6 ∧ irB r c xs bs lx = true ∧ (∀ j, j < lx.length → isRat (lx.getD j (0, 0)).1 (lx.getD j (0, 0)).2 = true) ∧ (dk = true → dv ≠ 0) ∧ (fy = true → ly = lx)) := fun h => by
      have h' : (slX r c xs bs).2 = true := by rw [hfx]; exact h
      obtain ⟨a1, a2, a3, a4⟩ := sl_core h'
      rw [hlx] at a1 a2 a3
      rw [hdv, hdk] at a4
      exact ⟨a1, a2, a3, a4, fun hy => by rw [← hlx, ← hly]; exact sd_sl (by rw [hfy]; exact hy) h'⟩
    clear hlx hfx hly hfy hdv hdk PS PT YS NS YT NT IM IB FB hm hr
    obtain ⟨kn0, kn1, kn2, -, -, -⟩ := KN.out.all
    obtain ⟨kc0, kc1, kc2, -, -, -⟩ := KC.out.all
    go_wp2_with (fail)
    refine (SL.out _ OX.out.rdT OY.out.rdT (TBE.out.below B.out)).mono ?_
    rintro e w6 ⟨vx, rfl, ox, hb⟩
    obtain ⟨ax, cx, rfl⟩ := ox.form
    have X := Lib.hid (ox.rd)
    clear ox kn0 kn1 kn2 kc0 kc1 kc2 KC OY
    have OA := Lib.hid (OA.out.keep hb)
    have OB := Lib.hid (OB.out.keep hb)
    have OX := Lib.hid (OX.out.keep hb)
    have K := Lib.hid (K.out.step hb)
    have KN := Lib.hid (KN.out.step hb)
    have B := Lib.hid (B.out.trans (hb.mono B.out.size))
    clear hb
    obtain ⟨k0, k1, k2, -, -, -⟩ := K.out.all
    go_wp2_with (fail)
    refine (SD.out _ OA.out.rdT OB.out.rdT).mono ?_
    rintro e w7 ⟨vy, rfl, oy, hb⟩
    obtain ⟨ay, cy, rfl⟩ := oy.form
    have Y := Lib.hid (oy.rd)
    clear oy k0 k1 k2 SL SD
    have OA := Lib.hid (OA.out.keep hb)
    have OB := Lib.hid (OB.out.keep hb)
    have OX := Lib.hid (OX.out.keep hb)
    have K := Lib.hid (K.out.step hb)
    have KN := Lib.hid (KN.out.step hb)
    have X := Lib.hid (X.out.below hb)
    have B := Lib.hid (B.out.trans (hb.mono B.out.size))
    clear hb
    cases fx with
    | false =>
      have e := EN.out rfl
      subst e
      go_wp2_with (fail)
      go_ret
      exact ⟨rfl, B.out⟩
    | true =>
      obtain ⟨lx6, hir, hrat, hdet, hyx⟩ := E1.out rfl
      have HRAT := Lib.hid hrat
      obtain ⟨L, hL⟩ : ∃ L, lx.length = L := ⟨_, rfl⟩
      have HL := Lib.hid hL
      rw [hL] at lx6 ⊢
      rw [hL] at HRAT
      have IR : Hid (∀ (w : World), Rd w q xs → Rd w qb bs → RdQ w ax lx → Calls Tryz.prog 13 #[.agg #[.int .i64 r, .int .i64 c, .slice q xs.length qc], .slice qb bs.length qbc, .slice ax L cx] w (Gives (.bool true) w)) := Lib.hid (fun w h1 h2 h3 => by
        have := iRational r c q qc xs qb qbc bs ax cx lx w h1 CE.out n1 h2 n2 h3 (by rw [hL]; omega)
        rw [hir, hL] at this
        exact this)
      clear E1 EN hrat hir hL
      go_wp2_with (fail)
      go_loopw [15, 16, 17] (fun v15 _ _ wr => ∃ i : Nat, v15 = .int .i64 i ∧ i ≤ L ∧ Own w.heap.size wr (.slice q xs.length qc) xs ∧ Own w.heap.size wr (.slice qb bs.length qbc) bs ∧ (∃ E, Own E wr (.slice qX xs.length cX) xs) ∧ Blk3 wr w1.heap.size 26 (.int .i64 r) (.int .i64 c) (.slice q xs.length qc) ∧ Blk3 wr w4.heap.size 26 (.int .i64 r) (.int .i64 c) (.slice qX xs.length cX) ∧ RdQ wr ax lx ∧ RdQ wr ay ly ∧ Below w.heap.size w wr) (fun v15 _ _ _ => L - (intOf v15).toNat)
      case atStart => exact ⟨0, rfl, Nat.zero_le _, OA.out, OB.out, ⟨_, OX.out⟩, K.out, KN.out, X.out, Y.out, B.out⟩
      case round =>
        clear OA OB OX K KN X Y B
        obtain ⟨i, rfl, hi, oa, ob, ⟨E, oxx⟩, kk, kn, rx, ry, hB⟩ := hrel
        have OA := Lib.hid oa
        have OB := Lib.hid ob
        have OX := Lib.hid oxx
        have K := Lib.hid kk
        have KN := Lib.hid kn
        have X := Lib.hid rx
        have Y := Lib.hid ry
        have B := Lib.hid hB
        clear oa ob oxx kk kn rx ry hB
        by_cases hlt : i < L
        · obtain ⟨b1, o1, rfl, -, hc1, hc2⟩ := X.out i (by rw [HL.out]; exact hlt)
          have hr := HRAT.out i hlt
          have HX := Lib.hid (fun (W : World) (h : RdQ W (some ⟨b1, o1, none⟩) lx) => h i (by rw [HL.out]; exact hlt))
          obtain ⟨pn, hpn⟩ : ∃ x, (lx.getD i (0, 0)).1 = x := ⟨_, rfl⟩
          obtain ⟨pd, hpd⟩ : ∃ x, (lx.getD i (0, 0)).2 = x := ⟨_, rfl⟩
          rw [hpn] at hc1 hr HX
          rw [hpd] at hc2 hr HX
          have ET := parR_text hr
          have RL := ratText_len pn pd
          obtain ⟨u, hu⟩ : ∃ u, ratText pn pd = u := ⟨_, rfl⟩
          rw [hu] at ET RL
          have FR : Hid (∀ w, Tab w → Calls Tryz.prog 21 #[.agg #[.int .i64 pn, .int .i64 pd]] w (Gives (.string ⟨u.toArray⟩) w)) := Lib.hid (fun w tb => by rw [← hu]; exact iFormatRatio pn pd w tb)
          have PR : Hid (∀ w, Tab w → Calls Tryz.prog 20 #[.string ⟨u.toArray⟩] w (Gives (.tuple #[.agg #[.int .i64 pn, .int .i64 pd], .bool true]) w)) := Lib.hid (fun w tb => by
            have := iParseRatio u w RL tb
            rw [ET] at this
            exact this)
          have q1 : ∀ w : World, (Op.equalIn 10000 40 (.agg #[.int .i64 pn, .int .i64 pd]) (.agg #[.int .i64 pn, .int .i64 pd])).run Tryz.prog w = .ok true w := fun w => by rw [eqRat]; simp
          clear hu hr ET RL hpn hpd
          go_wp2_with (fail)
          refine (FR.out _ (TBP.out.below B.out)).mono ?_
          rintro e w8 ⟨rfl, hb⟩
          have OA := Lib.hid (OA.out.keep hb)
          have OB := Lib.hid (OB.out.keep hb)
          have OX := Lib.hid (OX.out.keep hb)
          have K := Lib.hid (K.out.step hb)
          have KN := Lib.hid (KN.out.step hb)
          have X := Lib.hid (X.out.below hb)
          have Y := Lib.hid (Y.out.below hb)
          have B := Lib.hid (B.out.trans (hb.mono B.out.size))
          clear hb
          clear hc1 hc2
          go_wp2_with (fail)
          refine (PR.out _ (TBP.out.below B.out)).mono ?_
          rintro e w9 ⟨rfl, hb⟩
          have OA := Lib.hid (OA.out.keep hb)
          have OB := Lib.hid (OB.out.keep hb)
          have OX := Lib.hid (OX.out.keep hb)
          have K := Lib.hid (K.out.step hb)
          have KN := Lib.hid (KN.out.step hb)
          have X := Lib.hid (X.out.below hb)
          have Y := Lib.hid (Y.out.below hb)
          have B := Lib.hid (B.out.trans (hb.mono B.out.size))
          clear hb
          have KR : Hid (Blk2 (w9.alloc (.cells #[.int .i64 pn, .int .i64 pd] 40)) w9.heap.size 40 (.int .i64 pn) (.int .i64 pd)) := Blk2.at_ _ _ _ rfl
          have OA := Lib.hid (OA.out.oldT (.cells #[.int .i64 pn, .int .i64 pd] 40))
          have OB := Lib.hid (OB.out.oldT (.cells #[.int .i64 pn, .int .i64 pd] 40))
          have OX := Lib.hid (OX.out.oldT (.cells #[.int .i64 pn, .int .i64 pd] 40))
          have K := Lib.hid (K.out.old (.cells #[.int .i64 pn, .int .i64 pd] 40))
          have KN := Lib.hid (KN.out.old (.cells #[.int .i64 pn, .int .i64 pd] 40))
          have X := Lib.hid (X.out.below ((Below.refl _ _).alloc (Nat.le_refl _) (.cells #[.int .i64 pn, .int .i64 pd] 40)))
          have Y := Lib.hid (Y.out.below ((Below.refl _ _).alloc (Nat.le_refl _) (.cells #[.int .i64 pn, .int .i64 pd] 40)))
          have B := Lib.hid (B.out.alloc B.out.size (.cells #[.int .i64 pn, .int .i64 pd] 40))
          obtain ⟨b2, o2, eb, -, hc1, hc2⟩ := HX.out _ X.out
          injection eb with eb
          injection eb with eb1 eb2
          subst eb1 eb2
          obtain ⟨r0, r1, -, -⟩ := KR.out.all
          clear HX
          go_upto_region 18 with (fail)
          obtain ⟨b9, hb9⟩ : ∃ b, w9.heap.size = b := ⟨_, rfl⟩
          rw [hb9] at KR r0 r1 ⊢
          generalize w9.alloc (.cells #[.int .i64 pn, .int .i64 pd] 40) = W9 at OA OB OX K KN X Y B KR hc1 hc2 r0 r1 ⊢
          clear hb9
          go_quiet (fail)
          have OA := Lib.hid (OA.out.keep (below_drewN (Below.refl _ _) nq))
          have OB := Lib.hid (OB.out.keep (below_drewN (Below.refl _ _) nq))
          have OX := Lib.hid (OX.out.keep (below_drewN (Below.refl _ _) nq))
          have K := Lib.hid (K.out.drewN nq)
          have KN := Lib.hid (KN.out.drewN nq)
          have X := Lib.hid (X.out.below (below_drewN (Below.refl _ _) nq))
          have Y := Lib.hid (Y.out.below (below_drewN (Below.refl _ _) nq))
          have B := Lib.hid (below_drewN B.out nq)
          clear hc1 hc2 r0 r1 KR
          go_wp2_with (fail)
          go_roundw
          case rel => exact ⟨i + 1, by go_num, by omega, OA.out, OB.out, ⟨_, OX.out⟩, K.out, KN.out, X.out, Y.out, B.out⟩
          case measure => simp [intOf]; omega
        · obtain rfl : i = L := by omega
          have SQ : Hid (fy = true → ∀ w, RdQ w ax lx → RdQ w ay ly → Calls Tryz.prog 12 #[.slice ax i cx, .slice ay ly.length cy] w fun e w' => e = .returned (.bool true) ∧ ∃ n, w' = w.drewN n) := fun h w h1 h2 => by
            have e := hyx h
            subst e
            have := sameQ ax ay cx cy ly w h1 h2 (by rw [HL.out]; omega)
            rw [HL.out] at this ⊢
            exact this.mono fun e w' ⟨h1, n, h2⟩ => ⟨h1, n, h2⟩
          have DN := Lib.hid hdet
          clear hdet hyx hlt hi
          obtain ⟨kn0, kn1, kn2, -, -, -⟩ := KN.out.all
          go_wp2_with (fail)
          refine (DI.out _ OX.out.rdT).mono ?_
          rintro e w8 ⟨rfl, hb⟩
          clear kn0 kn1 kn2
          have OA := Lib.hid (OA.out.keep hb)
          have OB := Lib.hid (OB.out.keep hb)
          have OX := Lib.hid (OX.out.keep hb)
          have K := Lib.hid (K.out.step hb)
          have KN := Lib.hid (KN.out.step hb)
          have X := Lib.hid (X.out.below hb)
          have Y := Lib.hid (Y.out.below hb)
          have B := Lib.hid (B.out.trans (hb.mono B.out.size))
          clear hb
          obtain ⟨k0, k1, k2, -, -, -⟩ := K.out.all
          go_wp2_with (fail)
          refine (IR.out _ OA.out.rdT OB.out.rdT X.out).mono ?_
          rintro e w9 ⟨rfl, hb⟩
          clear k0 k1 k2
          have OX := Lib.hid (OX.out.keep hb)
          have KN := Lib.hid (KN.out.step hb)
          have X := Lib.hid (X.out.below hb)
          have Y := Lib.hid (Y.out.below hb)
          have B := Lib.hid (B.out.trans (hb.mono B.out.size))
          clear hb
          cases fy with
          | false =>
            cases dk with
            | false =>
              have s0 : (s == s) = true := by simp
              obtain ⟨kn0, kn1, kn2, -, -, -⟩ := KN.out.all
              go_wp2_with (fail)
              refine (FM.out _ _ _ OX.out.rdT (TBP.out.below B.out)).mono ?_
              rintro e w11 ⟨rfl, hb⟩
              clear kn0 kn1 kn2
              have B := Lib.hid (B.out.trans (hb.mono B.out.size))
              clear hb
              go_wp2_with (fail)
              go_ret
              exact ⟨rfl, B.out⟩
            | true =>
              have dn : dv ≠ 0 := DN.out rfl
              have n0 : (dv != 0) = true := by simpa using dn
              clear dn
              have s0 : (s == s) = true := by simp
              obtain ⟨kn0, kn1, kn2, -, -, -⟩ := KN.out.all
              go_wp2_with (fail)
              refine (FM.out _ _ _ OX.out.rdT (TBP.out.below B.out)).mono ?_
              rintro e w11 ⟨rfl, hb⟩
              clear kn0 kn1 kn2
              have B := Lib.hid (B.out.trans (hb.mono B.out.size))
              clear hb
              go_wp2_with (fail)
              go_ret
              exact ⟨rfl, B.out⟩
          | true =>
            have SQ2 : Hid (∀ w, RdQ w ax lx → RdQ w ay ly → Calls Tryz.prog 12 #[.slice ax i cx, .slice ay ly.length cy] w fun e w' => e = .returned (.bool true) ∧ ∃ n, w' = w.drewN n) := SQ.out rfl
            clear SQ
            go_wp2_with (fail)
            refine (SQ2.out _ X.out Y.out).mono ?_
            rintro e w10 ⟨rfl, n9, rfl⟩
            have OX := Lib.hid (OX.out.keep (below_drewN (Below.refl _ _) n9))
            have KN := Lib.hid (KN.out.drewN n9)
            have B := Lib.hid (below_drewN B.out n9)
            cases dk with
            | false =>
              have s0 : (s == s) = true := by simp
              obtain ⟨kn0, kn1, kn2, -, -, -⟩ := KN.out.all
              go_wp2_with (fail)
              refine (FM.out _ _ _ OX.out.rdT (TBP.out.below B.out)).mono ?_
              rintro e w11 ⟨rfl, hb⟩
              clear kn0 kn1 kn2
              have B := Lib.hid (B.out.trans (hb.mono B.out.size))
              clear hb
              go_wp2_with (fail)
              go_ret
              exact ⟨rfl, B.out⟩
            | true =>
              have dn : dv ≠ 0 := DN.out rfl
              have n0 : (dv != 0) = true := by simpa using dn
              clear dn
              have s0 : (s == s) = true := by simp
              obtain ⟨kn0, kn1, kn2, -, -, -⟩ := KN.out.all
              go_wp2_with (fail)
              refine (FM.out _ _ _ OX.out.rdT (TBP.out.below B.out)).mono ?_
              rintro e w11 ⟨rfl, hb⟩
              clear kn0 kn1 kn2
              have B := Lib.hid (B.out.trans (hb.mono B.out.size))
              clear hb
              go_wp2_with (fail)
              go_ret
              exact ⟨rfl, B.out⟩
  · have hbig' : 1048576 < len0 := by omega
    clear hbig
    go_enter Tryz.func4, Tryz.ntmps4
    go_wp2_with (fail)
    refine (big_yes w a0 len0 cap0 hbig').mono ?_
    rintro e w1 ⟨rfl, rfl⟩
    go_wp2_with (fail)
    go_ret
    exact ⟨rfl, Below.refl _ _⟩

/-! ### The row's step -/
/-- What the row lists. -/
def tabs : List (String × DataW Unit) := [("math/bits.deBruijn32tab", Rows.laid_math_bits_deBruijn32tab), ("math/bits.deBruijn64tab", Rows.laid_math_bits_deBruijn64tab), ("internal/strconv.uint64pow10", Rows.laid_internal_strconv_uint64pow10), ("unicode/utf8.acceptRanges", Rows.laid_unicode_utf8_acceptRanges), ("errors.errorType", Rows.laid_errors_errorType), ("unicode/utf8.first", Rows.laid_unicode_utf8_first)]
theorem pow_of_laid {W : World} (h0 : laidMetH Tryz.prog tabs W) : Tab W := by
  have h : laidMetH Tryz.prog (tabs.filter fun x => x.1 == "internal/strconv.uint64pow10") W := h0.filter _
  have h : laidMetH Tryz.prog [("internal/strconv.uint64pow10", Rows.laid_internal_strconv_uint64pow10)] W := h
  rw [MakeChecks.laidMetH_plain _ _ _ (by kernel_rfl)] at h
  rw [pow_data] at h
  exact Lib.tabIs_of_head gTab tab_type Tryz.underlying224 Tryz.underlying210 (by kernel_rfl) (by kernel_rfl) h
theorem et_ : Tryz.prog.globalNamed "errors.errorType" = some 0 := by kernel_rfl
theorem rt_ : (Tryz.prog.cutTypes.find? (·.1 == "internal/reflectlite.rtype")).map (·.2) = some 185 := by kernel_rfl
theorem oneRow_ : ((List.range 264).filter fun t => Tryz.prog.rowNamed t [101, 114, 114, 111, 114]) = [93] := by kernel_rfl
theorem size_ : Tryz.prog.types.size = 264 := by kernel_rfl
theorem err_of_laid {W : World} (h0 : laidMetH Tryz.prog tabs W) : TabE W := by
  have h : laidMetH Tryz.prog (tabs.filter fun x => x.1 == "errors.errorType") W := h0.filter _
  have h' : laidMet Tryz.prog [] W ∧ handlesMet Tryz.prog [("errors.errorType", Rows.laid_errors_errorType)] W := h
  obtain ⟨name, u, ty, e1, e2, e3, e4, e5⟩ := h'.2 _ (List.mem_singleton.2 rfl)
  have en : name = [101, 114, 114, 111, 114] := (Option.some.inj e1).symm
  subst en
  obtain rfl := Option.some.inj (rt_.symm.trans e2)
  have hm : ty ∈ (List.range 264).filter fun t => Tryz.prog.rowNamed t [101, 114, 114, 111, 114] := List.mem_filter.2 ⟨List.mem_range.2 (by rw [← size_]; exact e3), e4⟩
  rw [oneRow_] at hm
  obtain rfl := List.mem_singleton.1 hm
  have hh : typeHandle Tryz.prog 93 = .pointer (some ⟨7, 93, none⟩) := by kernel_rfl
  rw [hh] at e5
  have := World.var?_cell et_ e5 0
  unfold TabE
  simpa using this
/-- A world that meets the condition. -/
noncomputable def laidWorld (os : Os) : World :=
  let w0 := World.laidAll Tryz.prog os (tabs.filter fun x => x.2.handleName?.isNone)
  { w0 with heap := w0.heap.modify 0 fun
      | .cells _ t frozen => .cells #[.iface 185 (.agg #[.pointer (some ⟨7, 93, none⟩)])] t frozen
      | o => o }
theorem tab_of_laid {W : World} (h : laidMetH Tryz.prog tabs W) : Tab W ∧ TabE W := ⟨pow_of_laid h, err_of_laid h⟩
set_option maxRecDepth 100000 in
theorem lifted (os : Os) (started : os.Started) (H : Type) (enc : TypeId × Value → H) :
    ReturnsInHanded {} Tryz.checked os 4 .any (fun w args => (Rows.fnCoreSpec.pre enc Tryz.prog Tryz.f4 [] false w args ∧ laidMetH Tryz.prog tabs w) ∧ sizedMet enc Tryz.prog Tryz.f4 (OpenSpec.ofChange Rows.fnCoreSpec) false w args)
      (Rows.fnCoreSpec.post enc Tryz.prog Tryz.f4 false true false false) := by
  refine returnsInHanded_of_change_and (C := Tryz.checked) (X := fun w _ => laidMetH Tryz.prog tabs w) (fun _ _ _ hh h => h.of_heap hh) own started (by kernel_rfl) Tryz.func4
    (ChangeSpec.witness_at (enc := enc) (C := Tryz.checked) (os := os) (X := fun w _ => laidMetH Tryz.prog tabs w) false (laidWorld os) #[.slice none 0 0] 8 rfl (by kernel_rfl) (by kernel_rfl) (by kernel_rfl) (by kernel_rfl) (by kernel_rfl)
      (laidMetH_of_parts (laidMet_of_run' 8 (by kernel_rfl) (by kernel_rfl)) (by kernel_rfl))) ?_
  intro W base args ds gs before hval0 hW _ _ hL _
  have tb := tab_of_laid hL
  have hval : ∀ (j : Nat) t v, Tryz.f4.params[j]? = some t → args[j]? = some v → Value.okWide Tryz.prog W .any base t v := hval0
  have hW' := hW
  obtain ⟨p, q, hA0, hV, rfl, hfz, hnd⟩ := hW
  have hA : DataW.TrodAll enc Tryz.prog W 0 (fun _ => true) true Tryz.f4.params.toList args.toList ds p := hA0
  rw [Tryz.params4] at hA hval
  obtain ⟨v0, vs0, d0, ds0, p0, q0, hargs, rfl, rfl, h0, r0⟩ := trodAll_cons hA
  obtain ⟨rfl, rfl, rfl⟩ := trodAll_nil r0
  obtain rfl : args = #[v0] := by cases args; simp_all
  obtain ⟨rfl, rfl⟩ := trodVars_none hV
  have k0 := h0
  have lt0 : ∀ x ∈ p0, x.block < W.heap.size := by obtain ⟨m, hm⟩ := k0; exact DataW.trod_lt m _ _ _ hm
  obtain ⟨a0, len0, cap0, rfl⟩ := okWide_slice Tryz.underlying22 (hval 0 22 v0 rfl rfl)
  obtain ⟨fuel0, hf0⟩ := h0
  obtain ⟨z0, w0⟩ : ∃ zs, IsRow .u8 W a0 len0 cap0 zs := isRow_of Tryz.underlying22 Tryz.underlying5 (by kernel_rfl) (by simpa [Value.cells] using hf0)
  clear hA0 hval0
  refine (walk a0 len0 cap0 z0 W w0 tb).mono fun e W' ⟨he, bel⟩ => ?_
  subst he
  exact ⟨_, rfl, _, _, _, [], _, [], hW', trodAll_mk1 (shut_bool Tryz.underlying4 _), (trodAll_cons_mk (Below.trod laidOut (by kernel_rfl) (of_decide_eq_true (by kernel_rfl)) k0 bel lt0) trodAll_mk0), rfl, bel.frame _, fun h => by cases h⟩

theorem over : Rows.fnCoreRow.holds Tryz.pinned (OpenSpec.ofChange Rows.fnCoreSpec) :=
  OpenClaim.holds_of_wide 4 Tryz.f4 rfl rfl rfl rfl rfl rfl rfl ⟨rfl, rfl, rfl, rfl, rfl⟩ rfl rfl rfl rfl rfl (by kernel_rfl) Tryz.func4 (by kernel_rfl)
    (of_decide_eq_true (by kernel_rfl)) (by unfold Func.isWrapper; first | (rw [if_pos (by decide +kernel)]; kernel_rfl) | (rw [if_neg (by decide +kernel)]; exact ⟨rfl, rfl⟩))
    (fun os started H enc _ => lifted os started H enc)

/-- THE TIED CARD. -/
theorem proved : Rows.FnCoreCardSaid :=
  Claim7.holds_tied_plain_at .later [] [.data, .data, .data, .data, .handle, .pinned] true (true, "4ab34b3a0f4cd37d6b23f16d655ff7b8bbf254f31dd6992a61f615a2b1f18fb7") true
    over (fun _ h => by cases h) (by kernel_rfl) (fun _ h => by cases h) fnCore_row_tie rfl ⟨rfl, rfl⟩ (by kernel_rfl) rfl
    (fun f fn hf hfn => by
      obtain rfl : f = 4 := Option.some.inj ((show Tryz.prog.funcNamed "loop.example/g03411/laws.FnCore" = some 4 by kernel_rfl).symm.trans hf) |>.symm
      obtain rfl : fn = Tryz.f4 := (Option.some.inj (Tryz.func4.symm.trans hfn)).symm
      exact ⟨by kernel_rfl, fun j t ht => by
        rw [Tryz.params4] at ht
        have hm : t ∈ [22] := by simpa using Array.mem_of_getElem? ht
        have hall : ([22].all fun u => !Tryz.prog.wantsStandIn u) = true := by kernel_rfl
        exact (show Tryz.prog.wantsStandIn t = false by simpa using List.all_eq_true.1 hall t hm)⟩)
    (by kernel_rfl)
#print axioms proved
end Go.Proofs.YtcapddcmnjeloaaGreatDoor.fnCore
