/-
  Proved: for every code, the law FnTexts returns true: the matrix and the ratio that are drawn from it are read back from their texts, and whatever text is read is the text of what is read.
  Conditions: none beyond the row's own (the arguments read as data; the library's tables read as the program's text lays them, which the card ties).
-/
import Derived.Test.YtihgcccdahmmmaaDoorRows
import Derived.Test.YtihgcccdahmmmaaDoorLaid
import Derived.Test.YtihgcccdahmmmaaDoorTie
import Derived.Test.YtihgcccdahmmmaaDoorCards
import Derived.SevenTiedAt
import Derived.Lay
import Derived.LaidMore
import Derived.ChangeOld
import Derived.Below
import Derived.Test.YtihgcccdahmmmaaDoorCode
import Derived.Test.YtihgcccdahmmmaaDoorMem
import Derived.Test.YtihgcccdahmmmaaDoorDrawF
import Derived.Test.YtihgcccdahmmmaaDoorDrawPM
import Derived.Test.YtihgcccdahmmmaaDoorFmtMJ
import Derived.Test.YtihgcccdahmmmaaDoorFmtRI
import Derived.Test.YtihgcccdahmmmaaDoorReadR
import Derived.Test.YtihgcccdahmmmaaDoorReadM
import Derived.Test.YtihgcccdahmmmaaDoorSame
import Derived.Deep.RegionHeld3
import Derived.Deep.DeepCutAuto
import Derived.WalkKit
import Derived.ProofKit
import Derived.OpenShut
import Derived.ShutString
import Derived.Carry
import Derived.Lib.SmallJoins
namespace Go.Proofs.YtihgcccdahmmmaaDoor.fnTexts
open Go.ChangeShapes Go.WideShapes Go.ChangeAt Go.RowKit
open Go.ChangeMaps (open_string shut_string)
set_option linter.unusedVariables false


/-- What the walk is told of a slice of integers that came in: it is nil; or it leads to a row of 'cap' cells, the numbers 'zs' (the first 'len' are its elements), each fitting its kind. -/
def IsRow (k : IntKind) (w : World) (a : Option Addr) (len cap : Nat) (zs : List Int) : Prop :=
  (a = none ∧ len = 0 ∧ cap = 0 ∧ zs = []) ∨
  ∃ x, a = some x ∧ len ≤ cap ∧ cap ≤ maxLen ∧ zs.length = cap ∧ (∀ i, i < zs.length → w.cell? (x.add i) = some (.int k (zs.getD i 0))) ∧ ∀ n ∈ zs, (Lit.int k n).wf = true
theorem isRow_of {H : Type} {enc : TypeId × Value → H} {P : Program} {W : World} {base : Nat} {held : Bool} {t e : TypeId} {k : IntKind} {a : Option Addr} {len cap fuel : Nat} {x : DataW H × List MemPlace}
    (ht : P.underlying t = some (.slice e)) (he : P.underlying e = some (.int k)) (hc : P.cellsOf e = 1) (hf : DataW.trod enc P W base (fun _ => true) held fuel t [.slice a len cap] = some x) : ∃ zs, IsRow k W a len cap zs := by
  rcases open_ints ht he hc hf with ⟨hcs, _⟩ | ⟨x, l, c, zs, hcs, _, hl, hm, hz, _, hcell, hwz⟩
  · simp at hcs
    obtain ⟨rfl, rfl, rfl⟩ := hcs
    exact ⟨[], .inl ⟨rfl, rfl, rfl, rfl⟩⟩
  · simp at hcs
    obtain ⟨rfl, rfl, rfl⟩ := hcs
    exact ⟨zs, .inr ⟨_, rfl, hl, hm, by simpa using hz, hcell, hwz⟩⟩
theorem _root_.Go.Proofs.YtihgcccdahmmmaaDoor.Own.oldT {B : Nat} {w : World} {v : Value} {zs : List Int} (h : Own B w v zs) (o : Obj) : Own B (w.alloc o) v zs := h.keep ((Below.refl _ _).alloc (Nat.le_refl _) o)
theorem _root_.Go.Proofs.YtihgcccdahmmmaaDoor.Own.rdT {B : Nat} {w : World} {a : Option Addr} {n cap : Nat} {zs : List Int} (h : Own B w (.slice a n cap) zs) : Rd w a zs := by
  obtain ⟨a', c', e, hr, -⟩ := h.form
  injection e with e1 e2 e3
  rw [e1]; exact hr
theorem codeIn_of_row {w : World} {a : Option Addr} {len cap : Nat} {zs : List Int} (h : IsRow .u8 w a len cap zs) : CodeIn w a len := by
  rcases h with ⟨rfl, rfl, rfl, rfl⟩ | ⟨x, rfl, hl, hm, hz, hcell, hwf⟩
  · exact codeIn_none w
  · exact codeIn_some hl hm hz hcell hwf
theorem parM_fmt {r c : Int} {xs : List Int} (h : isMat r c xs = true) : parM (fmtM r c xs) = ⟨true, r, c, xs⟩ := by
  obtain ⟨⟨r1, r2⟩, ⟨c1, c2⟩, -, -⟩ := isMat_says h
  obtain ⟨R, rfl⟩ := Int.eq_ofNat_of_zero_le r1
  obtain ⟨C, rfl⟩ := Int.eq_ofNat_of_zero_le c1
  have e : fmtM R C xs = matText R C xs := by unfold fmtM; rw [if_pos h]; rfl
  rw [e]
  exact parM_text h
theorem says_nil : ¬ SaysM [] := by
  intro h
  have h1 := h.1
  rw [pcsM_nil] at h1
  exact absurd h1 (by decide)
theorem ratText_none (n d : Int) (h : isRat n d = true) : ratText n d ≠ [110, 111, 110, 101] := by
  intro e
  have hd : ∃ t, ratText n d = Lib.itoa n ++ t := by
    unfold ratText
    rw [if_pos h]
    split
    · exact ⟨[], by simp⟩
    · exact ⟨[47] ++ Lib.itoa d, by simp⟩
  obtain ⟨t, ht⟩ := hd
  rw [ht] at e
  cases hi : Lib.itoa n with
  | nil => exact itoa_ne_nil n hi
  | cons c s =>
    rw [hi] at e
    injection e with e1 _
    have := itoa_byte n c (by rw [hi]; simp)
    rw [e1] at this
    revert this
    decide
theorem parR_none {p q : Int} (h : isRat p q = false) : parR (ratText p q) = ((0, 0), false) := by
  have e : ratText p q = [110, 111, 110, 101] := by unfold ratText; rw [if_neg (by rw [h]; decide)]
  rw [e]
  exact parR_no fun n d h1 h2 => ratText_none n d h1 h2
theorem ratText_len (p q : Int) : (ratText p q).length ≤ 16777216 := by
  unfold ratText
  split
  · rename_i h
    obtain ⟨d1, d2, n1, n2, -⟩ : IsRatP p q := of_decide_eq_true h
    have a := itoa_len10 p n1 n2
    have b := itoa_len10 q (by omega) d2
    split
    · omega
    · simp only [List.length_append, List.length_cons, List.length_nil]; omega
  · simp
set_option maxRecDepth 100000 in
set_option maxHeartbeats 4000000 in

theorem walk (a0 : Option Addr) (len0 cap0 : Nat) (z0 : List Int) (w : World) (w0 : IsRow .u8 w a0 len0 cap0 z0) (tb : Tab w) :
    Calls Tryd.prog 3 #[.slice a0 len0 cap0] w fun e w' => e = .returned (.bool true) ∧ Below w.heap.size w w' := by
  have hc : CodeIn w a0 len0 := codeIn_of_row w0
  have hl := hc.1
  have HC := Lib.hid hc
  have TB := Lib.hid tb
  clear w0 hc tb
  unfold maxLen at hl
  by_cases hbig : len0 ≤ 1048576
  · go_enter Tryd.func3, Tryd.ntmps3
    go_wp2_with (fail)
    refine (big_no w a0 len0 cap0 hbig).mono ?_
    rintro e w1 ⟨rfl, rfl⟩
    go_wp2_with (fail)
    refine (drawFM w a0 len0 cap0 HC.out).mono ?_
    rintro e w1 ⟨r, c, v, xs, rfl, o1, l1, hb⟩
    obtain ⟨q1, qc1, rfl, -, -⟩ := o1.form
    have B := Lib.hid hb
    have OA := Lib.hid (o1.le (Nat.zero_le _))
    have n1 : xs.length ≤ 16777216 := by omega
    have fl := fmtM_len r c xs
    clear hb o1
    have HC := Lib.hid HC.out
    obtain ⟨s, hs⟩ : ∃ s, fmtM r c xs = s := ⟨_, rfl⟩
    have FM : Hid (∀ (q : Option Addr) (qc : Nat) (w : World), Rd w q xs → Tab w → Calls Tryd.prog 11 #[.agg #[.int .i64 r, .int .i64 c, .slice q xs.length qc]] w (Gives (.string ⟨s.toArray⟩) w)) := Lib.hid (fun q qc w h tb => by
      rw [← hs]; exact iFormatMatrix r c q qc xs w h n1 tb)
    have IM : Hid (∀ (q : Option Addr) (qc : Nat) (w : World), Rd w q xs → Calls Tryd.prog 13 #[.agg #[.int .i64 r, .int .i64 c, .slice q xs.length qc]] w (Gives (.bool (isMat r c xs)) w)) := Lib.hid (fun q qc w h => sIsMat r c q qc xs w h n1)
    rcases Bool.eq_false_or_eq_true (isMat r c xs) with hm | hm
    · have PM : Hid (∀ w, Tab w → Calls Tryd.prog 12 #[.string ⟨s.toArray⟩] w (MatRes ⟨true, r, c, xs⟩ w)) := Lib.hid (fun w tb => by
        rw [← parM_fmt hm, hs]; exact iParseMatrix s w (by rw [← hs]; omega) tb)
      have SM : Hid (∀ (q q' : Option Addr) (qc qc' : Nat) (w : World), Rd w q xs → Rd w q' xs → Calls Tryd.prog 14 #[.agg #[.int .i64 r, .int .i64 c, .slice q xs.length qc], .agg #[.int .i64 r, .int .i64 c, .slice q' xs.length qc']] w (Gives (.bool true) w)) := Lib.hid (fun q q' qc qc' w h h' => by
        have := iSame r c r c q q' qc qc' xs xs w h h' n1 n1
        rw [show sameM r c xs r c xs = true from decide_eq_true ⟨rfl, rfl, rfl⟩] at this
        exact this)
      rw [hm] at IM
      clear hs hm n1 fl l1
      go_wp2_with (fail)
      refine (FM.out _ _ _ (OA.out.oldT _).rdT (TB.out.below (B.out.alloc B.out.size _))).mono ?_
      rintro e w2 ⟨rfl, hb⟩
      have KA : Hid (Blk3 w2 w1.heap.size 26 (.int .i64 r) (.int .i64 c) (.slice q1 xs.length qc1)) := (Blk3.at_ _ _ _ _ rfl).keep hb (by simp)
      have OA := Lib.hid ((OA.out.oldT _).keep hb)
      have B := Lib.hid (stepB (B.out.alloc B.out.size _) hb)
      clear hb
      go_wp2_with (fail)
      refine (PM.out _ (TB.out.below B.out)).mono ?_
      rintro e w3 ⟨vX, rfl, own, hb⟩
      dsimp only at own ⊢
      obtain ⟨qX, qcX, rfl, -, -⟩ := own.form
      have OX := Lib.hid ((own.le (Nat.zero_le _)).oldT (.cells #[.int .i64 r, .int .i64 c, .slice qX xs.length qcX] 26))
      have OA := Lib.hid ((OA.out.keep hb).oldT (.cells #[.int .i64 r, .int .i64 c, .slice qX xs.length qcX] 26))
      have KA := Lib.hid (KA.out.keep hb KA.out.lt)
      have B := Lib.hid (stepB B.out hb)
      obtain ⟨a0', a1', a2', -, -, -⟩ := KA.out.all
      have al := KA.out.lt
      clear hb own
      go_wp2_with (fail)
      refine (IM.out _ _ _ OA.out.rdT).mono ?_
      rintro e w4 ⟨rfl, hb⟩
      have KX : Hid (Blk3 w4 w3.heap.size 26 (.int .i64 r) (.int .i64 c) (.slice qX xs.length qcX)) := (Blk3.at_ _ _ _ _ rfl).keep hb (by simp)
      have KA := Lib.hid ((KA.out.old _).keep hb (KA.out.old _).lt)
      have OX := Lib.hid (OX.out.keep hb)
      have OA := Lib.hid (OA.out.keep hb)
      have B := Lib.hid (stepB (B.out.alloc B.out.size _) hb)
      clear hb a0' a1' a2' al
      obtain ⟨a0', a1', a2', -, -, -⟩ := KA.out.all
      obtain ⟨x0, x1, x2, -, -, -⟩ := KX.out.all
      go_wp2_with (fail)
      refine (SM.out _ _ _ _ _ OX.out.rdT OA.out.rdT).mono ?_
      rintro e w5 ⟨rfl, hb⟩
      have B := Lib.hid (stepB B.out hb)
      clear hb a0' a1' a2' x0 x1 x2 KA KX OX OA PM SM FM IM
      go_wp2_with (fail)
      refine (drawPM _ a0 len0 cap0 (HC.out.below B.out)).mono ?_
      rintro e w6 ⟨t, tl, rfl, hb⟩
      have B := Lib.hid (stepB B.out hb)
      clear hb
      by_cases hy : SaysM t
      · have F := hy.2.2
        have E := parM_yes hy
        have n2 : (allT t).length ≤ 16777216 := by
          obtain ⟨⟨x1, x2⟩, ⟨x3, x4⟩, x5, -⟩ := isMat_says (parM_says hy).1
          have := (mul_size _ _ ⟨x1, x2⟩ ⟨x3, x4⟩).2
          omega
        obtain ⟨r2, hr2⟩ : ∃ x, rowsT t = x := ⟨_, rfl⟩
        obtain ⟨c2, hc2⟩ : ∃ x, colsT t = x := ⟨_, rfl⟩
        obtain ⟨ys, hys⟩ : ∃ x, allT t = x := ⟨_, rfl⟩
        rw [hr2, hc2, hys] at F E
        rw [hys] at n2
        have PM : Hid (∀ w, Tab w → Calls Tryd.prog 12 #[.string ⟨t.toArray⟩] w (MatRes ⟨true, r2, c2, ys⟩ w)) := Lib.hid (fun w tb => by
          rw [← E]; exact iParseMatrix t w (by omega) tb)
        have FM : Hid (∀ (q : Option Addr) (qc : Nat) (w : World), Rd w q ys → Tab w → Calls Tryd.prog 11 #[.agg #[.int .i64 r2, .int .i64 c2, .slice q ys.length qc]] w (Gives (.string ⟨t.toArray⟩) w)) := Lib.hid (fun q qc w h tb => by
          have := iFormatMatrix r2 c2 q qc ys w h n2 tb
          rw [F] at this
          exact this)
        clear F E hr2 hc2 hys hy n2 tl
        go_wp2_with (fail)
        refine (PM.out _ (TB.out.below B.out)).mono ?_
        rintro e w7 ⟨vY, rfl, own, hb⟩
        dsimp only at own ⊢
        obtain ⟨qY, qcY, rfl, -, -⟩ := own.form
        have OY := Lib.hid (own.le (Nat.zero_le _))
        have B := Lib.hid (stepB B.out hb)
        clear hb own
        go_wp2_with (fail)
        refine (FM.out qY qcY _ (OY.out.oldT _).rdT (TB.out.below (B.out.alloc B.out.size _))).mono ?_
        rintro e w7b ⟨rfl, hb⟩
        have B := Lib.hid (stepB (B.out.alloc B.out.size _) hb)
        clear hb PM FM OY
        have ne0 : (t != t) = false := by simp
        go_wp2_with (fail)
        refine (drawFR _ a0 len0 cap0 (HC.out.below B.out)).mono ?_
        rintro e w8 ⟨p, q, rfl, hb⟩
        have B := Lib.hid (stepB B.out hb)
        clear hb
        have RL := ratText_len p q
        rcases Bool.eq_false_or_eq_true (isRat p q) with hr | hr
        · have E := Lib.hid (parR_text hr)
          have q1 : ∀ w : World, (Op.equalIn 10000 35 (.agg #[.int .i64 p, .int .i64 q]) (.agg #[.int .i64 p, .int .i64 q])).run Tryd.prog w = .ok true w := fun w => by rw [eqRat]; simp
          have IR := Lib.hid (fun w => sIsRat p q w)
          rw [hr] at IR
          obtain ⟨s, hs⟩ : ∃ s, ratText p q = s := ⟨_, rfl⟩
          rw [hs] at RL E
          have FR : Hid (∀ w, Tab w → Calls Tryd.prog 18 #[.agg #[.int .i64 p, .int .i64 q]] w (Gives (.string ⟨s.toArray⟩) w)) := Lib.hid (fun w tb => by rw [← hs]; exact iFormatRatio p q w tb)
          have PR : Hid (∀ w, Tab w → Calls Tryd.prog 17 #[.string ⟨s.toArray⟩] w (Gives (.tuple #[.agg #[.int .i64 p, .int .i64 q], .bool true]) w)) := Lib.hid (fun w tb => by
            have := iParseRatio s w RL tb
            rw [E.out] at this
            exact this)
          clear hs hr RL
          go_wp2_with (fail)
          refine (FR.out _ (TB.out.below (B.out.alloc B.out.size _))).mono ?_
          rintro e w9 ⟨rfl, hb⟩
          have KR : Hid (Blk2 w9 w8.heap.size 35 (.int .i64 p) (.int .i64 q)) := (Blk2.at_ _ _ _ rfl).keep hb (by simp)
          have B := Lib.hid (stepB (B.out.alloc B.out.size _) hb)
          clear hb
          go_wp2_with (fail)
          refine (PR.out _ (TB.out.below B.out)).mono ?_
          rintro e w10 ⟨rfl, hb⟩
          have KR := Lib.hid (KR.out.keep hb KR.out.lt)
          have B := Lib.hid (stepB B.out hb)
          clear hb
          obtain ⟨r0, r1, -, -⟩ := KR.out.all
          have rl := KR.out.lt
          go_wp2_with (fail)
          refine (IR.out _).mono ?_
          rintro e w11 ⟨rfl, hb⟩
          have KZ : Hid (Blk2 w11 w10.heap.size 35 (.int .i64 p) (.int .i64 q)) := (Blk2.at_ _ _ _ rfl).keep hb (by simp)
          have KR := Lib.hid ((KR.out.old _).keep hb (KR.out.old _).lt)
          have B := Lib.hid (stepB (B.out.alloc B.out.size _) hb)
          clear hb r0 r1 rl
          obtain ⟨r0, r1, -, -⟩ := KR.out.all
          obtain ⟨z0, z1, -, -⟩ := KZ.out.all
          go_wp2_with (fail)
          go_ret
          exact ⟨rfl, B.out⟩
        · have E := Lib.hid (parR_none hr)
          have IR := Lib.hid (fun w => sIsRat p q w)
          rw [hr] at IR
          obtain ⟨s, hs⟩ : ∃ s, ratText p q = s := ⟨_, rfl⟩
          rw [hs] at RL E
          have FR : Hid (∀ w, Tab w → Calls Tryd.prog 18 #[.agg #[.int .i64 p, .int .i64 q]] w (Gives (.string ⟨s.toArray⟩) w)) := Lib.hid (fun w tb => by rw [← hs]; exact iFormatRatio p q w tb)
          have PR : Hid (∀ w, Tab w → Calls Tryd.prog 17 #[.string ⟨s.toArray⟩] w (Gives (.tuple #[.agg #[.int .i64 0, .int .i64 0], .bool false]) w)) := Lib.hid (fun w tb => by
            have := iParseRatio s w RL tb
            rw [E.out] at this
            exact this)
          clear hs hr RL
          go_wp2_with (fail)
          refine (FR.out _ (TB.out.below (B.out.alloc B.out.size _))).mono ?_
          rintro e w9 ⟨rfl, hb⟩
          have KR : Hid (Blk2 w9 w8.heap.size 35 (.int .i64 p) (.int .i64 q)) := (Blk2.at_ _ _ _ rfl).keep hb (by simp)
          have B := Lib.hid (stepB (B.out.alloc B.out.size _) hb)
          clear hb
          go_wp2_with (fail)
          refine (PR.out _ (TB.out.below B.out)).mono ?_
          rintro e w10 ⟨rfl, hb⟩
          have KR := Lib.hid (KR.out.keep hb KR.out.lt)
          have B := Lib.hid (stepB B.out hb)
          clear hb
          obtain ⟨r0, r1, -, -⟩ := KR.out.all
          have rl := KR.out.lt
          go_wp2_with (fail)
          refine (IR.out _).mono ?_
          rintro e w11 ⟨rfl, hb⟩
          have KZ : Hid (Blk2 w11 w10.heap.size 35 (.int .i64 0) (.int .i64 0)) := (Blk2.at_ _ _ _ rfl).keep hb (by simp)
          have KR := Lib.hid ((KR.out.old _).keep hb (KR.out.old _).lt)
          have B := Lib.hid (stepB (B.out.alloc B.out.size _) hb)
          clear hb r0 r1 rl
          go_wp2_with (fail)
          go_ret
          exact ⟨rfl, B.out⟩
      · have PM : Hid (∀ w, Tab w → Calls Tryd.prog 12 #[.string ⟨t.toArray⟩] w (MatRes MR.no w)) := Lib.hid (fun w tb => by
          rw [← parM_no hy]; exact iParseMatrix t w (by omega) tb)
        clear hy tl
        go_wp2_with (fail)
        refine (PM.out _ (TB.out.below B.out)).mono ?_
        rintro e w7 ⟨vY, rfl, own, hb⟩
        obtain ⟨qY, qcY, rfl, -, -⟩ := own.form
        dsimp only [MR.no] at own ⊢
        have B := Lib.hid (stepB B.out hb)
        have B := Lib.hid (B.out.alloc B.out.size (.cells #[.int .i64 0, .int .i64 0, .slice qY ([] : List Int).length qcY] 26))
        clear hb own PM
        go_wp2_with (fail)
        refine (drawFR _ a0 len0 cap0 (HC.out.below B.out)).mono ?_
        rintro e w8 ⟨p, q, rfl, hb⟩
        have B := Lib.hid (stepB B.out hb)
        clear hb
        have RL := ratText_len p q
        rcases Bool.eq_false_or_eq_true (isRat p q) with hr | hr
        · have E := Lib.hid (parR_text hr)
          have q1 : ∀ w : World, (Op.equalIn 10000 35 (.agg #[.int .i64 p, .int .i64 q]) (.agg #[.int .i64 p, .int .i64 q])).run Tryd.prog w = .ok true w := fun w => by rw [eqRat]; simp
          have IR := Lib.hid (fun w => sIsRat p q w)
          rw [hr] at IR
          obtain ⟨s, hs⟩ : ∃ s, ratText p q = s := ⟨_, rfl⟩
          rw [hs] at RL E
          have FR : Hid (∀ w, Tab w → Calls Tryd.prog 18 #[.agg #[.int .i64 p, .int .i64 q]] w (Gives (.string ⟨s.toArray⟩) w)) := Lib.hid (fun w tb => by rw [← hs]; exact iFormatRatio p q w tb)
          have PR : Hid (∀ w, Tab w → Calls Tryd.prog 17 #[.string ⟨s.toArray⟩] w (Gives (.tuple #[.agg #[.int .i64 p, .int .i64 q], .bool true]) w)) := Lib.hid (fun w tb => by
            have := iParseRatio s w RL tb
            rw [E.out] at this
            exact this)
          clear hs hr RL
          go_wp2_with (fail)
          refine (FR.out _ (TB.out.below (B.out.alloc B.out.size _))).mono ?_
          rintro e w9 ⟨rfl, hb⟩
          have KR : Hid (Blk2 w9 w8.heap.size 35 (.int .i64 p) (.int .i64 q)) := (Blk2.at_ _ _ _ rfl).keep hb (by simp)
          have B := Lib.hid (stepB (B.out.alloc B.out.size _) hb)
          clear hb
          go_wp2_with (fail)
          refine (PR.out _ (TB.out.below B.out)).mono ?_
          rintro e w10 ⟨rfl, hb⟩
          have KR := Lib.hid (KR.out.keep hb KR.out.lt)
          have B := Lib.hid (stepB B.out hb)
          clear hb
          obtain ⟨r0, r1, -, -⟩ := KR.out.all
          have rl := KR.out.lt
          go_wp2_with (fail)
          refine (IR.out _).mono ?_
          rintro e w11 ⟨rfl, hb⟩
          have KZ : Hid (Blk2 w11 w10.heap.size 35 (.int .i64 p) (.int .i64 q)) := (Blk2.at_ _ _ _ rfl).keep hb (by simp)
          have KR := Lib.hid ((KR.out.old _).keep hb (KR.out.old _).lt)
          have B := Lib.hid (stepB (B.out.alloc B.out.size _) hb)
          clear hb r0 r1 rl
          obtain ⟨r0, r1, -, -⟩ := KR.out.all
          obtain ⟨z0, z1, -, -⟩ := KZ.out.all
          go_wp2_with (fail)
          go_ret
          exact ⟨rfl, B.out⟩
        · have E := Lib.hid (parR_none hr)
          have IR := Lib.hid (fun w => sIsRat p q w)
          rw [hr] at IR
          obtain ⟨s, hs⟩ : ∃ s, ratText p q = s := ⟨_, rfl⟩
          rw [hs] at RL E
          have FR : Hid (∀ w, Tab w → Calls Tryd.prog 18 #[.agg #[.int .i64 p, .int .i64 q]] w (Gives (.string ⟨s.toArray⟩) w)) := Lib.hid (fun w tb => by rw [← hs]; exact iFormatRatio p q w tb)
          have PR : Hid (∀ w, Tab w → Calls Tryd.prog 17 #[.string ⟨s.toArray⟩] w (Gives (.tuple #[.agg #[.int .i64 0, .int .i64 0], .bool false]) w)) := Lib.hid (fun w tb => by
            have := iParseRatio s w RL tb
            rw [E.out] at this
            exact this)
          clear hs hr RL
          go_wp2_with (fail)
          refine (FR.out _ (TB.out.below (B.out.alloc B.out.size _))).mono ?_
          rintro e w9 ⟨rfl, hb⟩
          have KR : Hid (Blk2 w9 w8.heap.size 35 (.int .i64 p) (.int .i64 q)) := (Blk2.at_ _ _ _ rfl).keep hb (by simp)
          have B := Lib.hid (stepB (B.out.alloc B.out.size _) hb)
          clear hb
          go_wp2_with (fail)
          refine (PR.out _ (TB.out.below B.out)).mono ?_
          rintro e w10 ⟨rfl, hb⟩
          have KR := Lib.hid (KR.out.keep hb KR.out.lt)
          have B := Lib.hid (stepB B.out hb)
          clear hb
          obtain ⟨r0, r1, -, -⟩ := KR.out.all
          have rl := KR.out.lt
          go_wp2_with (fail)
          refine (IR.out _).mono ?_
          rintro e w11 ⟨rfl, hb⟩
          have KZ : Hid (Blk2 w11 w10.heap.size 35 (.int .i64 0) (.int .i64 0)) := (Blk2.at_ _ _ _ rfl).keep hb (by simp)
          have KR := Lib.hid ((KR.out.old _).keep hb (KR.out.old _).lt)
          have B := Lib.hid (stepB (B.out.alloc B.out.size _) hb)
          clear hb r0 r1 rl
          go_wp2_with (fail)
          go_ret
          exact ⟨rfl, B.out⟩
    · have hs0 : s = [] := by rw [← hs]; unfold fmtM; rw [if_neg (by rw [hm]; decide)]
      subst hs0
      have PM : Hid (∀ w, Tab w → Calls Tryd.prog 12 #[.string ⟨([] : List UInt8).toArray⟩] w (MatRes MR.no w)) := Lib.hid (fun w tb => by
        rw [← parM_no says_nil]; exact iParseMatrix [] w (by simp) tb)
      rw [hm] at IM
      clear hs hm n1 fl l1
      go_wp2_with (fail)
      refine (FM.out _ _ _ (OA.out.oldT _).rdT (TB.out.below (B.out.alloc B.out.size _))).mono ?_
      rintro e w2 ⟨rfl, hb⟩
      have KA : Hid (Blk3 w2 w1.heap.size 26 (.int .i64 r) (.int .i64 c) (.slice q1 xs.length qc1)) := (Blk3.at_ _ _ _ _ rfl).keep hb (by simp)
      have OA := Lib.hid ((OA.out.oldT _).keep hb)
      have B := Lib.hid (stepB (B.out.alloc B.out.size _) hb)
      clear hb
      go_wp2_with (fail)
      refine (PM.out _ (TB.out.below B.out)).mono ?_
      rintro e w3 ⟨vX, rfl, own, hb⟩
      obtain ⟨qX, qcX, rfl, -, -⟩ := own.form
      dsimp only [MR.no] at own ⊢
      have OA := Lib.hid ((OA.out.keep hb).oldT (.cells #[.int .i64 0, .int .i64 0, .slice qX ([] : List Int).length qcX] 26))
      have KA := Lib.hid (KA.out.keep hb KA.out.lt)
      have B := Lib.hid (stepB B.out hb)
      obtain ⟨a0', a1', a2', -, -, -⟩ := KA.out.all
      have al := KA.out.lt
      clear hb own
      go_wp2_with (fail)
      refine (IM.out _ _ _ OA.out.rdT).mono ?_
      rintro e w4 ⟨rfl, hb⟩
      have B := Lib.hid (stepB (B.out.alloc B.out.size _) hb)
      clear hb a0' a1' a2' al KA OA PM FM IM
      go_wp2_with (fail)
      refine (drawPM _ a0 len0 cap0 (HC.out.below B.out)).mono ?_
      rintro e w6 ⟨t, tl, rfl, hb⟩
      have B := Lib.hid (stepB B.out hb)
      clear hb
      by_cases hy : SaysM t
      · have F := hy.2.2
        have E := parM_yes hy
        have n2 : (allT t).length ≤ 16777216 := by
          obtain ⟨⟨x1, x2⟩, ⟨x3, x4⟩, x5, -⟩ := isMat_says (parM_says hy).1
          have := (mul_size _ _ ⟨x1, x2⟩ ⟨x3, x4⟩).2
          omega
        obtain ⟨r2, hr2⟩ : ∃ x, rowsT t = x := ⟨_, rfl⟩
        obtain ⟨c2, hc2⟩ : ∃ x, colsT t = x := ⟨_, rfl⟩
        obtain ⟨ys, hys⟩ : ∃ x, allT t = x := ⟨_, rfl⟩
        rw [hr2, hc2, hys] at F E
        rw [hys] at n2
        have PM : Hid (∀ w, Tab w → Calls Tryd.prog 12 #[.string ⟨t.toArray⟩] w (MatRes ⟨true, r2, c2, ys⟩ w)) := Lib.hid (fun w tb => by
          rw [← E]; exact iParseMatrix t w (by omega) tb)
        have FM : Hid (∀ (q : Option Addr) (qc : Nat) (w : World), Rd w q ys → Tab w → Calls Tryd.prog 11 #[.agg #[.int .i64 r2, .int .i64 c2, .slice q ys.length qc]] w (Gives (.string ⟨t.toArray⟩) w)) := Lib.hid (fun q qc w h tb => by
          have := iFormatMatrix r2 c2 q qc ys w h n2 tb
          rw [F] at this
          exact this)
        clear F E hr2 hc2 hys hy n2 tl
        go_wp2_with (fail)
        refine (PM.out _ (TB.out.below B.out)).mono ?_
        rintro e w7 ⟨vY, rfl, own, hb⟩
        dsimp only at own ⊢
        obtain ⟨qY, qcY, rfl, -, -⟩ := own.form
        have OY := Lib.hid (own.le (Nat.zero_le _))
        have B := Lib.hid (stepB B.out hb)
        clear hb own
        go_wp2_with (fail)
        refine (FM.out qY qcY _ (OY.out.oldT _).rdT (TB.out.below (B.out.alloc B.out.size _))).mono ?_
        rintro e w7b ⟨rfl, hb⟩
        have B := Lib.hid (stepB (B.out.alloc B.out.size _) hb)
        clear hb PM FM OY
        have ne0 : (t != t) = false := by simp
        go_wp2_with (fail)
        refine (drawFR _ a0 len0 cap0 (HC.out.below B.out)).mono ?_
        rintro e w8 ⟨p, q, rfl, hb⟩
        have B := Lib.hid (stepB B.out hb)
        clear hb
        have RL := ratText_len p q
        rcases Bool.eq_false_or_eq_true (isRat p q) with hr | hr
        · have E := Lib.hid (parR_text hr)
          have q1 : ∀ w : World, (Op.equalIn 10000 35 (.agg #[.int .i64 p, .int .i64 q]) (.agg #[.int .i64 p, .int .i64 q])).run Tryd.prog w = .ok true w := fun w => by rw [eqRat]; simp
          have IR := Lib.hid (fun w => sIsRat p q w)
          rw [hr] at IR
          obtain ⟨s, hs⟩ : ∃ s, ratText p q = s := ⟨_, rfl⟩
          rw [hs] at RL E
          have FR : Hid (∀ w, Tab w → Calls Tryd.prog 18 #[.agg #[.int .i64 p, .int .i64 q]] w (Gives (.string ⟨s.toArray⟩) w)) := Lib.hid (fun w tb => by rw [← hs]; exact iFormatRatio p q w tb)
          have PR : Hid (∀ w, Tab w → Calls Tryd.prog 17 #[.string ⟨s.toArray⟩] w (Gives (.tuple #[.agg #[.int .i64 p, .int .i64 q], .bool true]) w)) := Lib.hid (fun w tb => by
            have := iParseRatio s w RL tb
            rw [E.out] at this
            exact this)
          clear hs hr RL
          go_wp2_with (fail)
          refine (FR.out _ (TB.out.below (B.out.alloc B.out.size _))).mono ?_
          rintro e w9 ⟨rfl, hb⟩
          have KR : Hid (Blk2 w9 w8.heap.size 35 (.int .i64 p) (.int .i64 q)) := (Blk2.at_ _ _ _ rfl).keep hb (by simp)
          have B := Lib.hid (stepB (B.out.alloc B.out.size _) hb)
          clear hb
          go_wp2_with (fail)
          refine (PR.out _ (TB.out.below B.out)).mono ?_
          rintro e w10 ⟨rfl, hb⟩
          have KR := Lib.hid (KR.out.keep hb KR.out.lt)
          have B := Lib.hid (stepB B.out hb)
          clear hb
          obtain ⟨r0, r1, -, -⟩ := KR.out.all
          have rl := KR.out.lt
          go_wp2_with (fail)
          refine (IR.out _).mono ?_
          rintro e w11 ⟨rfl, hb⟩
          have KZ : Hid (Blk2 w11 w10.heap.size 35 (.int .i64 p) (.int .i64 q)) := (Blk2.at_ _ _ _ rfl).keep hb (by simp)
          have KR := Lib.hid ((KR.out.old _).keep hb (KR.out.old _).lt)
          have B := Lib.hid (stepB (B.out.alloc B.out.size _) hb)
          clear hb r0 r1 rl
          obtain ⟨r0, r1, -, -⟩ := KR.out.all
          obtain ⟨z0, z1, -, -⟩ := KZ.out.all
          go_wp2_with (fail)
          go_ret
          exact ⟨rfl, B.out⟩
        · have E := Lib.hid (parR_none hr)
          have IR := Lib.hid (fun w => sIsRat p q w)
          rw [hr] at IR
          obtain ⟨s, hs⟩ : ∃ s, ratText p q = s := ⟨_, rfl⟩
          rw [hs] at RL E
          have FR : Hid (∀ w, Tab w → Calls Tryd.prog 18 #[.agg #[.int .i64 p, .int .i64 q]] w (Gives (.string ⟨s.toArray⟩) w)) := Lib.hid (fun w tb => by rw [← hs]; exact iFormatRatio p q w tb)
          have PR : Hid (∀ w, Tab w → Calls Tryd.prog 17 #[.string ⟨s.toArray⟩] w (Gives (.tuple #[.agg #[.int .i64 0, .int .i64 0], .bool false]) w)) := Lib.hid (fun w tb => by
            have := iParseRatio s w RL tb
            rw [E.out] at this
            exact this)
          clear hs hr RL
          go_wp2_with (fail)
          refine (FR.out _ (TB.out.below (B.out.alloc B.out.size _))).mono ?_
          rintro e w9 ⟨rfl, hb⟩
          have KR : Hid (Blk2 w9 w8.heap.size 35 (.int .i64 p) (.int .i64 q)) := (Blk2.at_ _ _ _ rfl).keep hb (by simp)
          have B := Lib.hid (stepB (B.out.alloc B.out.size _) hb)
          clear hb
          go_wp2_with (fail)
          refine (PR.out _ (TB.out.below B.out)).mono ?_
          rintro e w10 ⟨rfl, hb⟩
          have KR := Lib.hid (KR.out.keep hb KR.out.lt)
          have B := Lib.hid (stepB B.out hb)
          clear hb
          obtain ⟨r0, r1, -, -⟩ := KR.out.all
          have rl := KR.out.lt
          go_wp2_with (fail)
          refine (IR.out _).mono ?_
          rintro e w11 ⟨rfl, hb⟩
          have KZ : Hid (Blk2 w11 w10.heap.size 35 (.int .i64 0) (.int .i64 0)) := (Blk2.at_ _ _ _ rfl).keep hb (by simp)
          have KR := Lib.hid ((KR.out.old _).keep hb (KR.out.old _).lt)
          have B := Lib.hid (stepB (B.out.alloc B.out.size _) hb)
          clear hb r0 r1 rl
          go_wp2_with (fail)
          go_ret
          exact ⟨rfl, B.out⟩
      · have PM : Hid (∀ w, Tab w → Calls Tryd.prog 12 #[.string ⟨t.toArray⟩] w (MatRes MR.no w)) := Lib.hid (fun w tb => by
          rw [← parM_no hy]; exact iParseMatrix t w (by omega) tb)
        clear hy tl
        go_wp2_with (fail)
        refine (PM.out _ (TB.out.below B.out)).mono ?_
        rintro e w7 ⟨vY, rfl, own, hb⟩
        obtain ⟨qY, qcY, rfl, -, -⟩ := own.form
        dsimp only [MR.no] at own ⊢
        have B := Lib.hid (stepB B.out hb)
        have B := Lib.hid (B.out.alloc B.out.size (.cells #[.int .i64 0, .int .i64 0, .slice qY ([] : List Int).length qcY] 26))
        clear hb own PM
        go_wp2_with (fail)
        refine (drawFR _ a0 len0 cap0 (HC.out.below B.out)).mono ?_
        rintro e w8 ⟨p, q, rfl, hb⟩
        have B := Lib.hid (stepB B.out hb)
        clear hb
        have RL := ratText_len p q
        rcases Bool.eq_false_or_eq_true (isRat p q) with hr | hr
        · have E := Lib.hid (parR_text hr)
          have q1 : ∀ w : World, (Op.equalIn 10000 35 (.agg #[.int .i64 p, .int .i64 q]) (.agg #[.int .i64 p, .int .i64 q])).run Tryd.prog w = .ok true w := fun w => by rw [eqRat]; simp
          have IR := Lib.hid (fun w => sIsRat p q w)
          rw [hr] at IR
          obtain ⟨s, hs⟩ : ∃ s, ratText p q = s := ⟨_, rfl⟩
          rw [hs] at RL E
          have FR : Hid (∀ w, Tab w → Calls Tryd.prog 18 #[.agg #[.int .i64 p, .int .i64 q]] w (Gives (.string ⟨s.toArray⟩) w)) := Lib.hid (fun w tb => by rw [← hs]; exact iFormatRatio p q w tb)
          have PR : Hid (∀ w, Tab w → Calls Tryd.prog 17 #[.string ⟨s.toArray⟩] w (Gives (.tuple #[.agg #[.int .i64 p, .int .i64 q], .bool true]) w)) := Lib.hid (fun w tb => by
            have := iParseRatio s w RL tb
            rw [E.out] at this
            exact this)
          clear hs hr RL
          go_wp2_with (fail)
          refine (FR.out _ (TB.out.below (B.out.alloc B.out.size _))).mono ?_
          rintro e w9 ⟨rfl, hb⟩
          have KR : Hid (Blk2 w9 w8.heap.size 35 (.int .i64 p) (.int .i64 q)) := (Blk2.at_ _ _ _ rfl).keep hb (by simp)
          have B := Lib.hid (stepB (B.out.alloc B.out.size _) hb)
          clear hb
          go_wp2_with (fail)
          refine (PR.out _ (TB.out.below B.out)).mono ?_
          rintro e w10 ⟨rfl, hb⟩
          have KR := Lib.hid (KR.out.keep hb KR.out.lt)
          have B := Lib.hid (stepB B.out hb)
          clear hb
          obtain ⟨r0, r1, -, -⟩ := KR.out.all
          have rl := KR.out.lt
          go_wp2_with (fail)
          refine (IR.out _).mono ?_
          rintro e w11 ⟨rfl, hb⟩
          have KZ : Hid (Blk2 w11 w10.heap.size 35 (.int .i64 p) (.int .i64 q)) := (Blk2.at_ _ _ _ rfl).keep hb (by simp)
          have KR := Lib.hid ((KR.out.old _).keep hb (KR.out.old _).lt)
          have B := Lib.hid (stepB (B.out.alloc B.out.size _) hb)
          clear hb r0 r1 rl
          obtain ⟨r0, r1, -, -⟩ := KR.out.all
          obtain ⟨z0, z1, -, -⟩ := KZ.out.all
          go_wp2_with (fail)
          go_ret
          exact ⟨rfl, B.out⟩
        · have E := Lib.hid (parR_none hr)
          have IR := Lib.hid (fun w => sIsRat p q w)
          rw [hr] at IR
          obtain ⟨s, hs⟩ : ∃ s, ratText p q = s := ⟨_, rfl⟩
          rw [hs] at RL E
          have FR : Hid (∀ w, Tab w → Calls Tryd.prog 18 #[.agg #[.int .i64 p, .int .i64 q]] w (Gives (.string ⟨s.toArray⟩) w)) := Lib.hid (fun w tb => by rw [← hs]; exact iFormatRatio p q w tb)
          have PR : Hid (∀ w, Tab w → Calls Tryd.prog 17 #[.string ⟨s.toArray⟩] w (Gives (.tuple #[.agg #[.int .i64 0, .int .i64 0], .bool false]) w)) := Lib.hid (fun w tb => by
            have := iParseRatio s w RL tb
            rw [E.out] at this
            exact this)
          clear hs hr RL
          go_wp2_with (fail)
          refine (FR.out _ (TB.out.below (B.out.alloc B.out.size _))).mono ?_
          rintro e w9 ⟨rfl, hb⟩
          have KR : Hid (Blk2 w9 w8.heap.size 35 (.int .i64 p) (.int .i64 q)) := (Blk2.at_ _ _ _ rfl).keep hb (by simp)
          have B := Lib.hid (stepB (B.out.alloc B.out.size _) hb)
          clear hb
          go_wp2_with (fail)
          refine (PR.out _ (TB.out.below B.out)).mono ?_
          rintro e w10 ⟨rfl, hb⟩
          have KR := Lib.hid (KR.out.keep hb KR.out.lt)
          have B := Lib.hid (stepB B.out hb)
          clear hb
          obtain ⟨r0, r1, -, -⟩ := KR.out.all
          have rl := KR.out.lt
          go_wp2_with (fail)
          refine (IR.out _).mono ?_
          rintro e w11 ⟨rfl, hb⟩
          have KZ : Hid (Blk2 w11 w10.heap.size 35 (.int .i64 0) (.int .i64 0)) := (Blk2.at_ _ _ _ rfl).keep hb (by simp)
          have KR := Lib.hid ((KR.out.old _).keep hb (KR.out.old _).lt)
          have B := Lib.hid (stepB (B.out.alloc B.out.size _) hb)
          clear hb r0 r1 rl
          go_wp2_with (fail)
          go_ret
          exact ⟨rfl, B.out⟩
  · have hbig' : 1048576 < len0 := by omega
    clear hbig
    go_enter Tryd.func3, Tryd.ntmps3
    go_wp2_with (fail)
    refine (big_yes w a0 len0 cap0 hbig').mono ?_
    rintro e w1 ⟨rfl, rfl⟩
    go_wp2_with (fail)
    go_ret
    exact ⟨rfl, Below.refl _ _⟩

/-! ### The row's step -/
/-- The tables that the row lists. -/
def tabs : List (String × DataW Unit) := [("math/bits.deBruijn32tab", Rows.laid_math_bits_deBruijn32tab), ("math/bits.deBruijn64tab", Rows.laid_math_bits_deBruijn64tab), ("internal/strconv.uint64pow10", Rows.laid_internal_strconv_uint64pow10), ("unicode/utf8.acceptRanges", Rows.laid_unicode_utf8_acceptRanges), ("unicode/utf8.first", Rows.laid_unicode_utf8_first)]
theorem tab_of_laid {W : World} (h : laidMetH Tryd.prog tabs W) : Tab W := by
  rw [MakeChecks.laidMetH_plain _ _ _ (by kernel_rfl)] at h
  have h1 := laidMet.tail (laidMet.tail (h))
  rw [pow_data] at h1
  exact Lib.tabIs_of_head gTab tab_type Tryd.underlying136 Tryd.underlying124 (by kernel_rfl) (by kernel_rfl) h1
set_option maxRecDepth 100000 in
theorem lifted (os : Os) (started : os.Started) (H : Type) (enc : TypeId × Value → H) :
    ReturnsInHanded {} Tryd.checked os 3 .any (fun w args => (Rows.fnTextsSpec.pre enc Tryd.prog Tryd.f3 [] false w args ∧ laidMetH Tryd.prog tabs w) ∧ sizedMet enc Tryd.prog Tryd.f3 (OpenSpec.ofChange Rows.fnTextsSpec) false w args)
      (Rows.fnTextsSpec.post enc Tryd.prog Tryd.f3 false true false false) := by
  refine returnsInHanded_of_change_and (C := Tryd.checked) (X := fun w _ => laidMetH Tryd.prog tabs w) (fun _ _ _ hh h => h.of_heap hh) own started (by kernel_rfl) Tryd.func3
    (ChangeSpec.witness_shaped (enc := enc) (C := Tryd.checked) (os := os) (X := fun w _ => laidMetH Tryd.prog tabs w) false (World.laidAll Tryd.prog os tabs) #[.slice none 0 0] 8 (World.laidAll_os _ _ _) (World.shaped_of_ZipB (by kernel_rfl) (by kernel_rfl)) (by kernel_rfl) (by kernel_rfl) (by kernel_rfl)
      (by rw [MakeChecks.laidMetH_plain _ _ _ (by kernel_rfl)]; exact laidMet_laidAll _ (by kernel_rfl) (by kernel_rfl))) ?_
  intro W base args ds gs before hval0 hW _ _ hL _
  have tb := tab_of_laid hL
  have hval : ∀ (j : Nat) t v, Tryd.f3.params[j]? = some t → args[j]? = some v → Value.okWide Tryd.prog W .any base t v := hval0
  have hW' := hW
  obtain ⟨p, q, hA0, hV, rfl, hfz, hnd⟩ := hW
  have hA : DataW.TrodAll enc Tryd.prog W 0 (fun _ => true) true Tryd.f3.params.toList args.toList ds p := hA0
  rw [Tryd.params3] at hA hval
  obtain ⟨v0, vs0, d0, ds0, p0, q0, hargs, rfl, rfl, h0, r0⟩ := trodAll_cons hA
  obtain ⟨rfl, rfl, rfl⟩ := trodAll_nil r0
  obtain rfl : args = #[v0] := by cases args; simp_all
  obtain ⟨rfl, rfl⟩ := trodVars_none hV
  have k0 := h0
  have lt0 : ∀ x ∈ p0, x.block < W.heap.size := by obtain ⟨m, hm⟩ := k0; exact DataW.trod_lt m _ _ _ hm
  obtain ⟨a0, len0, cap0, rfl⟩ := okWide_slice Tryd.underlying22 (hval 0 22 v0 rfl rfl)
  obtain ⟨fuel0, hf0⟩ := h0
  obtain ⟨z0, w0⟩ : ∃ zs, IsRow .u8 W a0 len0 cap0 zs := isRow_of Tryd.underlying22 Tryd.underlying5 (by kernel_rfl) (by simpa [Value.cells] using hf0)
  clear hA0 hval0
  refine (walk a0 len0 cap0 z0 W w0 tb).mono fun e W' ⟨he, bel⟩ => ?_
  subst he
  exact ⟨_, rfl, _, _, _, [], _, [], hW', trodAll_mk1 (shut_bool Tryd.underlying4 _), (trodAll_cons_mk (Below.trod laidOut (by kernel_rfl) (of_decide_eq_true (by kernel_rfl)) k0 bel lt0) trodAll_mk0), rfl, bel.frame _, fun h => by cases h⟩

theorem over : Rows.fnTextsRow.holds Tryd.pinned (OpenSpec.ofChange Rows.fnTextsSpec) :=
  OpenClaim.holds_of_wide 3 Tryd.f3 rfl rfl rfl rfl rfl rfl rfl ⟨rfl, rfl, rfl, rfl, rfl⟩ rfl rfl rfl rfl rfl (by kernel_rfl) Tryd.func3 (by kernel_rfl)
    (of_decide_eq_true (by kernel_rfl)) (by unfold Func.isWrapper; first | (rw [if_pos (by decide +kernel)]; kernel_rfl) | (rw [if_neg (by decide +kernel)]; exact ⟨rfl, rfl⟩))
    (fun os started H enc _ => lifted os started H enc)

/-- THE TIED CARD. -/
theorem proved : Rows.FnTextsCardSaid :=
  Claim7.holds_tied_plain_at .later [] [.data, .data, .data, .data, .pinned] true (true, "439f8157583cb05e311ebcab45017c9861a8d354741c74d5a10c2030de0560c9") false
    over (fun _ h => by cases h) (by kernel_rfl) (fun _ h => by cases h) fnTexts_row_tie rfl ⟨rfl, rfl⟩ (by kernel_rfl) rfl
    (fun f fn hf hfn => by
      obtain rfl : f = 3 := Option.some.inj ((show Tryd.prog.funcNamed "loop.example/g03411/laws.FnTexts" = some 3 by kernel_rfl).symm.trans hf) |>.symm
      obtain rfl : fn = Tryd.f3 := (Option.some.inj (Tryd.func3.symm.trans hfn)).symm
      exact ⟨by kernel_rfl, fun j t ht => by
        rw [Tryd.params3] at ht
        have hm : t ∈ [22] := by simpa using Array.mem_of_getElem? ht
        have hall : ([22].all fun u => !Tryd.prog.wantsStandIn u) = true := by kernel_rfl
        exact (show Tryd.prog.wantsStandIn t = false by simpa using List.all_eq_true.1 hall t hm)⟩)
    (by kernel_rfl)
#print axioms proved
end Go.Proofs.YtihgcccdahmmmaaDoor.fnTexts
