/-
  Chapter 4, in the model: FormatMatrix.
-/
import Derived.Test.YtihgcccdahmmmaaDoorFmtS
import Derived.Test.YtihgcccdahmmmaaDoorMatS
namespace Go.Proofs.YtihgcccdahmmmaaDoor
open Go.RowKit
open Go.Lib (decDigits itoa nDigits)

theorem getD_none (xs : List Int) (i : Nat) (h : xs.length ≤ i) : xs.getD i 0 = 0 := by
  simp [List.getD, List.getElem?_eq_none h]
theorem isMat_i64 {r c : Int} {zs : List Int} (h : isMat r c zs = true) : I64 zs := fun i => by
  rcases Nat.lt_or_ge i zs.length with hi | hi
  · have := nums_at (isMat_says h).2.2.2 hi
    unfold NumP at this
    omega
  · rw [getD_none zs i hi]; omega
/-- What FormatMatrix answers. -/
def fmtM (r c : Int) (xs : List Int) : List UInt8 := if isMat r c xs = true then matText r.toNat c.toNat xs else []
/-- The text ahead of the cells. -/
def mhead (R C : Nat) : List UInt8 := itoa R ++ [120] ++ itoa C ++ [91]

set_option maxHeartbeats 1000000 in
theorem sFormatMatrix_t (R C : Nat) (a : Option Addr) (cap : Nat) (xs : List Int) (w : World) (h : Rd w a xs) (hm : isMat R C xs = true) :
    Calls Tryd.prog 21 #[.agg #[.int .i64 R, .int .i64 C, .slice a xs.length cap]] w (Gives (.string ⟨(matText R C xs).toArray⟩) w) := by
  obtain ⟨⟨r1, r2⟩, ⟨c1, c2⟩, l1, -⟩ := isMat_says hm
  have hn : xs.length ≤ 576 := by have := (mul_size R C ⟨r1, r2⟩ ⟨c1, c2⟩).2; omega
  rw [← Int.natCast_mul] at l1
  have L1 := Lib.hid (show xs.length = R * C from by omega)
  have ST : Calls Tryd.prog 13 #[.agg #[.int .i64 R, .int .i64 C, .slice a xs.length cap]] (w.alloc (.cells #[.int .i64 R, .int .i64 C, .slice a xs.length cap] 26)) (Gives (.bool (isMat R C xs)) _) :=
    sIsMat R C a cap xs _ (h.below ((Below.refl _ _).alloc (Nat.le_refl _) _)) (by omega)
  have hr := Lib.hid (isMat_i64 hm)
  have M := Lib.hid hm
  have H := Lib.hid h
  have SR : ∀ w1 : World, Calls Tryd.prog 56 #[.int .i64 R] w1 fun e w' => e = .returned (.string ⟨(itoa R).toArray⟩) ∧ w1 = w' := fun w1 => sFmt R w1 (by omega) (by omega)
  have SC : ∀ w1 : World, Calls Tryd.prog 56 #[.int .i64 C] w1 fun e w' => e = .returned (.string ⟨(itoa C).toArray⟩) ∧ w1 = w' := fun w1 => sFmt C w1 (by omega) (by omega)
  have lR := itoa_len R (by omega) (by omega)
  have lC := itoa_len C (by omega) (by omega)
  obtain ⟨t0, h0⟩ : ∃ t, mhead R C = t := ⟨_, rfl⟩
  have ht0 : t0.length ≤ 42 := by
    rw [← h0]; unfold mhead; simp only [List.length_append, List.length_cons, List.length_nil]; omega
  have MT : Hid (matText R C xs = mtx t0 C xs xs.length ++ [93]) := by
    show matText R C xs = _
    rw [← h0]; rfl
  obtain ⟨qR, eR⟩ : ∃ q, itoa (R : Int) = q := ⟨_, rfl⟩
  obtain ⟨qC, eC⟩ : ∃ q, itoa (C : Int) = q := ⟨_, rfl⟩
  rw [eR] at SR lR
  rw [eC] at SC lC
  obtain ⟨t1, e1⟩ : ∃ q, qR ++ [120] = q := ⟨_, rfl⟩
  obtain ⟨t2, e2⟩ : ∃ q, t1 ++ qC = q := ⟨_, rfl⟩
  have e3 : t2 ++ [91] = t0 := by rw [← h0, ← e2, ← e1, ← eR, ← eC]; rfl
  have k1 : t1.length ≤ 21 := by rw [← e1]; simp only [List.length_append, List.length_cons, List.length_nil]; omega
  have k2 : t2.length ≤ 41 := by rw [← e2]; simp only [List.length_append]; omega
  have cat1 := cat_eq qR [120] t1 e1 (by simp only [List.length_cons, List.length_nil]; omega)
  have cat2 := cat_eq t1 qC t2 e2 (by omega)
  have cat3 := cat_eq t2 [91] t0 e3 (by simp only [List.length_cons, List.length_nil]; omega)
  have HN := Lib.hid hn
  clear l1 h h0 eR eC e1 e2 e3 k1 k2 lR lC r1 r2 c1 c2 hn hm
  go_enter Tryd.func21, Tryd.ntmps21
  go_wp2_with fail
  refine ST.mono ?_
  clear ST
  rintro e w1 ⟨rfl, hb⟩
  have K0 : Hid (Blk3 w1 w.heap.size 26 (.int .i64 R) (.int .i64 C) (.slice a xs.length cap)) := (Blk3.at_ _ _ _ _ rfl).keep hb (by simp)
  have B : Hid (Below w.heap.size w w1) := ((Below.refl _ _).alloc (Nat.le_refl _) _).trans (hb.mono (by simp))
  clear hb
  obtain ⟨m0, m1, m2, -, -, -⟩ := K0.out.all
  rw [M.out]
  go_wp2_with fail
  go_quiet ((first | (with_reducible refine (SR _).mono ?_; rintro e wq ⟨rfl, rfl⟩; exact ⟨rfl, _, rfl⟩) | (with_reducible refine (SC _).mono ?_; rintro e wq ⟨rfl, rfl⟩; exact ⟨rfl, _, rfl⟩)))
  go_wp2_with fail
  have HD : Hid (Rd w1 a xs) := H.out.below B.out
  go_loop [3, 4] (fun s x => ∃ i : Nat, s = .string ⟨(mtx t0 C xs i).toArray⟩ ∧ x = .int .i64 i ∧ i ≤ xs.length) (fun _ x => xs.length - (intOf x).toNat)
  case atStart => exact ⟨0, rfl, rfl, Nat.zero_le _⟩
  case round =>
    obtain ⟨i, rfl, rfl, hi⟩ := hrel
    rcases Nat.lt_or_ge i xs.length with hlt | hge
    · obtain ⟨b, o, ha, hc⟩ := HD.out i hlt
      have hx := HN.out
      have C0 : 0 < C := by
        have := L1.out
        rcases Nat.eq_zero_or_pos C with h | h
        · rw [h, Nat.mul_zero] at this; omega
        · exact h
      obtain ⟨z, hz⟩ : ∃ z, xs.getD i 0 = z := ⟨_, rfl⟩
      have hb := hr.out i
      have hl := mtx_len (t := t0) (C := C) hr.out i
      rw [hz] at hc hb
      have hz20 := itoa_len z hb.1 hb.2
      obtain ⟨l, el⟩ : ∃ l, mtx t0 C xs i = l := ⟨_, rfl⟩
      obtain ⟨t, et⟩ : ∃ t, mtx t0 C xs (i + 1) = t := ⟨_, rfl⟩
      obtain ⟨q, hq⟩ : ∃ q, itoa z = q := ⟨_, rfl⟩
      rw [el] at hl ⊢
      have TS : Hid (t = (if 0 < i ∧ i % C = 0 then l ++ [59] else if 0 < i then l ++ [32] else l) ++ q) := by
        show t = _
        rw [← et, ← hq, ← hz, ← el]; rfl
      have ilt : (i : Int) < xs.length := by omega
      have i0 : (0 : Int) ≤ i := by omega
      have i1 : (i : Int) ≤ 16777216 := by omega
      have hl1 : l.length ≤ 20000 := by omega
      have ET := Lib.hid et
      have HI := Lib.hid hlt
      obtain ⟨hb1, hb2⟩ := hb
      have SF : ∀ w1 : World, Calls Tryd.prog 56 #[.int .i64 z] w1 fun e w' => e = .returned (.string ⟨q.toArray⟩) ∧ w1 = w' := fun w1 => by rw [← hq]; exact sFmt z w1 hb1 hb2
      rw [hq] at hz20
      have F : ∀ s' : List UInt8, (if 0 < i ∧ i % C = 0 then l ++ [59] else if 0 < i then l ++ [32] else l) = s' → ∀ w : World, (Op.stringOp .add ⟨s'.toArray⟩ ⟨q.toArray⟩).run Tryd.prog w = .ok (.string ⟨t.toArray⟩) w := by
        intro s' hs
        refine cat_eq s' q t (by rw [TS.out, hs]) ?_
        have : s'.length ≤ l.length + 1 := by
          rw [← hs]
          split
          · simp
          · split <;> simp
        omega
      have FH := Lib.hid F
      have c59 := Lib.hid (cat_eq l [59] (l ++ [59]) rfl (by simp only [List.length_cons, List.length_nil]; omega))
      have c32 := Lib.hid (cat_eq l [32] (l ++ [32]) rfl (by simp only [List.length_cons, List.length_nil]; omega))
      have Cz : ((C : Int) == 0) = false := by simp; omega
      have Cn : ¬ (C : Int) = 0 := by omega
      obtain ⟨k, hk⟩ : ∃ k, i % C = k := ⟨_, rfl⟩
      have tm : Int.tmod (i : Int) (C : Int) = (k : Int) := by rw [← hk]; rfl
      have kc : k ≤ i := by rw [← hk]; exact Nat.mod_le _ _
      have HK := Lib.hid hk
      clear F hz el et hq hlt hl hl1 hz20 hx hk
      subst ha
      rcases Nat.eq_zero_or_pos i with h0 | h0
      · rw [h0, Nat.add_zero] at hc
        have hcat := FH.out l (by rw [if_neg (by omega), if_neg (by omega)])
        clear tm kc
        go_wp2_with (go_at_call 56; refine (SF _).mono ?_; rintro e w' ⟨rfl, rfl⟩)
        go_round
        case rel => exact ⟨i + 1, by rw [ET.out], by go_num, HI.out⟩
        case measure => have := HI.out; simp [intOf]; omega
      · have d0 : decide (0 < (i : Int)) = true := decide_eq_true (by omega)
        rcases Nat.eq_zero_or_pos k with k0 | k0
        · have hcat1 := c59.out
          have hcat2 := FH.out (l ++ [59]) (by rw [if_pos ⟨h0, by rw [HK.out, k0]⟩])
          obtain ⟨l2, e2⟩ : ∃ l2, l ++ [59] = l2 := ⟨_, rfl⟩
          rw [e2] at hcat1 hcat2
          rw [k0] at tm
          clear e2 kc
          go_wp2_with (go_at_call 56; refine (SF _).mono ?_; rintro e w' ⟨rfl, rfl⟩)
          go_round
          case rel => exact ⟨i + 1, by rw [ET.out], by go_num, HI.out⟩
          case measure => have := HI.out; simp [intOf]; omega
        · have hcat1 := c32.out
          have hcat2 := FH.out (l ++ [32]) (by rw [if_neg (by rw [HK.out]; omega), if_pos h0])
          obtain ⟨l2, e2⟩ : ∃ l2, l ++ [32] = l2 := ⟨_, rfl⟩
          rw [e2] at hcat1 hcat2
          have kz : ((k : Int) == 0) = false := by simp; omega
          clear e2
          go_wp2_with (go_at_call 56; refine (SF _).mono ?_; rintro e w' ⟨rfl, rfl⟩)
          go_round
          case rel => exact ⟨i + 1, by rw [ET.out], by go_num, HI.out⟩
          case measure => have := HI.out; simp [intOf]; omega
    · obtain rfl : i = xs.length := by omega
      have hl := mtx_len (t := t0) (C := C) hr.out xs.length
      have hx := HN.out
      have hcat := cat_eq (mtx t0 C xs xs.length) [93] (matText R C xs) MT.out.symm (by simp only [List.length_cons, List.length_nil]; omega)
      obtain ⟨l, el⟩ : ∃ l, mtx t0 C xs xs.length = l := ⟨_, rfl⟩
      rw [el] at hcat ⊢
      clear hl el
      go_wp2_with fail
      go_ret
      exact ⟨rfl, B.out.os, B.out.tape, B.out.output, B.out.size, B.out.block⟩

set_option maxHeartbeats 400000 in
theorem sFormatMatrix (r c : Int) (a : Option Addr) (cap : Nat) (xs : List Int) (w : World) (h : Rd w a xs) (hn : xs.length ≤ 16777216) :
    Calls Tryd.prog 21 #[.agg #[.int .i64 r, .int .i64 c, .slice a xs.length cap]] w (Gives (.string ⟨(fmtM r c xs).toArray⟩) w) := by
  rcases Bool.eq_false_or_eq_true (isMat r c xs) with hm | hm
  · obtain ⟨⟨r1, r2⟩, ⟨c1, c2⟩, -, -⟩ := isMat_says hm
    obtain ⟨R, rfl⟩ := Int.eq_ofNat_of_zero_le r1
    obtain ⟨C, rfl⟩ := Int.eq_ofNat_of_zero_le c1
    have e : fmtM R C xs = matText R C xs := by unfold fmtM; rw [if_pos hm]; rfl
    rw [e]
    exact sFormatMatrix_t R C a cap xs w h hm
  · have e : fmtM r c xs = [] := by unfold fmtM; rw [if_neg (by rw [hm]; decide)]
    rw [e]
    clear e
    have ST : Calls Tryd.prog 13 #[.agg #[.int .i64 r, .int .i64 c, .slice a xs.length cap]] (w.alloc (.cells #[.int .i64 r, .int .i64 c, .slice a xs.length cap] 26)) (Gives (.bool (isMat r c xs)) _) :=
      sIsMat r c a cap xs _ (h.below ((Below.refl _ _).alloc (Nat.le_refl _) _)) hn
    rw [hm] at ST
    clear h hm
    go_enter Tryd.func21, Tryd.ntmps21
    go_wp2_with fail
    refine ST.mono ?_
    clear ST
    rintro e w1 ⟨rfl, hb⟩
    have B : Hid (Below w.heap.size w w1) := ((Below.refl _ _).alloc (Nat.le_refl _) _).trans (hb.mono (by simp))
    clear hb
    go_wp2_with fail
    go_ret
    exact ⟨rfl, B.out⟩
end Go.Proofs.YtihgcccdahmmmaaDoor
