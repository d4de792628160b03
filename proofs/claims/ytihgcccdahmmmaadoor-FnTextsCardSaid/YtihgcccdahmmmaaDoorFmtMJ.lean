/-
  Chapter 4, in the program: FormatMatrix.
-/
import Derived.Test.YtihgcccdahmmmaaDoorFmtMI
import Derived.Deep.RegionHeld3
import Derived.Laws.IdiomStrings
namespace Go.Proofs.YtihgcccdahmmmaaDoor
open Go.RowKit
open Go.Lib (decDigits itoa nDigits)

/-- A slice of bytes of the call's own, as a string. -/
theorem Bys.text {B : Nat} {w : World} {v : Value} {l : List UInt8} (h : Bys B w v l) : (convert 22 9 v).run Tryd.prog w = .ok (.string ⟨l.toArray⟩) w := by
  have h' := h
  obtain ⟨h1, ⟨h2, h3⟩ | ⟨g, cap, cur, e, hB, hg, rest⟩⟩ := h
  · obtain rfl : l = [] := List.eq_nil_of_length_eq_zero h3
    rw [h2]
    exact run_convert_bytes_nil w 22 5 underlying_bys underlying_by 0 0 9 underlying_str
  · rw [e]
    refine run_convert_bytes_back w 22 9 5 ⟨g, 0, none⟩ cap l underlying_bys underlying_by underlying_str (fun j hj => ?_)
    exact World.ownsRow.cells (g := g) h' (by rw [e]; rfl) j _ (by simp [Lib.strCells, hj])

/-- What stays through the region. -/
theorem keepM {w0 W w' : World} {b B : Nat} {p q v : Value} {l : List UInt8} (h : W.cell? ⟨b, 0, none⟩ = some p ∧ W.cell? ⟨b, 1, none⟩ = some q ∧ Tab W ∧ Bys B W v l ∧ (convert 22 9 v).run Tryd.prog W = .ok (.string ⟨l.toArray⟩) W ∧ Below w0.heap.size w0 W) (hb : Below W.heap.size W w') :
    w'.cell? ⟨b, 0, none⟩ = some p ∧ w'.cell? ⟨b, 1, none⟩ = some q ∧ Tab w' ∧ Bys B w' v l ∧ (convert 22 9 v).run Tryd.prog w' = .ok (.string ⟨l.toArray⟩) w' ∧ Below w0.heap.size w0 w' :=
  ⟨(hb.cell (World.block_lt_of_cell? W _ h.1)).trans h.1, (hb.cell (World.block_lt_of_cell? W _ h.2.1)).trans h.2.1, h.2.2.1.below hb, h.2.2.2.1.keep hb, (h.2.2.2.1.keep hb).text, h.2.2.2.2.2.trans (hb.mono h.2.2.2.2.2.size)⟩

set_option maxHeartbeats 2000000 in
set_option maxRecDepth 20000 in
theorem iFormatMatrix_t (R C : Nat) (a : Option Addr) (cap : Nat) (xs : List Int) (w : World) (h : Rd w a xs) (hm : isMat R C xs = true) (tb : Tab w) :
    Calls Tryd.prog 11 #[.agg #[.int .i64 R, .int .i64 C, .slice a xs.length cap]] w (Gives (.string ⟨(matText R C xs).toArray⟩) w) := by
  obtain ⟨⟨r1, r2⟩, ⟨c1, c2⟩, l1, -⟩ := isMat_says hm
  have hn : xs.length ≤ 576 := by have := (mul_size R C ⟨r1, r2⟩ ⟨c1, c2⟩).2; omega
  rw [← Int.natCast_mul] at l1
  have L1 := Lib.hid (show xs.length = R * C from by omega)
  have ST := iIsMat R C a cap xs (w.alloc (.cells #[.int .i64 R, .int .i64 C, .slice a xs.length cap] 26)) (h.below ((Below.refl _ _).alloc (Nat.le_refl _) _)) (by omega)
  rw [hm] at ST
  have hr := Lib.hid (isMat_i64 hm)
  have H := Lib.hid h
  have TB := Lib.hid tb
  have RC := Lib.hid (show R ≤ 24 ∧ C ≤ 24 from ⟨by omega, by omega⟩)
  have SR : ∀ w1 : World, Tab w1 → Calls Tryd.prog 41 #[.int .i64 R] w1 (Gives (.string ⟨(itoa R).toArray⟩) w1) := fun w1 t1 => iFmt R w1 (by omega) (by omega) t1
  have SC : ∀ w1 : World, Tab w1 → Calls Tryd.prog 41 #[.int .i64 C] w1 (Gives (.string ⟨(itoa C).toArray⟩) w1) := fun w1 t1 => iFmt C w1 (by omega) (by omega) t1
  have lR := itoa_len R (by omega) (by omega)
  have lC := itoa_len C (by omega) (by omega)
  obtain ⟨bd, hbd⟩ : ∃ t, mtx [] C xs xs.length = t := ⟨_, rfl⟩
  have lB : bd.length ≤ 20000 := by
    have := mtx_len (t := []) (C := C) hr.out xs.length
    rw [hbd] at this
    simp only [List.length_nil] at this
    omega
  obtain ⟨qR, eR⟩ : ∃ q, itoa (R : Int) = q := ⟨_, rfl⟩
  obtain ⟨qC, eC⟩ : ∃ q, itoa (C : Int) = q := ⟨_, rfl⟩
  obtain ⟨mt, emt⟩ : ∃ q, matText R C xs = q := ⟨_, rfl⟩
  have MT : mt = qR ++ [120] ++ qC ++ [91] ++ bd ++ [93] := by
    rw [← emt, ← eR, ← eC, ← hbd]
    show mtx _ C xs xs.length ++ [93] = _
    rw [mtx_head]
  rw [emt]
  rw [eR] at SR lR
  rw [eC] at SC lC
  obtain ⟨t1, e1⟩ : ∃ q, qR ++ [120] = q := ⟨_, rfl⟩
  obtain ⟨t2, e2⟩ : ∃ q, t1 ++ qC = q := ⟨_, rfl⟩
  obtain ⟨t3, e3⟩ : ∃ q, t2 ++ [91] = q := ⟨_, rfl⟩
  obtain ⟨t4, e4⟩ : ∃ q, t3 ++ bd = q := ⟨_, rfl⟩
  have e5 : t4 ++ [93] = mt := by rw [MT, ← e4, ← e3, ← e2, ← e1]
  have k1 : t1.length ≤ 21 := by rw [← e1]; simp only [List.length_append, List.length_cons, List.length_nil]; omega
  have k2 : t2.length ≤ 41 := by rw [← e2]; simp only [List.length_append]; omega
  have k3 : t3.length ≤ 42 := by rw [← e3]; simp only [List.length_append, List.length_cons, List.length_nil]; omega
  have k4 : t4.length ≤ 20042 := by rw [← e4]; simp only [List.length_append]; omega
  have cat1 := cat_eq qR [120] t1 e1 (by simp only [List.length_cons, List.length_nil]; omega)
  have cat2 := cat_eq t1 qC t2 e2 (by omega)
  have cat3 := cat_eq t2 [91] t3 e3 (by simp only [List.length_cons, List.length_nil]; omega)
  have cat4 := cat_eq t3 bd t4 e4 (by omega)
  have cat5 := cat_eq t4 [93] mt e5 (by simp only [List.length_cons, List.length_nil]; omega)
  have SRH := Lib.hid SR
  have SCH := Lib.hid SC
  have BD := Lib.hid hbd
  clear l1 h eR eC e1 e2 e3 e4 e5 k1 k2 k3 k4 lR lC lB r1 r2 c1 c2 hn hm MT emt hbd SR SC tb
  go_enter Tryd.func11, Tryd.ntmps11
  go_wp2_with fail
  refine ST.mono ?_
  clear ST
  rintro e w1 ⟨rfl, hb⟩
  have K0 : Hid (Blk3 w1 w.heap.size 26 (.int .i64 R) (.int .i64 C) (.slice a xs.length cap)) := (Blk3.at_ _ _ _ _ rfl).keep hb (by simp)
  have B : Hid (Below w.heap.size w w1) := ((Below.refl _ _).alloc (Nat.le_refl _) _).trans (hb.mono (by simp))
  clear hb
  obtain ⟨m0, m1, m2, -, -, -⟩ := K0.out.all
  have FB := iFoldY w1.heap.size R C xs.length a cap xs (.slice (some ⟨w1.heap.size, 0, none⟩) 0 0) (w1.alloc (.cells #[] 5)) rfl ((H.out.below B.out).below ((Below.refl _ _).alloc (Nat.le_refl _) _)) L1.out RC.out.1 RC.out.2 (Bys.new w1 _ rfl)
    (fun b o e hx => by
      subst e
      obtain ⟨b', o', e', hc⟩ := H.out 0 hx
      injection e' with e'
      injection e' with e1 e2
      subst e1
      have h1 := World.block_lt_of_cell? w _ hc
      have h2 := B.out.size
      simp only at h1
      omega) hr.out (by simp) (TB.out.below (B.out.alloc B.out.size _)) (Nat.lt_of_lt_of_le TB.out.lt B.out.size)
  go_wp2_with fail
  refine FB.mono ?_
  clear FB
  rintro e w2 ⟨v, rfl, hv, hf⟩
  have B2 : Below w1.heap.size (w1.alloc (.cells #[] 5)) w2 := hf.below (B := w1.heap.size) (fun k h => h) (by simp)
  have B3 : Below w1.heap.size w1 w2 := ((Below.refl _ _).alloc (Nat.le_refl _) _).trans B2
  rw [BD.out] at hv
  have K2 := K0.out.keep B3 K0.out.lt
  have S0 := Lib.hid (And.intro K2.cell0 (And.intro K2.cell1 (And.intro (TB.out.below (B.out.trans (B3.mono B.out.size))) (And.intro hv (And.intro hv.text (B.out.trans (B3.mono B.out.size)))))))
  obtain ⟨va, vc, rfl⟩ := hv.form
  clear B2 B3 hf K2 hv
  go_wp2_with fail
  go_region_held3 (fun w' => w'.cell? ⟨w.heap.size, 0, none⟩ = some (.int .i64 R) ∧ w'.cell? ⟨w.heap.size, 1, none⟩ = some (.int .i64 C) ∧ Tab w' ∧ Bys w1.heap.size w' (.slice va bd.length vc) bd ∧ (convert 22 9 (.slice va bd.length vc)).run Tryd.prog w' = .ok (.string ⟨bd.toArray⟩) w' ∧ Below w.heap.size w w') (first | exact keepM S0.out (Below.refl _ _).drew | with_reducible exact keepM ‹_› ‹_›)
        (first
        | (go_at_call 41; (with_reducible refine (SRH.out _ (And.left (And.right (And.right ‹_›)))).mono ?_); rintro e w3 ⟨rfl, hb1⟩)
        | (go_at_call 41; (with_reducible refine (SCH.out _ (And.left (And.right (And.right ‹_›)))).mono ?_); rintro e w3 ⟨rfl, hb1⟩))
  all_goals
    go_wp2_with fail
    go_ret
    exact ⟨rfl, (And.right (And.right (And.right (And.right (And.right ‹_ ∧ _ ∧ Tab _ ∧ _ ∧ _ ∧ Below w.heap.size w _›)))))⟩

set_option maxHeartbeats 400000 in
theorem iFormatMatrix (r c : Int) (a : Option Addr) (cap : Nat) (xs : List Int) (w : World) (h : Rd w a xs) (hn : xs.length ≤ 16777216) (tb : Tab w) :
    Calls Tryd.prog 11 #[.agg #[.int .i64 r, .int .i64 c, .slice a xs.length cap]] w (Gives (.string ⟨(fmtM r c xs).toArray⟩) w) := by
  rcases Bool.eq_false_or_eq_true (isMat r c xs) with hm | hm
  · obtain ⟨⟨r1, r2⟩, ⟨c1, c2⟩, -, -⟩ := isMat_says hm
    obtain ⟨R, rfl⟩ := Int.eq_ofNat_of_zero_le r1
    obtain ⟨C, rfl⟩ := Int.eq_ofNat_of_zero_le c1
    have e : fmtM R C xs = matText R C xs := by unfold fmtM; rw [if_pos hm]; rfl
    rw [e]
    exact iFormatMatrix_t R C a cap xs w h hm tb
  · have e : fmtM r c xs = [] := by unfold fmtM; rw [if_neg (by rw [hm]; decide)]
    rw [e]
    clear e
    have ST := iIsMat r c a cap xs (w.alloc (.cells #[.int .i64 r, .int .i64 c, .slice a xs.length cap] 26)) (h.below ((Below.refl _ _).alloc (Nat.le_refl _) _)) hn
    rw [hm] at ST
    clear h hm tb
    go_enter Tryd.func11, Tryd.ntmps11
    go_wp2_with fail
    refine ST.mono ?_
    clear ST
    rintro e w1 ⟨rfl, hb⟩
    have B : Hid (Below w.heap.size w w1) := ((Below.refl _ _).alloc (Nat.le_refl _) _).trans (hb.mono (by simp))
    clear hb
    go_wp2_with fail
    go_ret
    exact ⟨rfl, B.out⟩
end Go.Proofs.YtihgcccdahmmmaaDoor
