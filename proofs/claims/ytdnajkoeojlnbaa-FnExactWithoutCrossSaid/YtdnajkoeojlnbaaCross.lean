/-
  Chapter 6, in the model: WithoutCross.
-/
import Derived.Test.YtdnajkoeojlnbaaWo
import Derived.Test.YtdnajkoeojlnbaaMem
namespace Go.Proofs.Ytdnajkoeojlnbaa
set_option maxRecDepth 100000
open Go.RowKit

def crossM (r c row col : Int) (xs : List Int) : MR := if isMat r c xs = true ∧ (0 ≤ row ∧ row ≤ r - 1) ∧ (0 ≤ col ∧ col ≤ c - 1) then ⟨true, r - 1, c - 1, woL c.toNat row col xs (r.toNat * c.toNat)⟩ else MR.no
set_option maxRecDepth 100000 in
set_option maxHeartbeats 2000000 in
theorem sCross_t (R C ga oa m : Nat) (row col : Int) (xs : List Int) (w : World) (h : Rd w (some ⟨ga, oa, none⟩) xs) (hx : xs.length = R * C) (hR : R ≤ 24) (hC : C ≤ 24) (hm : isMat R C xs = true) (h1 : 0 ≤ row ∧ row ≤ (R : Int) - 1) (h2 : 0 ≤ col ∧ col ≤ (C : Int) - 1) :
    Calls Try.prog 20 #[.agg #[.int .i64 R, .int .i64 C, .slice (some ⟨ga, oa, none⟩) xs.length m], .int .i64 row, .int .i64 col] w (MatRes ⟨true, (R : Int) - 1, (C : Int) - 1, woL C row col xs (R * C)⟩ w) := by
  have hle : R * C ≤ 24 * 24 := Nat.mul_le_mul hR hC
  have H := Lib.hid h
  have M := Lib.hid hm
  have HL := Lib.hid hx
  obtain ⟨n, hn⟩ : ∃ n, xs.length = n := ⟨_, rfl⟩
  have HX := Lib.hid hn
  rw [hn] at hx ⊢
  have HN := Lib.hid hx
  clear hn h hm hx
  have B0 : ∀ o1 o2, Below w.heap.size w ((w.alloc o1).alloc o2) := fun o1 o2 => ((Below.refl _ _).alloc (Nat.le_refl _) _).alloc (by simp) _
  have BH := Lib.hid B0
  clear B0
  go_enter Try.func20, Try.ntmps20
  go_wp2_with fail
  have ST := sIsMat R C (some ⟨ga, oa, none⟩) m xs _ (H.out.below (BH.out (.cells #[.int .i64 R, .int .i64 C, .slice (some ⟨ga, oa, none⟩) n m] 27) (.cells #[.int .i64 0, .int .i64 0, .slice none 0 0] 27))) (by rw [HL.out]; omega)
  rw [HX.out] at ST
  refine ST.mono ?_
  clear ST
  rintro e w1 ⟨rfl, hb⟩
  have K0 : Hid (Blk3 w1 w.heap.size 27 (.int .i64 R) (.int .i64 C) (.slice (some ⟨ga, oa, none⟩) n m)) := ((Blk3.at_ _ _ _ _ rfl).old _).keep hb (by simp <;> omega)
  have K2 : Hid (Blk3 w1 (w.heap.size + 1) 27 (.int .i64 0) (.int .i64 0) (.slice none 0 0)) := (Blk3.at_ _ _ _ _ (by simp)).keep hb (by simp)
  have B : Hid (Below w.heap.size w w1) := (BH.out _ _).trans (hb.mono (by simp <;> omega))
  clear hb
  obtain ⟨ca0, ca1, ca2, -, -, -⟩ := K0.out.all
  obtain ⟨cc0, cc1, cc2, ff0, ff1, ff2⟩ := K2.out.all
  have v1 : IntKind.i64.wrap ((R : Int) - 1) = (R : Int) - 1 := IntWalk.i64_in _ (by omega)
  have v2 : IntKind.i64.wrap ((C : Int) - 1) = (C : Int) - 1 := IntWalk.i64_in _ (by omega)
  rw [M.out]
  go_wp2_with fail
  refine (sIn_t row 0 ((R : Int) - 1) _ h1.1 h1.2).mono ?_
  rintro e w' ⟨rfl, rfl⟩
  go_wp2_with fail
  refine (sIn_t col 0 ((C : Int) - 1) _ h2.1 h2.2).mono ?_
  rintro e w' ⟨rfl, rfl⟩
  go_wp2_with fail
  have SW := sWo R C ga oa m row col xs w1 (H.out.below B.out) HL.out hR hC
  rw [HX.out] at SW
  refine SW.mono ?_
  clear SW
  rintro e w2 ⟨v, rfl, ho, hb⟩
  have ll2 := K2.out.lt
  obtain ⟨q, qc, rfl, -, -⟩ := ho.form
  have K2 := Lib.hid (K2.out.step hb)
  have B := Lib.hid (stepB B.out hb)
  have O := Lib.hid ho
  clear hb ho
  obtain ⟨zs, hzs⟩ : ∃ zs, woL C row col xs (R * C) = zs := ⟨_, rfl⟩
  rw [hzs] at O ⊢
  have ZS := Lib.hid hzs
  clear hzs
  obtain ⟨dd0, dd1, dd2, df0, df1, df2⟩ := K2.out.all
  go_wp2_with fail
  obtain ⟨E0, E1, E2, -, -, -⟩ := (K2.out.set3 (.int .i64 ((R : Int) - 1)) (.int .i64 ((C : Int) - 1)) (.slice q zs.length qc)).all
  rw [ZS.out]
  refine bodyPost_ret (v := .tuple #[.agg #[.int .i64 ((R : Int) - 1), .int .i64 ((C : Int) - 1), .slice q zs.length qc], .bool true]) (by simp [results, Try.results20, go_sem, E0, E1, E2]) rfl ⟨_, rfl, ?_, ((B.out.setCell (by show w.heap.size ≤ w.heap.size + 1; omega) _).setCell (by show w.heap.size ≤ w.heap.size + 1; omega) _).setCell (by show w.heap.size ≤ w.heap.size + 1; omega) _⟩
  exact (((O.out.far (by show w.heap.size + 1 < w1.heap.size; omega) _).far (by show w.heap.size + 1 < w1.heap.size; omega) _).far (by show w.heap.size + 1 < w1.heap.size; omega) _).le (by omega)
set_option maxHeartbeats 1000000 in
theorem sCross (r c row col : Int) (a : Option Addr) (m : Nat) (xs : List Int) (w : World) (h : Rd w a xs) (hn : xs.length ≤ 16777216) :
    Calls Try.prog 20 #[.agg #[.int .i64 r, .int .i64 c, .slice a xs.length m], .int .i64 row, .int .i64 col] w (MatRes (crossM r c row col xs) w) := by
  have B0 : ∀ o1 o2, Below w.heap.size w ((w.alloc o1).alloc o2) := fun o1 o2 => ((Below.refl _ _).alloc (Nat.le_refl _) _).alloc (by simp) _
  have BH := Lib.hid B0
  clear B0
  rcases Bool.eq_false_or_eq_true (isMat r c xs) with hm | hm
  · obtain ⟨⟨r1, r2⟩, ⟨c1, c2⟩, l1, -⟩ := isMat_says hm
    by_cases h1 : 0 ≤ row ∧ row ≤ r - 1
    · by_cases h2 : 0 ≤ col ∧ col ≤ c - 1
      · obtain ⟨R, rfl⟩ := Int.eq_ofNat_of_zero_le r1
        obtain ⟨C, rfl⟩ := Int.eq_ofNat_of_zero_le c1
        rw [← Int.natCast_mul] at l1
        have hx : xs.length = R * C := by omega
        have E : crossM R C row col xs = ⟨true, (R : Int) - 1, (C : Int) - 1, woL C row col xs (R * C)⟩ := by unfold crossM; rw [if_pos ⟨hm, h1, h2⟩]; rfl
        rw [E]
        have hp : 0 < R * C := Nat.mul_pos (by omega) (by omega)
        obtain ⟨ga, oa, rfl, -⟩ := h 0 (by omega)
        exact sCross_t R C ga oa m row col xs w h hx (by omega) (by omega) hm h1 h2
      · have E : Hid (crossM r c row col xs = MR.no) := by show crossM r c row col xs = _; unfold crossM; rw [if_neg (fun h => h2 h.2.2)]
        have h2 : col < 0 ∨ c - 1 < col := by omega
        have v1 : IntKind.i64.wrap (r - 1) = r - 1 := IntWalk.i64_in _ (by omega)
        have v2 : IntKind.i64.wrap (c - 1) = c - 1 := IntWalk.i64_in _ (by omega)
        have H := Lib.hid h
        have M := Lib.hid hm
        obtain ⟨n, hx⟩ : ∃ n, xs.length = n := ⟨_, rfl⟩
        have HX := Lib.hid hx
        rw [hx] at hn ⊢
        clear hx h hm l1
        go_enter Try.func20, Try.ntmps20
        go_wp2_with fail
        have ST := sIsMat r c a m xs _ (H.out.below (BH.out (.cells #[.int .i64 r, .int .i64 c, .slice a n m] 27) (.cells #[.int .i64 0, .int .i64 0, .slice none 0 0] 27))) (by rw [HX.out]; omega)
        rw [HX.out] at ST
        refine ST.mono ?_
        clear ST
        rintro e w1 ⟨rfl, hb⟩
        have K0 : Hid (Blk3 w1 w.heap.size 27 (.int .i64 r) (.int .i64 c) (.slice a n m)) := ((Blk3.at_ _ _ _ _ rfl).old _).keep hb (by simp <;> omega)
        have K2 : Hid (Blk3 w1 (w.heap.size + 1) 27 (.int .i64 0) (.int .i64 0) (.slice none 0 0)) := (Blk3.at_ _ _ _ _ (by simp)).keep hb (by simp)
        have B : Hid (Below w.heap.size w w1) := (BH.out _ _).trans (hb.mono (by simp <;> omega))
        clear hb
        obtain ⟨ca0, ca1, ca2, -, -, -⟩ := K0.out.all
        obtain ⟨cc0, cc1, cc2, ff0, ff1, ff2⟩ := K2.out.all
        rw [M.out]
        go_wp2_with fail
        refine (sIn_t row 0 (r - 1) _ h1.1 h1.2).mono ?_
        rintro e w' ⟨rfl, rfl⟩
        go_wp2_with fail
        refine (sIn_f col 0 (c - 1) _ h2).mono ?_
        rintro e w' ⟨rfl, rfl⟩
        go_wp2_with fail
        obtain ⟨E0, E1, E2, -, -, -⟩ := (K2.out.set3 (.int .i64 0) (.int .i64 0) (.slice none 0 0)).all
        rw [E.out]
        exact bodyPost_ret (v := .tuple #[.agg #[.int .i64 0, .int .i64 0, .slice none 0 0], .bool false]) (by simp [results, Try.results20, go_sem, E0, E1, E2]) rfl ⟨_, rfl, .inl ⟨rfl, rfl⟩, ((B.out.setCell (by show w.heap.size ≤ w.heap.size + 1; omega) _).setCell (by show w.heap.size ≤ w.heap.size + 1; omega) _).setCell (by show w.heap.size ≤ w.heap.size + 1; omega) _⟩
    · have E : Hid (crossM r c row col xs = MR.no) := by show crossM r c row col xs = _; unfold crossM; rw [if_neg (fun h => h1 h.2.1)]
      have h1 : row < 0 ∨ r - 1 < row := by omega
      have v1 : IntKind.i64.wrap (r - 1) = r - 1 := IntWalk.i64_in _ (by omega)
      have H := Lib.hid h
      have M := Lib.hid hm
      obtain ⟨n, hx⟩ : ∃ n, xs.length = n := ⟨_, rfl⟩
      have HX := Lib.hid hx
      rw [hx] at hn ⊢
      clear hx h hm l1
      go_enter Try.func20, Try.ntmps20
      go_wp2_with fail
      have ST := sIsMat r c a m xs _ (H.out.below (BH.out (.cells #[.int .i64 r, .int .i64 c, .slice a n m] 27) (.cells #[.int .i64 0, .int .i64 0, .slice none 0 0] 27))) (by rw [HX.out]; omega)
      rw [HX.out] at ST
      refine ST.mono ?_
      clear ST
      rintro e w1 ⟨rfl, hb⟩
      have K0 : Hid (Blk3 w1 w.heap.size 27 (.int .i64 r) (.int .i64 c) (.slice a n m)) := ((Blk3.at_ _ _ _ _ rfl).old _).keep hb (by simp <;> omega)
      have K2 : Hid (Blk3 w1 (w.heap.size + 1) 27 (.int .i64 0) (.int .i64 0) (.slice none 0 0)) := (Blk3.at_ _ _ _ _ (by simp)).keep hb (by simp)
      have B : Hid (Below w.heap.size w w1) := (BH.out _ _).trans (hb.mono (by simp <;> omega))
      clear hb
      obtain ⟨ca0, ca1, ca2, -, -, -⟩ := K0.out.all
      obtain ⟨cc0, cc1, cc2, ff0, ff1, ff2⟩ := K2.out.all
      rw [M.out]
      go_wp2_with fail
      refine (sIn_f row 0 (r - 1) _ h1).mono ?_
      rintro e w' ⟨rfl, rfl⟩
      go_wp2_with fail
      obtain ⟨E0, E1, E2, -, -, -⟩ := (K2.out.set3 (.int .i64 0) (.int .i64 0) (.slice none 0 0)).all
      rw [E.out]
      exact bodyPost_ret (v := .tuple #[.agg #[.int .i64 0, .int .i64 0, .slice none 0 0], .bool false]) (by simp [results, Try.results20, go_sem, E0, E1, E2]) rfl ⟨_, rfl, .inl ⟨rfl, rfl⟩, ((B.out.setCell (by show w.heap.size ≤ w.heap.size + 1; omega) _).setCell (by show w.heap.size ≤ w.heap.size + 1; omega) _).setCell (by show w.heap.size ≤ w.heap.size + 1; omega) _⟩
  · have E : Hid (crossM r c row col xs = MR.no) := by show crossM r c row col xs = _; unfold crossM; rw [if_neg (fun h => absurd h.1 (by rw [hm]; decide))]
    have H := Lib.hid h
    have M := Lib.hid hm
    obtain ⟨n, hx⟩ : ∃ n, xs.length = n := ⟨_, rfl⟩
    have HX := Lib.hid hx
    rw [hx] at hn ⊢
    clear hx h hm
    go_enter Try.func20, Try.ntmps20
    go_wp2_with fail
    have ST := sIsMat r c a m xs _ (H.out.below (BH.out (.cells #[.int .i64 r, .int .i64 c, .slice a n m] 27) (.cells #[.int .i64 0, .int .i64 0, .slice none 0 0] 27))) (by rw [HX.out]; omega)
    rw [HX.out] at ST
    refine ST.mono ?_
    clear ST
    rintro e w1 ⟨rfl, hb⟩
    have K0 : Hid (Blk3 w1 w.heap.size 27 (.int .i64 r) (.int .i64 c) (.slice a n m)) := ((Blk3.at_ _ _ _ _ rfl).old _).keep hb (by simp <;> omega)
    have K2 : Hid (Blk3 w1 (w.heap.size + 1) 27 (.int .i64 0) (.int .i64 0) (.slice none 0 0)) := (Blk3.at_ _ _ _ _ (by simp)).keep hb (by simp)
    have B : Hid (Below w.heap.size w w1) := (BH.out _ _).trans (hb.mono (by simp <;> omega))
    clear hb
    obtain ⟨ca0, ca1, ca2, -, -, -⟩ := K0.out.all
    obtain ⟨cc0, cc1, cc2, ff0, ff1, ff2⟩ := K2.out.all
    rw [M.out]
    go_wp2_with fail
    obtain ⟨E0, E1, E2, -, -, -⟩ := (K2.out.set3 (.int .i64 0) (.int .i64 0) (.slice none 0 0)).all
    rw [E.out]
    exact bodyPost_ret (v := .tuple #[.agg #[.int .i64 0, .int .i64 0, .slice none 0 0], .bool false]) (by simp [results, Try.results20, go_sem, E0, E1, E2]) rfl ⟨_, rfl, .inl ⟨rfl, rfl⟩, ((B.out.setCell (by show w.heap.size ≤ w.heap.size + 1; omega) _).setCell (by show w.heap.size ≤ w.heap.size + 1; omega) _).setCell (by show w.heap.size ≤ w.heap.size + 1; omega) _⟩
end Go.Proofs.Ytdnajkoeojlnbaa
