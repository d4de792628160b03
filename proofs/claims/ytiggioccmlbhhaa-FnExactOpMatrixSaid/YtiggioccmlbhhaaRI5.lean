/-
  Chapter 5, in the program: OpMatrix.
-/
import Derived.Test.YtiggioccmlbhhaaRI4
import Derived.Test.YtiggioccmlbhhaaRow5
import Derived.Test.YtiggioccmlbhhaaRow6
import Derived.Test.YtiggioccmlbhhaaMatI3
namespace Go.Proofs.Ytiggioccmlbhhaa
open Go.RowKit

set_option maxRecDepth 100000 in
set_option maxHeartbeats 1000000 in
theorem iOpMat_t (k i j t : Int) (n : Nat) (w : World) (hn : n ≤ 24) : Calls Try.prog 36 #[.agg #[.int .i64 k, .int .i64 i, .int .i64 j, .int .i64 t], .int .i64 n] w (MatRes (opM k i j t n n (idL n n)) w) := by
  have hle : n * n ≤ 24 * 24 := Nat.mul_le_mul hn hn
  have B0 : ∀ o1 o2, Below w.heap.size w ((w.alloc o1).alloc o2) := fun o1 o2 => ((Below.refl _ _).alloc (Nat.le_refl _) _).alloc (by simp) _
  have BH := Lib.hid B0
  clear B0
  go_enter Try.func36, Try.ntmps36
  go_wp2_with fail
  refine (iIdent_t n _ hn).mono ?_
  rintro e w3 ⟨v, rfl, ho, hb⟩
  dsimp only at ho ⊢
  have K1 : Hid (Blk4 w3 w.heap.size 43 (.int .i64 k) (.int .i64 i) (.int .i64 j) (.int .i64 t)) := ((Blk4.at_ _ _ _ _ _ rfl).old _).keep hb (by simp <;> omega)
  have K2 : Hid (Blk3 w3 (w.heap.size + 1) 26 (.int .i64 0) (.int .i64 0) (.slice none 0 0)) := (Blk3.at_ _ _ _ _ (by simp)).keep hb (by simp)
  have B : Hid (Below w.heap.size w w3) := (BH.out _ _).trans (hb.mono (by simp <;> omega))
  obtain ⟨q, qc, rfl, -, -⟩ := ho.form
  obtain ⟨s1, s2, -, s4⟩ := ho.spot
  have S1 := Lib.hid (Rd.below s1 ((Below.refl _ _).alloc (Nat.le_refl _) (.cells #[.int .i64 n, .int .i64 n, .slice q (idL n n).length qc] 26)))
  have S2 := Lib.hid s2
  have S4 := Lib.hid s4
  have l1 := K1.out.lt
  have l2 := K2.out.lt
  have K1 := Lib.hid (K1.out.old (.cells #[.int .i64 n, .int .i64 n, .slice q (idL n n).length qc] 26))
  have K2 := Lib.hid (K2.out.old (.cells #[.int .i64 n, .int .i64 n, .slice q (idL n n).length qc] 26))
  have K3 : Hid (Blk3 (w3.alloc (.cells #[.int .i64 n, .int .i64 n, .slice q (idL n n).length qc] 26)) w3.heap.size 26 (.int .i64 n) (.int .i64 n) (.slice q (idL n n).length qc)) := Blk3.at_ _ _ _ _ rfl
  have B := Lib.hid (B.out.alloc B.out.size (.cells #[.int .i64 n, .int .i64 n, .slice q (idL n n).length qc] 26))
  clear hb ho s1 s2 s4
  obtain ⟨ca0, ca1, ca2, -, -, -⟩ := K3.out.all
  obtain ⟨cb0, cb1, cb2, cb3⟩ := K1.out.all
  go_wp2_with fail
  refine (iOp k i j t n n q qc (idL n n) _ S1.out S4.out S2.out).mono ?_
  rintro e w5 ⟨v, rfl, ho, hb⟩
  obtain ⟨mr, hmr⟩ : ∃ m, opM k i j t n n (idL n n) = m := ⟨_, rfl⟩
  rw [hmr] at ho ⊢
  have HMR := Lib.hid hmr
  clear hmr
  have K2 := Lib.hid (K2.out.step hb)
  have B := Lib.hid (stepB B.out hb)
  have O : Hid (Own (w.heap.size + 1 + 1) w5 v mr.zs) := ho.le (by simp; omega)
  clear hb ho
  obtain ⟨q, qc, rfl, -, -⟩ := O.out.form
  have l5 := K2.out.lt
  obtain ⟨dd0, dd1, dd2, df0, df1, df2⟩ := K2.out.all
  go_wp2_with fail
  obtain ⟨E0, E1, E2, -, -, -⟩ := (K2.out.set3 (.int .i64 mr.r) (.int .i64 mr.c) (.slice q mr.zs.length qc)).all
  rw [HMR.out]
  refine bodyPost_ret (v := .tuple #[.agg #[.int .i64 mr.r, .int .i64 mr.c, .slice q mr.zs.length qc], .bool mr.ok]) (by simp [results, Try.results36, go_sem, E0, E1, E2]) rfl ⟨_, rfl, ?_, ?_⟩
  · exact (((O.out.far (by show w.heap.size + 1 < w.heap.size + 1 + 1; omega) _).far (by show w.heap.size + 1 < w.heap.size + 1 + 1; omega) _).far (by show w.heap.size + 1 < w.heap.size + 1 + 1; omega) _).le (by omega)
  · exact ((B.out.setCell (by show w.heap.size ≤ w.heap.size + 1; omega) _).setCell (by show w.heap.size ≤ w.heap.size + 1; omega) _).setCell (by show w.heap.size ≤ w.heap.size + 1; omega) _
theorem iOpMat (k i j t n : Int) (w : World) : Calls Try.prog 36 #[.agg #[.int .i64 k, .int .i64 i, .int .i64 j, .int .i64 t], .int .i64 n] w (MatRes (opMat k i j t n) w) := by
  by_cases hn : 0 ≤ n ∧ n ≤ 24
  · obtain ⟨N, rfl⟩ := Int.eq_ofNat_of_zero_le hn.1
    have E : opMat k i j t N = opM k i j t N N (idL N N) := by
      unfold opMat
      by_cases ho : isOp k i j t N = true
      · rw [if_pos ho]; rfl
      · rw [if_neg ho]; unfold opM; rw [show isOp k i j t N = false by simpa using ho]; simp
    rw [E]
    exact iOpMat_t k i j t N w (by omega)
  · have E : Hid (opMat k i j t n = MR.no) := by
      show opMat k i j t n = _
      unfold opMat
      rw [if_neg (fun h => hn (isOp_says h).2.1)]
    have E2 : Hid (idM n = MR.no) := by show idM n = _; unfold idM; rw [if_neg hn]
    clear hn
    have B0 : ∀ o1 o2, Below w.heap.size w ((w.alloc o1).alloc o2) := fun o1 o2 => ((Below.refl _ _).alloc (Nat.le_refl _) _).alloc (by simp) _
    have BH := Lib.hid B0
    clear B0
    go_enter Try.func36, Try.ntmps36
    go_wp2_with fail
    refine (iIdent n _).mono ?_
    rw [E2.out]
    rintro e w2 ⟨v, rfl, ho, hb⟩
    unfold MR.no at ho ⊢
    dsimp only at ho ⊢
    have K2 : Hid (Blk3 w2 (w.heap.size + 1) 26 (.int .i64 0) (.int .i64 0) (.slice none 0 0)) := (Blk3.at_ _ _ _ _ (by simp)).keep hb (by simp)
    have B : Hid (Below w.heap.size w w2) := (BH.out _ _).trans (hb.mono (by simp <;> omega))
    obtain ⟨q, qc, rfl, -, -⟩ := ho.form
    clear hb ho
    have l2 := K2.out.lt
    obtain ⟨dd0, dd1, dd2, df0, df1, df2⟩ := K2.out.all
    dsimp only [List.length_nil]
    go_wp2_with fail
    obtain ⟨E0, E1, E2, -, -, -⟩ := ((K2.out.set3 (.int .i64 0) (.int .i64 0) (.slice none 0 0)).old (.cells #[.int .i64 0, .int .i64 0, .slice q 0 qc] 26)).all
    rw [E.out]
    exact bodyPost_ret (v := .tuple #[.agg #[.int .i64 0, .int .i64 0, .slice none 0 0], .bool false]) (by simp [results, Try.results36, go_sem, E0, E1, E2]) rfl ⟨_, rfl, .inl ⟨rfl, rfl⟩, (((B.out.setCell (by show w.heap.size ≤ w.heap.size + 1; omega) _).setCell (by show w.heap.size ≤ w.heap.size + 1; omega) _).setCell (by show w.heap.size ≤ w.heap.size + 1; omega) _).alloc (by have := B.out.size; simpa using this) _⟩
end Go.Proofs.Ytiggioccmlbhhaa
