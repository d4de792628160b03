/-
  Chapter 5, in the model: UndoRowOp, OpMatrix.
-/
import Derived.Test.YtiggioccmlbhhaaRow4
import Derived.Test.YtiggioccmlbhhaaMatS9
namespace Go.Proofs.Ytiggioccmlbhhaa
open Go.RowKit

def unT (k t : Int) : Int := if k = 2 then wrap64 (-t) else t
theorem Blk4.set3 {w : World} {b : Nat} {t : TypeId} {p q r s : Value} (h : Blk4 w b t p q r s) (u : Value) : Blk4 (w.setCell ⟨b, 3, none⟩ u) b t p q r u := by
  unfold Blk4 at *
  obtain ⟨hlt, hget⟩ := Array.getElem?_eq_some_iff.mp h
  simp [World.setCell, hlt, Array.getElem_modify, hget]
set_option maxHeartbeats 1000000 in
theorem sUndo (k i j t : Int) (w : World) : Calls Try.prog 32 #[.agg #[.int .i64 k, .int .i64 i, .int .i64 j, .int .i64 t]] w (Gives (.agg #[.int .i64 k, .int .i64 i, .int .i64 j, .int .i64 (unT k t)]) w) := by
  have BB : ∀ o p, Below w.heap.size w ((w.alloc o).alloc p) := fun o p => ((Below.refl _ _).alloc (Nat.le_refl _) _).alloc (by simp) _
  by_cases hk : k = 2
  · have E : Hid (unT k t = wrap64 (-t)) := by show unT k t = _; unfold unT; rw [if_pos hk]
    have n1 : (k == 2) = true := by simpa using hk
    clear hk
    go_enter Try.func32, Try.ntmps32
    go_wp2_with fail
    rw [E.out]
    exact bodyPost_ret (v := .agg #[.int .i64 k, .int .i64 i, .int .i64 j, .int .i64 (wrap64 (-t))]) (by simp [results, Try.results32, go_sem]) rfl ⟨rfl, BB _ _⟩
  · have E : Hid (unT k t = t) := by show unT k t = _; unfold unT; rw [if_neg hk]
    have n1 : (k == 2) = false := by simpa using hk
    clear hk
    go_enter Try.func32, Try.ntmps32
    go_wp2_with fail
    rw [E.out]
    exact bodyPost_ret (v := .agg #[.int .i64 k, .int .i64 i, .int .i64 j, .int .i64 t]) (by simp [results, Try.results32, go_sem]) rfl ⟨rfl, BB _ _⟩
/-! ### OpMatrix -/
def opMat (k i j t n : Int) : MR := if isOp k i j t n = true then opM k i j t n n (idL n.toNat n.toNat) else MR.no
set_option maxHeartbeats 1000000 in
theorem sOpMat_t (k i j t : Int) (n : Nat) (w : World) (hn : n ≤ 24) (hp : 0 < n) (ho : isOp k i j t n = true) : Calls Try.prog 35 #[.agg #[.int .i64 k, .int .i64 i, .int .i64 j, .int .i64 t], .int .i64 n] w (MatRes (opM k i j t n n (idL n n)) w) := by
  have hsq : 0 < n * n := Nat.mul_pos hp hp
  have hle : n * n ≤ 24 * 24 := Nat.mul_le_mul hn hn
  have OP := Lib.hid ho
  have B0 : ∀ o1 o2, Below w.heap.size w ((w.alloc o1).alloc o2) := fun o1 o2 => ((Below.refl _ _).alloc (Nat.le_refl _) _).alloc (by simp) _
  have BH := Lib.hid B0
  clear ho B0
  go_enter Try.func35, Try.ntmps35
  go_wp2_with fail
  refine (sIsOp k i j t n _).mono ?_
  rintro e w2 ⟨rfl, hb⟩
  have K1 : Hid (Blk4 w2 w.heap.size 43 (.int .i64 k) (.int .i64 i) (.int .i64 j) (.int .i64 t)) := ((Blk4.at_ _ _ _ _ _ rfl).old _).keep hb (by simp <;> omega)
  have K2 : Hid (Blk3 w2 (w.heap.size + 1) 26 (.int .i64 0) (.int .i64 0) (.slice none 0 0)) := (Blk3.at_ _ _ _ _ (by simp)).keep hb (by simp)
  have B : Hid (Below w.heap.size w w2) := (BH.out _ _).trans (hb.mono (by simp <;> omega))
  clear hb
  rw [OP.out]
  go_wp2_with fail
  refine (sIdent_t n _ hn).mono ?_
  rintro e w3 ⟨v, rfl, ho, hb⟩
  have K1 := Lib.hid (K1.out.step hb)
  have K2 := Lib.hid (K2.out.step hb)
  have B := Lib.hid (stepB B.out hb)
  obtain ⟨-, hz⟩ | ⟨g, cap, hv, hg, hI, hc, hl⟩ := ho
  · exfalso
    have h1 := congrArg List.length hz
    rw [idL_length] at h1
    simp at h1
    omega
  subst hv
  clear hl hc
  have l1 := K1.out.lt
  have l2 := K2.out.lt
  have K1 := Lib.hid (K1.out.old (.cells #[.int .i64 n, .int .i64 n, .slice (some ⟨g, 0, none⟩) (idL n n).length cap] 26))
  have K2 := Lib.hid (K2.out.old (.cells #[.int .i64 n, .int .i64 n, .slice (some ⟨g, 0, none⟩) (idL n n).length cap] 26))
  have K3 : Hid (Blk3 (w3.alloc (.cells #[.int .i64 n, .int .i64 n, .slice (some ⟨g, 0, none⟩) (idL n n).length cap] 26)) w3.heap.size 26 (.int .i64 n) (.int .i64 n) (.slice (some ⟨g, 0, none⟩) (idL n n).length cap)) := Blk3.at_ _ _ _ _ rfl
  have I := Lib.hid (hI.old (.cells #[.int .i64 n, .int .i64 n, .slice (some ⟨g, 0, none⟩) (idL n n).length cap] 26))
  have B := Lib.hid (B.out.alloc B.out.size (.cells #[.int .i64 n, .int .i64 n, .slice (some ⟨g, 0, none⟩) (idL n n).length cap] 26))
  clear hb hI
  obtain ⟨ca0, ca1, ca2, -, -, -⟩ := K3.out.all
  obtain ⟨cb0, cb1, cb2, cb3⟩ := K1.out.all
  go_wp2_with fail
  refine (sOp k i j t n n _ cap (idL n n) _ I.out.rd (by rw [idL_length]; omega) (.inr ⟨g, 0, rfl⟩)).mono ?_
  rintro e w5 ⟨v, rfl, ho, hb⟩
  obtain ⟨mr, hmr⟩ : ∃ m, opM k i j t n n (idL n n) = m := ⟨_, rfl⟩
  rw [hmr] at ho ⊢
  have HMR := Lib.hid hmr
  clear hmr
  have K2 := Lib.hid (K2.out.step hb)
  have B := Lib.hid (stepB B.out hb)
  have O : Hid (Own (w.heap.size + 1 + 1) w5 v mr.zs) := ho.le (by simp; omega)
  clear hb ho
  obtain ⟨q, qc, rfl, -, -⟩ := O.out.form
  have l5 := K2.out.lt
  obtain ⟨dd0, dd1, dd2, df0, df1, df2⟩ := K2.out.all
  have K6 : Hid (Blk3 (w5.alloc (.cells #[.int .i64 mr.r, .int .i64 mr.c, .slice q mr.zs.length qc] 26)) w5.heap.size 26 (.int .i64 mr.r) (.int .i64 mr.c) (.slice q mr.zs.length qc)) := Blk3.at_ _ _ _ _ rfl
  obtain ⟨dc0, dc1, dc2, -, -, -⟩ := K6.out.all
  go_wp2_with fail
  obtain ⟨E0, E1, E2, -, -, -⟩ := ((K2.out.set3 (.int .i64 mr.r) (.int .i64 mr.c) (.slice q mr.zs.length qc)).old (.cells #[.int .i64 mr.r, .int .i64 mr.c, .slice q mr.zs.length qc] 26)).all
  rw [HMR.out]
  refine bodyPost_ret (v := .tuple #[.agg #[.int .i64 mr.r, .int .i64 mr.c, .slice q mr.zs.length qc], .bool mr.ok]) (by simp [results, Try.results35, go_sem, E0, E1, E2]) rfl ⟨_, rfl, ?_, ?_⟩
  · exact ((((O.out.far (by show w.heap.size + 1 < w.heap.size + 1 + 1; omega) _).far (by show w.heap.size + 1 < w.heap.size + 1 + 1; omega) _).far (by show w.heap.size + 1 < w.heap.size + 1 + 1; omega) _).keep ((Below.refl _ _).alloc (Nat.le_refl _) _)).le (by omega)
  · exact (((B.out.setCell (by show w.heap.size ≤ w.heap.size + 1; omega) _).setCell (by show w.heap.size ≤ w.heap.size + 1; omega) _).setCell (by show w.heap.size ≤ w.heap.size + 1; omega) _).alloc (by have := B.out.size; simpa using this) _
theorem sOpMat (k i j t n : Int) (w : World) : Calls Try.prog 35 #[.agg #[.int .i64 k, .int .i64 i, .int .i64 j, .int .i64 t], .int .i64 n] w (MatRes (opMat k i j t n) w) := by
  rcases Bool.eq_false_or_eq_true (isOp k i j t n) with ho | ho
  · obtain ⟨-, ⟨n1, n2⟩, ⟨i1, i2⟩, -, -, -⟩ := isOp_says ho
    obtain ⟨N, rfl⟩ := Int.eq_ofNat_of_zero_le n1
    have E : opMat k i j t N = opM k i j t N N (idL N N) := by unfold opMat; rw [if_pos ho]; rfl
    rw [E]
    exact sOpMat_t k i j t N w (by omega) (by omega) ho
  · have E : Hid (opMat k i j t n = MR.no) := by show opMat k i j t n = _; unfold opMat; rw [ho]; rfl
    have OP := Lib.hid ho
    clear ho
    have B0 : ∀ o1 o2, Below w.heap.size w ((w.alloc o1).alloc o2) := fun o1 o2 => ((Below.refl _ _).alloc (Nat.le_refl _) _).alloc (by simp) _
    have BH := Lib.hid B0
    clear B0
    go_enter Try.func35, Try.ntmps35
    go_wp2_with fail
    refine (sIsOp k i j t n _).mono ?_
    rintro e w2 ⟨rfl, hb⟩
    have K2 : Hid (Blk3 w2 (w.heap.size + 1) 26 (.int .i64 0) (.int .i64 0) (.slice none 0 0)) := (Blk3.at_ _ _ _ _ (by simp)).keep hb (by simp)
    have B : Hid (Below w.heap.size w w2) := (BH.out _ _).trans (hb.mono (by simp <;> omega))
    clear hb
    obtain ⟨dd0, dd1, dd2, df0, df1, df2⟩ := K2.out.all
    rw [OP.out]
    go_wp2_with fail
    obtain ⟨E0, E1, E2, -, -, -⟩ := (K2.out.set3 (.int .i64 0) (.int .i64 0) (.slice none 0 0)).all
    rw [E.out]
    exact bodyPost_ret (v := .tuple #[.agg #[.int .i64 0, .int .i64 0, .slice none 0 0], .bool false]) (by simp [results, Try.results35, go_sem, E0, E1, E2]) rfl ⟨_, rfl, .inl ⟨rfl, rfl⟩, ((B.out.setCell (by show w.heap.size ≤ w.heap.size + 1; omega) _).setCell (by show w.heap.size ≤ w.heap.size + 1; omega) _).setCell (by show w.heap.size ≤ w.heap.size + 1; omega) _⟩
end Go.Proofs.Ytiggioccmlbhhaa
