/-
  Chapter 3, in the model: a matrix of zeros.
-/
import Derived.Test.YtbdofgkcedpamaaMatS
import Derived.Test.YtbdofgkcedpamaaLawMat
namespace Go.Proofs.Ytbdofgkcedpamaa
open Go.RowKit

theorem sNew (R C : Nat) (w : World) (hR : R ≤ 4096) (hC : C ≤ 4096) :
    Calls Try.prog 101 #[.int .i64 R, .int .i64 C] w (NewMat R C (List.replicate (R * C) 0) w) := by
  have hm : R * C ≤ 4096 * 4096 := Nat.mul_le_mul hR hC
  have hmk := makeProd R C (by omega)
  have hp1 : (0 : Int) ≤ (R : Int) * (C : Int) := by rw [← Int.natCast_mul]; omega
  have hp2 : (R : Int) * (C : Int) ≤ 16777216 := by rw [← Int.natCast_mul]; omega
  go_enter Try.func101, Try.ntmps101
  go_wp2_with fail
  refine bodyPost_ret (v := .agg #[.int .i64 R, .int .i64 C, .slice (some ⟨w.heap.size + 1, 0, none⟩) (R * C) (R * C)]) (by simp [results, Try.results101, go_sem]) rfl ⟨w.heap.size + 1, by simp, by omega, ?_, ?_⟩
  · exact Ints.made _ (by simp)
  · exact ((Below.refl _ _).alloc (Nat.le_refl _) _).alloc (by simp) _
end Go.Proofs.Ytbdofgkcedpamaa
