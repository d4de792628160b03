/-
  Frames: what they keep of a cursor.
-/
import Derived.Test.YtiggioccmlbhhaaMem
import Derived.Test.YtiggioccmlbhhaaFrB
import Derived.Test.YtiggioccmlbhhaaDraw
namespace Go.Proofs.Ytiggioccmlbhhaa
open Go.RowKit

/-- A new matrix of zeros, of which all is known. -/
theorem sNewC (R C : Nat) (w : World) (hR : R ≤ 4096) (hC : C ≤ 4096) :
    Calls Try.prog 62 #[.int .i64 R, .int .i64 C] w (fun e w' => ∃ g, e = .returned (.agg #[.int .i64 R, .int .i64 C, .slice (some ⟨g, 0, none⟩) (R * C) (R * C)]) ∧ w.heap.size ≤ g ∧ IntsC w' g (R * C) (List.replicate (R * C) 0) ∧ Below w.heap.size w w') := by
  have hm : R * C ≤ 4096 * 4096 := Nat.mul_le_mul hR hC
  have hmk := makeProd R C (by omega)
  have hp1 : (0 : Int) ≤ (R : Int) * (C : Int) := by rw [← Int.natCast_mul]; omega
  have hp2 : (R : Int) * (C : Int) ≤ 16777216 := by rw [← Int.natCast_mul]; omega
  go_enter Try.func62, Try.ntmps62
  go_wp2_with fail
  refine bodyPost_ret (v := .agg #[.int .i64 R, .int .i64 C, .slice (some ⟨w.heap.size + 1, 0, none⟩) (R * C) (R * C)]) (by simp [results, Try.results62, go_sem]) rfl ⟨w.heap.size + 1, rfl, by omega, ?_, ?_⟩
  · exact IntsC.made _ (by omega) (by simp)
  · exact ((Below.refl _ _).alloc (Nat.le_refl _) _).alloc (by simp) _
theorem Cur.frs {w w' : World} {cb : Nat} {p : Nat → Prop} (h : Cur w cb) (hf : FrS p w w') (hb : ∀ k, k ≤ cb → ¬ p k) : Cur w' cb := by
  obtain ⟨a, len, cap, i, x, hk, hi, hl, hby⟩ := h
  refine ⟨a, len, cap, i, x, hk.frs hf (hb _ (Nat.le_refl _)), hi, hl, fun k hkl => ?_⟩
  obtain ⟨b, o, z, ha, hx, h0, h1, hne⟩ := hby k hkl
  have hlt := World.block_lt_of_cell? w _ hx
  exact ⟨b, o, z, ha, (World.cell?_of_block (w := w) (hf.block b (by simpa using hlt) (hb b (by omega)))).trans hx, h0, h1, hne⟩
end Go.Proofs.Ytiggioccmlbhhaa
