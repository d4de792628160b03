/-
  Chapter 3, in the program: a matrix copied.
-/
import Derived.Test.YtbdofgkcedpamaaCloneI
import Derived.Deep.RegionHeld3
import Derived.Deep.DeepCutAuto
namespace Go.Proofs.Ytbdofgkcedpamaa
set_option maxRecDepth 100000
open Go.RowKit

def CopyM (r c : Int) (n : Nat) (zs : List Int) (w : World) (e : Ending) (w' : World) : Prop := ∃ q qc, e = .returned (.agg #[.int .i64 r, .int .i64 c, .slice q n qc]) ∧ Own w.heap.size w' (.slice q n qc) zs ∧ Below w.heap.size w w'
theorem Own.far {B : Nat} {w : World} {v : Value} {zs : List Int} (h : Own B w v zs) {a : Addr} (ha : a.block < B) (u : Value) : Own B (w.setCell a u) v zs := by
  rcases h with h | ⟨g, cap, hv, hB, hi, hl⟩
  · exact .inl h
  · exact .inr ⟨g, cap, hv, hB, hi.far (by omega) u, hl⟩
set_option maxHeartbeats 400000 in
theorem iCopyOf (r c : Int) (a : Option Addr) (cap n : Nat) (zs : List Int) (hz : zs.length = n) (w : World) (h : Rd w a zs) (hn : n ≤ 16777216) :
    Calls Try.prog 50 #[.agg #[.int .i64 r, .int .i64 c, .slice a n cap]] w (CopyM r c n zs w) := by
  have H := Lib.hid h
  have HZ := Lib.hid hz
  have K0 : Hid (Blk3 ((w.alloc (.cells #[.int .i64 r, .int .i64 c, .slice a n cap] 26)).alloc (.cells #[.int .i64 0, .int .i64 0, .slice none 0 0] 26)) w.heap.size 26 (.int .i64 r) (.int .i64 c) (.slice a n cap)) := (Blk3.at_ _ _ _ _ rfl).old _
  have K1 : Hid (Blk3 ((w.alloc (.cells #[.int .i64 r, .int .i64 c, .slice a n cap] 26)).alloc (.cells #[.int .i64 0, .int .i64 0, .slice none 0 0] 26)) (w.heap.size + 1) 26 (.int .i64 0) (.int .i64 0) (.slice none 0 0)) := Blk3.at_ _ _ _ _ (by simp)
  have B : Hid (Below w.heap.size w ((w.alloc (.cells #[.int .i64 r, .int .i64 c, .slice a n cap] 26)).alloc (.cells #[.int .i64 0, .int .i64 0, .slice none 0 0] 26))) := ((Below.refl _ _).alloc (Nat.le_refl _) _).alloc (by simp) _
  clear h hz
  go_enter Try.func50, Try.ntmps50
  go_wp2_with fail
  refine wp_region_held_drew (S := fun w' => Blk3 w' w.heap.size 26 (.int .i64 r) (.int .i64 c) (.slice a n cap) ∧ (∃ p q r, Blk3 w' (w.heap.size + 1) 26 p q r) ∧ Below w.heap.size w w') (by kernel_rfl) ⟨K0.out.drew, ⟨_, _, _, K1.out.drew⟩, B.out.drew⟩ (fun hH => ?_)
  refine wpAnyH_take (i := 0) (v := ?_) (by simp only [List.getElem?_toArray, List.getElem?_cons_zero]; rfl) (by kernel_rfl) (by kernel_rfl) (by kernel_rfl) (by exact fun _ _ _ h => h) (Or.inl ⟨by rfl, ?_⟩) hH ?_
  rotate_left
  · (intro wS hS; (try dsimp only at hS); obtain ⟨hS, -, -⟩ := hS; obtain ⟨k1, k2, k3, -, -, -⟩ := hS.all; go_simp; try rfl)
  try simp only [Act.put, List.setIfInBounds_toArray, List.set_cons_zero, List.set_cons_succ]
  refine wpAnyH_take (i := 1) (v := ?_) (by simp only [List.getElem?_toArray, List.getElem?_cons_succ, List.getElem?_cons_zero]; rfl) (by kernel_rfl) (by kernel_rfl) (by kernel_rfl) (by exact fun _ _ _ h => h) (Or.inl ⟨by rfl, ?_⟩) hH ?_
  rotate_left
  · (intro wS hS; (try dsimp only at hS); obtain ⟨hS, -, -⟩ := hS; obtain ⟨k1, k2, k3, -, -, -⟩ := hS.all; go_simp; try rfl)
  try simp only [Act.put, List.setIfInBounds_toArray, List.set_cons_zero, List.set_cons_succ]
  refine wpAnyH_take (i := 2) (v := ?_) (by simp only [List.getElem?_toArray, List.getElem?_cons_succ, List.getElem?_cons_zero]; rfl) (by kernel_rfl) (by kernel_rfl) (by kernel_rfl) (by exact fun _ _ _ h => h) (Or.inl ⟨by rfl, ?_⟩) hH ?_
  rotate_left
  · (intro wS hS; (try dsimp only at hS); obtain ⟨hS, -, -⟩ := hS; obtain ⟨k1, k2, k3, -, -, -⟩ := hS.all; go_simp; try rfl)
  try simp only [Act.put, List.setIfInBounds_toArray, List.set_cons_zero, List.set_cons_succ]
  refine wpAnyH_take (i := 3) (v := ?_) (by simp only [List.getElem?_toArray, List.getElem?_cons_succ, List.getElem?_cons_zero]; rfl) (by kernel_rfl) (by kernel_rfl) (by kernel_rfl) (by exact fun _ _ _ h => h) (Or.inl ⟨by rfl, ?_⟩) hH ?_
  rotate_left
  · (intro wS hS; (try dsimp only at hS); obtain ⟨hS, -, -⟩ := hS; obtain ⟨k1, k2, k3, -, -, -⟩ := hS.all; go_simp; try rfl)
  try simp only [Act.put, List.setIfInBounds_toArray, List.set_cons_zero, List.set_cons_succ]
  refine wpAnyH_take (i := 4) (v := ?_) (by simp only [List.getElem?_toArray, List.getElem?_cons_succ, List.getElem?_cons_zero]; rfl) (by kernel_rfl) (by kernel_rfl) (by kernel_rfl) (by exact fun _ _ _ h => h) (Or.inl ⟨by rfl, ?_⟩) hH ?_
  rotate_left
  · (intro wS hS; (try dsimp only at hS); obtain ⟨hS, -, -⟩ := hS; obtain ⟨k1, k2, k3, -, -, -⟩ := hS.all; go_simp; try rfl)
  try simp only [Act.put, List.setIfInBounds_toArray, List.set_cons_zero, List.set_cons_succ]
  refine wpAnyH_take (i := 5) (v := ?_) (by simp only [List.getElem?_toArray, List.getElem?_cons_succ, List.getElem?_cons_zero]; rfl) (by kernel_rfl) (by kernel_rfl) (by kernel_rfl) (by exact fun _ _ _ h => h) (Or.inl ⟨by rfl, ?_⟩) hH ?_
  rotate_left
  · (intro wS hS; (try dsimp only at hS); obtain ⟨hS, -, -⟩ := hS; obtain ⟨k1, k2, k3, -, -, -⟩ := hS.all; go_simp; try rfl)
  try simp only [Act.put, List.setIfInBounds_toArray, List.set_cons_zero, List.set_cons_succ]
  refine wpAnyH_ready (rs := [6]) (by kernel_rfl) (by simp) ?_
  refine AllReadyH.cons (by simp only [List.getElem?_toArray, List.getElem?_cons_succ, List.getElem?_cons_zero]; rfl) (fun K hK => ?_) AllReadyH.nil
  go_simp
  obtain ⟨hH0, ⟨p, q, s, hH1⟩, hH2⟩ := hH
  have l1 := hH1.lt
  (with_reducible refine (iCloneN a cap n zs HZ.out _ (H.out.below hH2) (by omega)).mono ?_)
  rintro e v1 ⟨q0, qc, rfl, own, hb1⟩
  try dsimp only
  have J0 := Lib.hid (hH0.step hb1)
  have J1 := Lib.hid (hH1.step hb1)
  have JB := Lib.hid (stepB hH2 hb1)
  have O := Lib.hid own
  have l2 : w.heap.size + 1 < _ := l1
  refine hK.out _ _ ⟨J0.out, ⟨_, _, _, J1.out⟩, JB.out⟩ (fun hH => ?_)
  clear hK K own
  try simp only [Act.put, List.setIfInBounds_toArray, List.set_cons_zero, List.set_cons_succ]
  refine wpAnyH_take (i := 7) (v := ?_) (by simp only [List.getElem?_toArray, List.getElem?_cons_succ, List.getElem?_cons_zero]; rfl) (by kernel_rfl) (by kernel_rfl) (by kernel_rfl) (by exact fun _ _ _ h => h) (Or.inl ⟨by rfl, ?_⟩) hH ?_
  rotate_left
  · (intro wS hS; clear hS; go_simp; try rfl)
  try simp only [Act.put, List.setIfInBounds_toArray, List.set_cons_zero, List.set_cons_succ]
  refine wpAnyH_ready (rs := [8]) (by kernel_rfl) (by simp) ?_
  refine AllReadyH.cons (by simp only [List.getElem?_toArray, List.getElem?_cons_succ, List.getElem?_cons_zero]; rfl) (fun K hK => ?_) AllReadyH.nil
  obtain ⟨y0, y1, y2, y3, y4, y5⟩ := J1.out.all
  clear hH
  go_simp
  have Z0 := Lib.hid (((J0.out.far (a := ⟨w.heap.size + 1, 0, none⟩) (by simp) (.int .i64 r)).far (a := ⟨w.heap.size + 1, 1, none⟩) (by simp) (.int .i64 c)).far (a := ⟨w.heap.size + 1, 2, none⟩) (by simp) (.slice q0 n qc))
  have Z1 := Lib.hid (((J1.out.set0 (.int .i64 r)).set1 (.int .i64 c)).set2 (.slice q0 n qc))
  have OO := Lib.hid (((O.out.far (a := ⟨w.heap.size + 1, 0, none⟩) l2 (.int .i64 r)).far (a := ⟨w.heap.size + 1, 1, none⟩) l2 (.int .i64 c)).far (a := ⟨w.heap.size + 1, 2, none⟩) l2 (.slice q0 n qc))
  refine hK.out _ _ ⟨Z0.out, ⟨_, _, _, Z1.out⟩, ((JB.out.setCell (Nat.le_succ _) _).setCell (Nat.le_succ _) _).setCell (Nat.le_succ _) _⟩ (fun hH => ?_)
  have ZB := Lib.hid hH.2.2
  clear hK K hH
  refine wpAnyH_done (by kernel_rfl) ?_ _
  go_wp2_with fail
  obtain ⟨E0, E1, E2, -, -, -⟩ := Z1.out.all
  exact bodyPost_ret (v := .agg #[.int .i64 r, .int .i64 c, .slice q0 n qc]) (by simp [results, Try.results50, go_sem, E0, E1, E2]) rfl ⟨q0, qc, rfl, OO.out.le (by omega), ZB.out⟩
end Go.Proofs.Ytbdofgkcedpamaa
