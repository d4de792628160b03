/-
  Texts of this seat, joined: Wo · Det3 · DetL · RdCells · DetS · Sq · NumMath · NumAbs · DetO · UptoMath · MulMath · StepL · SameMath · TurnMath · RingMath · Row2
-/
import Derived.IntWalk
import Derived.Deep.RegionHeld3
import Derived.Deep.DeepCutAuto
import Derived.WalkKit
import Derived.Test.YtgemkfcapkfdbaaRows
import Derived.BigQuiet
import Derived.Deep.QuietTactic
import Derived.Lib.Hide
import Derived.Test.YtgemkfcapkfdbaaPk1
import Derived.Test.YtgemkfcapkfdbaaPk2

section
/-
  Chapter 6, in the model: a matrix without a row and a column.
-/
namespace Go.Proofs.Ytgemkfcapkfdbaa
set_option maxRecDepth 100000
open Go.RowKit

theorem cell_of_block {w w' : World} {b : Nat} (h : w'.heap[b]? = w.heap[b]?) (o : Nat) : w'.cell? ⟨b, o, none⟩ = w.cell? ⟨b, o, none⟩ := by simp [World.cell?, h]
/-- In the walk: the boxes of the argument, the result and the matrix that grows. -/
def WoSt (w wr : World) (R C : Int) (v : Value) (zs : List Int) : Prop := ∃ va vm vc, Blk3 wr w.heap.size 34 (.int .i64 R) (.int .i64 C) v ∧ Blk3 wr (w.heap.size + 1) 34 (.int .i64 0) (.int .i64 0) (.slice none 0 0) ∧ Blk3 wr (w.heap.size + 1 + 1) 34 (.int .i64 (R - 1)) (.int .i64 (C - 1)) (.slice va vm vc) ∧ wr.ownsRow (w.heap.size + 1 + 1 + 1) 3 1 (.slice va vm vc) zs.length (zs.map (Value.int .i64)) ∧ Below w.heap.size w wr
set_option maxRecDepth 100000 in
set_option maxHeartbeats 2000000 in
theorem sWo (R C ga oa m : Nat) (row col : Int) (xs : List Int) (w : World) (h : Rd w (some ⟨ga, oa, none⟩) xs) (hx : xs.length = R * C) (hR : R ≤ 24) (hC : C ≤ 24) :
    Calls Try.prog 80 #[.agg #[.int .i64 R, .int .i64 C, .slice (some ⟨ga, oa, none⟩) xs.length m], .int .i64 row, .int .i64 col] w (fun e w' => ∃ v, e = .returned (.agg #[.int .i64 ((R : Int) - 1), .int .i64 ((C : Int) - 1), v]) ∧ Own w.heap.size w' v (woL C row col xs (R * C)) ∧ Below w.heap.size w w') := by
  have hle : R * C ≤ 24 * 24 := Nat.mul_le_mul hR hC
  have H := Lib.hid h
  obtain ⟨n, hn⟩ : ∃ n, xs.length = n := ⟨_, rfl⟩
  have HX := Lib.hid hn
  have HN := Lib.hid hx
  rw [hn] at hx ⊢
  clear hn h
  have HN2 := Lib.hid hx
  clear hx
  go_enter Try.func80, Try.ntmps80
  go_wp2_with fail
  obtain ⟨W, hW⟩ : ∃ W, ((w.alloc (.cells #[.int .i64 R, .int .i64 C, .slice (some ⟨ga, oa, none⟩) n m] 34)).alloc (.cells #[.int .i64 0, .int .i64 0, .slice none 0 0] 34)).alloc (.cells #[.int .i64 ((R : Int) - 1), .int .i64 ((C : Int) - 1), .slice none 0 0] 34) = W := ⟨_, rfl⟩
  have S0 : WoSt w W R C (.slice (some ⟨ga, oa, none⟩) n m) (woL C row col xs 0) := by
    rw [← hW]
    refine ⟨none, 0, 0, ((Blk3.at_ _ _ _ _ rfl).old _).old _, (Blk3.at_ _ _ _ _ (by simp)).old _, Blk3.at_ _ _ _ _ (by simp), ⟨rfl, .inl ⟨rfl, rfl⟩⟩, (((Below.refl _ _).alloc (Nat.le_refl _) _).alloc (by simp) _).alloc (by simp <;> omega) _⟩
  have ST0 := Lib.hid S0
  clear S0
  rw [hW]
  clear hW
  obtain ⟨fi, hfi, hz0, hz1, hz2⟩ := facts_int
  go_loopw [8, 9] (fun i _ wr => ∃ I : Nat, i = .int .i64 I ∧ I ≤ R ∧ WoSt w wr R C (.slice (some ⟨ga, oa, none⟩) n m) (woL C row col xs (I * C))) (fun i _ _ => R - (intOf i).toNat)
  case atStart => exact ⟨0, rfl, by omega, by rw [Nat.zero_mul]; exact ST0.out⟩
  case round =>
    obtain ⟨I, rfl, hI, hst⟩ := hrel
    have ST := Lib.hid hst
    obtain ⟨va, vm, vc, k0, k1, k2, -, -⟩ := hst
    obtain ⟨a0, a1, a2, -, -, -⟩ := k0.all
    obtain ⟨b0, b1, b2, bf0, bf1, bf2⟩ := k1.all
    obtain ⟨c0, c1, c2, -, -, -⟩ := k2.all
    by_cases hlt : I < R
    · clear k0 k1 k2
      go_wp2_with fail
      go_loopw [9] (fun j wr => ∃ J : Nat, j = .int .i64 J ∧ J ≤ C ∧ WoSt w wr R C (.slice (some ⟨ga, oa, none⟩) n m) (woL C row col xs (I * C + J))) (fun j _ => C - (intOf j).toNat)
      case atStart => exact ⟨0, rfl, by omega, ST.out⟩
      case round =>
        obtain ⟨J, rfl, hJ, hst⟩ := hrel
        obtain ⟨va, vm, vc, k0, k1, k2, ho, hb⟩ := hst
        have K0 := Lib.hid k0
        have K1 := Lib.hid k1
        have K2 := Lib.hid k2
        have HO := Lib.hid ho
        have B := Lib.hid hb
        obtain ⟨d0, d1, d2, -, -, -⟩ := k0.all
        obtain ⟨e0, e1, e2, ef0, ef1, ef2⟩ := k2.all
        clear k0 k1 k2 ho hb
        by_cases hjt : J < C
        · have hp : I * C + J < n := by rw [HN2.out]; exact idx_lt hlt hjt
          have dv : (I * C + J) / C = I := idx_div hjt
          have md : (I * C + J) % C = J := idx_mod hjt
          have SAME : Hid (WoSt w wr R C (.slice (some ⟨ga, oa, none⟩) n m) (woL C row col xs (I * C + J))) := ⟨va, vm, vc, K0.out, K1.out, K2.out, HO.out, B.out⟩
          by_cases hrow : (I : Int) = row
          · have WS : Hid (woL C row col xs (I * C + (J + 1)) = woL C row col xs (I * C + J)) := woL_out (p := I * C + J) (by rw [dv, md]; exact fun h => h.1 hrow)
            have n1 : ((I : Int) == row) = true := by simpa using hrow
            have n2 : ((I : Int) != row) = false := by simpa using hrow
            clear dv md
            go_wp2_with fail
            go_roundw
            case rel => exact ⟨J + 1, by go_num, by omega, by rw [WS.out]; exact SAME.out⟩
            case measure => simp [intOf]; omega
          · have n1 : ((I : Int) == row) = false := by simpa using hrow
            have n2 : ((I : Int) != row) = true := by simpa using hrow
            by_cases hcol : (J : Int) = col
            · have WS : Hid (woL C row col xs (I * C + (J + 1)) = woL C row col xs (I * C + J)) := woL_out (p := I * C + J) (by rw [dv, md]; exact fun h => h.2 hcol)
              have n3 : ((J : Int) == col) = true := by simpa using hcol
              have n4 : ((J : Int) != col) = false := by simpa using hcol
              clear dv md
              go_wp2_with fail
              go_roundw
              case rel => exact ⟨J + 1, by go_num, by omega, by rw [WS.out]; exact SAME.out⟩
              case measure => simp [intOf]; omega
            · have n3 : ((J : Int) == col) = false := by simpa using hcol
              have n4 : ((J : Int) != col) = true := by simpa using hcol
              have WS : Hid (woL C row col xs (I * C + (J + 1)) = woL C row col xs (I * C + J) ++ [xs.getD (I * C + J) 0]) := woL_in (p := I * C + J) (by rw [dv, md]; exact ⟨hrow, hcol⟩)
              have LB : Hid ((woL C row col xs (I * C + J)).length ≤ 576) := Nat.le_trans (woL_length _ _ _ _ _) (by have := HN2.out; omega)
              have hnL : Hid (I * C + J < xs.length) := by show _ < xs.length; rw [HX.out]; exact hp
              have c1 : (I : Int) * (C : Int) = ((I * C : Nat) : Int) := (Int.natCast_mul _ _).symm
              have d11 : 0 ≤ (I : Int) * (C : Int) := by rw [c1]; omega
              have d12 : (I : Int) * (C : Int) ≤ 600 := by rw [c1]; have := HN2.out; omega
              have g1 : 0 ≤ (I : Int) * (C : Int) + (J : Int) := by omega
              have g2 : (I : Int) * (C : Int) + (J : Int) < (n : Int) := by rw [c1]; omega
              have g3 : ((I : Int) * (C : Int) + (J : Int)).toNat = I * C + J := by rw [c1]; omega
              have v1 : IntKind.i64.wrap ((I : Int) * (C : Int)) = (I : Int) * (C : Int) := IntWalk.i64_in _ (by omega)
              have v2 : IntKind.i64.wrap ((I : Int) * (C : Int) + (J : Int)) = (I : Int) * (C : Int) + (J : Int) := IntWalk.i64_in _ (by omega)
              have GL : Hid (ga < w.heap.size) := by
                obtain ⟨b', o', eo, hc0⟩ := H.out (I * C + J) hnL.out
                simp only [Option.some.injEq, Addr.mk.injEq] at eo
                obtain ⟨rfl, rfl, -⟩ := eo
                show ga < w.heap.size
                rcases Nat.lt_or_ge ga w.heap.size with h | h
                · exact h
                · simp [World.cell?, Array.getElem?_eq_none h] at hc0
              obtain ⟨b', o', eo, hc⟩ := (H.out.below B.out) (I * C + J) hnL.out
              simp only [Option.some.injEq, Addr.mk.injEq] at eo
              obtain ⟨rfl, rfl, -⟩ := eo
              obtain ⟨z, hz⟩ : ∃ z, xs.getD (I * C + J) 0 = z := ⟨_, rfl⟩
              rw [hz] at hc WS
              obtain ⟨zs, hzs⟩ : ∃ zs, woL C row col xs (I * C + J) = zs := ⟨_, rfl⟩
              rw [hzs] at WS HO LB SAME
              clear dv md c1 hz hzs SAME
              have HO2 : Hid (((wr.alloc (.cells #[.int .i64 z] 3)).drew).ownsRow (w.heap.size + 1 + 1 + 1) 3 1 (.slice va vm vc) zs.length (zs.map (Value.int .i64))) := rows_keep HO.out ((Below.refl _ _).alloc (Nat.le_refl _) _).drew
              have B2 : Hid (Below w.heap.size w ((wr.alloc (.cells #[.int .i64 z] 3)).drew)) := (B.out.alloc B.out.size _).drew
              have bl : ga < w.heap.size := GL.out
              have CF : Hid (∀ wS, FrS (fun k => w.heap.size + 1 + 1 ≤ k) wr wS → wS.cell? ⟨w.heap.size, 0, none⟩ = some (.int .i64 R) ∧ wS.cell? ⟨w.heap.size, 1, none⟩ = some (.int .i64 C) ∧ wS.cell? ⟨w.heap.size, 2, none⟩ = some (.slice (some ⟨ga, oa, none⟩) n m) ∧ wS.cell? ⟨ga, oa + (I * C + J), none⟩ = some (.int .i64 z)) := fun wS hS => ⟨(K0.out.frs hS (by show ¬ (w.heap.size + 1 + 1 ≤ w.heap.size); omega)).cell0, (K0.out.frs hS (by show ¬ (w.heap.size + 1 + 1 ≤ w.heap.size); omega)).cell1, (K0.out.frs hS (by show ¬ (w.heap.size + 1 + 1 ≤ w.heap.size); omega)).cell2, by rw [← hc]; exact cell_of_block (hS.block ga (by have := B.out.size; omega) (by simp; omega)) _⟩
              go_upto_region 9 with fail
              refine wp_region_held_drew (S := fun w' => FrS (fun k => w.heap.size + 1 + 1 ≤ k) wr w') (by kernel_rfl) (FrS.refl _ _).drew (fun hH => ?_)
              refine wpAnyH_take (i := 0) (v := ?_) (by simp only [List.getElem?_toArray, List.getElem?_cons_zero]; rfl) (by kernel_rfl) (by kernel_rfl) (by kernel_rfl) (by exact fun _ _ _ h => h) (Or.inl ⟨by rfl, ?_⟩) hH ?_
              rotate_left
              · (intro wS hS; clear hS; go_simp; try rfl)
              try simp only [Act.put, List.setIfInBounds_toArray, List.set_cons_zero, List.set_cons_succ]
              refine wpAnyH_take (i := 2) (v := ?_) (by simp only [List.getElem?_toArray, List.getElem?_cons_succ, List.getElem?_cons_zero]; rfl) (by kernel_rfl) (by kernel_rfl) (by kernel_rfl) (by exact fun _ _ _ h => h) (Or.inl ⟨by rfl, ?_⟩) hH ?_
              rotate_left
              · (intro wS hS; clear hS; go_simp; try rfl)
              try simp only [Act.put, List.setIfInBounds_toArray, List.set_cons_zero, List.set_cons_succ]
              refine wpAnyH_take (i := 3) (v := ?_) (by simp only [List.getElem?_toArray, List.getElem?_cons_succ, List.getElem?_cons_zero]; rfl) (by kernel_rfl) (by kernel_rfl) (by kernel_rfl) (by exact fun _ _ _ h => h) (Or.inl ⟨by rfl, ?_⟩) hH ?_
              rotate_left
              · (intro wS hS; (try dsimp only at hS); obtain ⟨k1, k2, k3, k4⟩ := CF.out wS hS; go_simp; try rfl)
              try simp only [Act.put, List.setIfInBounds_toArray, List.set_cons_zero, List.set_cons_succ]
              refine wpAnyH_take (i := 4) (v := ?_) (by simp only [List.getElem?_toArray, List.getElem?_cons_succ, List.getElem?_cons_zero]; rfl) (by kernel_rfl) (by kernel_rfl) (by kernel_rfl) (by exact fun _ _ _ h => h) (Or.inl ⟨by rfl, ?_⟩) hH ?_
              rotate_left
              · (intro wS hS; clear hS; go_simp; try rfl)
              try simp only [Act.put, List.setIfInBounds_toArray, List.set_cons_zero, List.set_cons_succ]
              refine wpAnyH_take (i := 5) (v := ?_) (by simp only [List.getElem?_toArray, List.getElem?_cons_succ, List.getElem?_cons_zero]; rfl) (by kernel_rfl) (by kernel_rfl) (by kernel_rfl) (by exact fun _ _ _ h => h) (Or.inl ⟨by rfl, ?_⟩) hH ?_
              rotate_left
              · (intro wS hS; clear hS; go_simp; try rfl)
              try simp only [Act.put, List.setIfInBounds_toArray, List.set_cons_zero, List.set_cons_succ]
              refine wpAnyH_take (i := 6) (v := ?_) (by simp only [List.getElem?_toArray, List.getElem?_cons_succ, List.getElem?_cons_zero]; rfl) (by kernel_rfl) (by kernel_rfl) (by kernel_rfl) (by exact fun _ _ _ h => h) (Or.inl ⟨by rfl, ?_⟩) hH ?_
              rotate_left
              · (intro wS hS; (try dsimp only at hS); obtain ⟨k1, k2, k3, k4⟩ := CF.out wS hS; go_simp; try rfl)
              try simp only [Act.put, List.setIfInBounds_toArray, List.set_cons_zero, List.set_cons_succ]
              refine wpAnyH_take (i := 7) (v := ?_) (by simp only [List.getElem?_toArray, List.getElem?_cons_succ, List.getElem?_cons_zero]; rfl) (by kernel_rfl) (by kernel_rfl) (by kernel_rfl) (by exact fun _ _ _ h => h) (Or.inl ⟨by rfl, ?_⟩) hH ?_
              rotate_left
              · (intro wS hS; clear hS; go_simp; try rfl)
              try simp only [Act.put, List.setIfInBounds_toArray, List.set_cons_zero, List.set_cons_succ]
              refine wpAnyH_take (i := 8) (v := ?_) (by simp only [List.getElem?_toArray, List.getElem?_cons_succ, List.getElem?_cons_zero]; rfl) (by kernel_rfl) (by kernel_rfl) (by kernel_rfl) (by exact fun _ _ _ h => h) (Or.inl ⟨by rfl, ?_⟩) hH ?_
              rotate_left
              · (intro wS hS; clear hS; go_simp; try rfl)
              try simp only [Act.put, List.setIfInBounds_toArray, List.set_cons_zero, List.set_cons_succ]
              refine wpAnyH_take (i := 9) (v := ?_) (by simp only [List.getElem?_toArray, List.getElem?_cons_succ, List.getElem?_cons_zero]; rfl) (by kernel_rfl) (by kernel_rfl) (by kernel_rfl) (by exact fun _ _ _ h => h) (Or.inl ⟨by rfl, ?_⟩) hH ?_
              rotate_left
              · (intro wS hS; clear hS; go_simp; try rfl)
              try simp only [Act.put, List.setIfInBounds_toArray, List.set_cons_zero, List.set_cons_succ]
              refine wpAnyH_take (i := 10) (v := ?_) (by simp only [List.getElem?_toArray, List.getElem?_cons_succ, List.getElem?_cons_zero]; rfl) (by kernel_rfl) (by kernel_rfl) (by kernel_rfl) (by exact fun _ _ _ h => h) (Or.inl ⟨by rfl, ?_⟩) hH ?_
              rotate_left
              · (intro wS hS; clear hS; go_simp; try rfl)
              try simp only [Act.put, List.setIfInBounds_toArray, List.set_cons_zero, List.set_cons_succ]
              refine wpAnyH_take (i := 11) (v := ?_) (by simp only [List.getElem?_toArray, List.getElem?_cons_succ, List.getElem?_cons_zero]; rfl) (by kernel_rfl) (by kernel_rfl) (by kernel_rfl) (by exact fun _ _ _ h => h) (Or.inl ⟨by rfl, ?_⟩) hH ?_
              rotate_left
              · (intro wS hS; (try dsimp only at hS); obtain ⟨k1, k2, k3, k4⟩ := CF.out wS hS; go_simp; try rfl)
              try simp only [Act.put, List.setIfInBounds_toArray, List.set_cons_zero, List.set_cons_succ]
              refine wpAnyH_ready (rs := [1, 12]) (by kernel_rfl) (by simp) ?_
              refine AllReadyH.cons (by simp only [List.getElem?_toArray, List.getElem?_cons_succ, List.getElem?_cons_zero]; rfl) (fun KK hKK => ?_) (AllReadyH.cons (by simp only [List.getElem?_toArray, List.getElem?_cons_succ, List.getElem?_cons_zero]; rfl) (fun KK hKK => ?_) AllReadyH.nil)
              · go_simp
                try dsimp only
                refine hKK.out _ _ ?_ (fun hH2 => ?_)
                · exact (FrS.refl _ wr).drew
                clear hKK KK
                have hO := hH
                clear hH
                have hH := hH2
                clear hH2
                try simp only [Act.put, List.setIfInBounds_toArray, List.set_cons_zero, List.set_cons_succ]
                refine wpAnyH_ready (rs := [12]) (by kernel_rfl) (by simp) ?_
                refine AllReadyH.cons (by simp only [List.getElem?_toArray, List.getElem?_cons_succ, List.getElem?_cons_zero]; rfl) (fun KK hKK => ?_) AllReadyH.nil
                go_simp
                try dsimp only
                refine hKK.out _ _ ?_ (fun hH2 => ?_)
                · exact ((FrS.refl _ wr).alloc _).drew
                clear hKK KK
                have hO := hH
                clear hH
                have hH := hH2
                clear hH2
                try simp only [Act.put, List.setIfInBounds_toArray, List.set_cons_zero, List.set_cons_succ]
                obtain ⟨v1, wa, hr1, ho1, hg1, -, -⟩ := run_append_own_at (P := Try.prog) (w := (wr.alloc (.cells #[.int .i64 z] 3)).drew) (w.heap.size + 1 + 1 + 1) 24 24 3 fi (.int .i64 0) 1 8 underlying_ints hfi hz0 hz1 hz2 rfl (by decide) _ _ _ HO2.out ⟨wr.heap.size, 0, none⟩ 1 1 [.int .i64 z] rfl (cell_one_new wr (.int .i64 z) 3) (by intro u hu; obtain rfl := List.mem_singleton.mp hu; rfl) (by have := LB.out; unfold maxLen; omega) (by have := LB.out; omega) (by have := K2.out.lt; simp; omega)
                obtain ⟨ua, um, uc, rfl⟩ := rows_form ho1
                refine wpAnyH_ready (rs := [13]) (by kernel_rfl) (by simp) ?_
                refine AllReadyH.cons (by simp only [List.getElem?_toArray, List.getElem?_cons_succ, List.getElem?_cons_zero]; rfl) (fun KK hKK => ?_) AllReadyH.nil
                refine step_append rfl _ _ 24 rfl _ _ rfl rfl _ _ hr1 ?_
                have kk : ∀ b, b < w.heap.size + 1 + 1 + 1 → b < wr.heap.size → wa.heap[b]? = wr.heap[b]? := fun b hb hb2 => (hg1.block b (by simp; omega) (fun e => by have := ownB_ge2 HO2.out e.symm; omega)).trans (Below.heap_alloc wr _ b hb2)
                have FA : Hid (FrS (fun k => w.heap.size + 1 + 1 ≤ k) wr wa) := ⟨hg1.os, hg1.tape, hg1.output, Nat.le_trans (by simp) hg1.size, fun k hk hn => kk k (by omega) hk⟩
                have L0 := K0.out.lt
                have L1 := K1.out.lt
                have L2 := K2.out.lt
                have K0 : Hid (Blk3 wa w.heap.size 34 (.int .i64 R) (.int .i64 C) (.slice (some ⟨ga, oa, none⟩) n m)) := (kk _ (by omega) L0).trans K0.out
                have K1 : Hid (Blk3 wa (w.heap.size + 1) 34 (.int .i64 0) (.int .i64 0) (.slice none 0 0)) := (kk _ (by omega) L1).trans K1.out
                have K2 : Hid (Blk3 wa (w.heap.size + 1 + 1) 34 (.int .i64 ((R : Int) - 1)) (.int .i64 ((C : Int) - 1)) (.slice va vm vc)) := (kk _ (by omega) L2).trans K2.out
                have O3 : Hid (wa.ownsRow (w.heap.size + 1 + 1 + 1) 3 1 (.slice ua um uc) (zs ++ [z]).length ((zs ++ [z]).map (Value.int .i64))) := by
                  refine Lib.hid ?_
                  rw [List.length_append, List.map_append]
                  exact ho1
                have B3 : Hid (Below w.heap.size w wa) := Lib.hid (B2.out.grown hg1 B2.out.size (fun k hk => by have := ownB_ge2 HO2.out hk; omega))
                clear ho1 hg1 kk
                try dsimp only
                refine hKK.out _ _ ?_ (fun hH2 => ?_)
                · exact FA.out
                clear hKK KK
                have hO := hH
                clear hH
                have hH := hH2
                clear hH2
                try simp only [Act.put, List.setIfInBounds_toArray, List.set_cons_zero, List.set_cons_succ]
                refine wpAnyH_take (i := 14) (v := ?_) (by simp only [List.getElem?_toArray, List.getElem?_cons_succ, List.getElem?_cons_zero]; rfl) (by kernel_rfl) (by kernel_rfl) (by kernel_rfl) (by exact fun _ _ _ h => h) (Or.inl ⟨by rfl, ?_⟩) hH ?_
                rotate_left
                · (intro wS hS; clear hS; go_simp; try rfl)
                try simp only [Act.put, List.setIfInBounds_toArray, List.set_cons_zero, List.set_cons_succ]
                clear d0 d1 d2 e0 e1 e2 ef0 ef1 ef2
                obtain ⟨e0, e1, e2, ef0, ef1, ef2⟩ := K2.out.all
                refine wpAnyH_ready (rs := [15]) (by kernel_rfl) (by simp) ?_
                refine AllReadyH.cons (by simp only [List.getElem?_toArray, List.getElem?_cons_succ, List.getElem?_cons_zero]; rfl) (fun KK hKK => ?_) AllReadyH.nil
                go_simp
                try dsimp only
                refine hKK.out _ _ ?_ (fun hH2 => ?_)
                · exact FA.out.set (a := ⟨w.heap.size + 1 + 1, 2, none⟩) (.inl (Nat.le_refl _)) _
                clear hKK KK
                have hO := hH
                clear hH
                have hH := hH2
                clear hH2
                try simp only [Act.put, List.setIfInBounds_toArray, List.set_cons_zero, List.set_cons_succ]
                refine wpAnyH_done (by kernel_rfl) ?_ _
                go_wp2_with fail
                go_roundw
                case rel =>
                  refine ⟨J + 1, by go_num, by omega, ?_⟩
                  rw [WS.out]
                  exact ⟨ua, um, uc, K0.out.far (by show w.heap.size ≠ w.heap.size + 1 + 1; omega) _, K1.out.far (by show w.heap.size + 1 ≠ w.heap.size + 1 + 1; omega) _, K2.out.set2 _, rows_far O3.out (by simp) _, B3.out.setCell (by show w.heap.size ≤ w.heap.size + 1 + 1; omega) _⟩
                case measure => simp [intOf]; omega
              · go_simp
                try dsimp only
                refine hKK.out _ _ ?_ (fun hH2 => ?_)
                · exact ((FrS.refl _ wr).alloc _).drew
                clear hKK KK
                have hO := hH
                clear hH
                have hH := hH2
                clear hH2
                try simp only [Act.put, List.setIfInBounds_toArray, List.set_cons_zero, List.set_cons_succ]
                have LK2 := K2.out.lt
                obtain ⟨q0, q1, q2, -, -, -⟩ := ((K2.out.old (.cells #[.int .i64 z] 3)).drew).all
                refine wpAnyH_ready (rs := [1]) (by kernel_rfl) (by simp) ?_
                refine AllReadyH.cons (by simp only [List.getElem?_toArray, List.getElem?_cons_succ, List.getElem?_cons_zero]; rfl) (fun KK hKK => ?_) AllReadyH.nil
                go_simp
                try dsimp only
                refine hKK.out _ _ ?_ (fun hH2 => ?_)
                · exact ((FrS.refl _ wr).alloc _).drew
                clear hKK KK
                have hO := hH
                clear hH
                have hH := hH2
                clear hH2
                try simp only [Act.put, List.setIfInBounds_toArray, List.set_cons_zero, List.set_cons_succ]
                obtain ⟨v1, wa, hr1, ho1, hg1, -, -⟩ := run_append_own_at (P := Try.prog) (w := (wr.alloc (.cells #[.int .i64 z] 3)).drew) (w.heap.size + 1 + 1 + 1) 24 24 3 fi (.int .i64 0) 1 8 underlying_ints hfi hz0 hz1 hz2 rfl (by decide) _ _ _ HO2.out ⟨wr.heap.size, 0, none⟩ 1 1 [.int .i64 z] rfl (cell_one_new wr (.int .i64 z) 3) (by intro u hu; obtain rfl := List.mem_singleton.mp hu; rfl) (by have := LB.out; unfold maxLen; omega) (by have := LB.out; omega) (by have := K2.out.lt; simp; omega)
                obtain ⟨ua, um, uc, rfl⟩ := rows_form ho1
                refine wpAnyH_ready (rs := [13]) (by kernel_rfl) (by simp) ?_
                refine AllReadyH.cons (by simp only [List.getElem?_toArray, List.getElem?_cons_succ, List.getElem?_cons_zero]; rfl) (fun KK hKK => ?_) AllReadyH.nil
                refine step_append rfl _ _ 24 rfl _ _ rfl rfl _ _ hr1 ?_
                have kk : ∀ b, b < w.heap.size + 1 + 1 + 1 → b < wr.heap.size → wa.heap[b]? = wr.heap[b]? := fun b hb hb2 => (hg1.block b (by simp; omega) (fun e => by have := ownB_ge2 HO2.out e.symm; omega)).trans (Below.heap_alloc wr _ b hb2)
                have FA : Hid (FrS (fun k => w.heap.size + 1 + 1 ≤ k) wr wa) := ⟨hg1.os, hg1.tape, hg1.output, Nat.le_trans (by simp) hg1.size, fun k hk hn => kk k (by omega) hk⟩
                have L0 := K0.out.lt
                have L1 := K1.out.lt
                have L2 := K2.out.lt
                have K0 : Hid (Blk3 wa w.heap.size 34 (.int .i64 R) (.int .i64 C) (.slice (some ⟨ga, oa, none⟩) n m)) := (kk _ (by omega) L0).trans K0.out
                have K1 : Hid (Blk3 wa (w.heap.size + 1) 34 (.int .i64 0) (.int .i64 0) (.slice none 0 0)) := (kk _ (by omega) L1).trans K1.out
                have K2 : Hid (Blk3 wa (w.heap.size + 1 + 1) 34 (.int .i64 ((R : Int) - 1)) (.int .i64 ((C : Int) - 1)) (.slice va vm vc)) := (kk _ (by omega) L2).trans K2.out
                have O3 : Hid (wa.ownsRow (w.heap.size + 1 + 1 + 1) 3 1 (.slice ua um uc) (zs ++ [z]).length ((zs ++ [z]).map (Value.int .i64))) := by
                  refine Lib.hid ?_
                  rw [List.length_append, List.map_append]
                  exact ho1
                have B3 : Hid (Below w.heap.size w wa) := Lib.hid (B2.out.grown hg1 B2.out.size (fun k hk => by have := ownB_ge2 HO2.out hk; omega))
                clear ho1 hg1 kk
                try dsimp only
                refine hKK.out _ _ ?_ (fun hH2 => ?_)
                · exact FA.out
                clear hKK KK
                have hO := hH
                clear hH
                have hH := hH2
                clear hH2
                try simp only [Act.put, List.setIfInBounds_toArray, List.set_cons_zero, List.set_cons_succ]
                refine wpAnyH_take (i := 14) (v := ?_) (by simp only [List.getElem?_toArray, List.getElem?_cons_succ, List.getElem?_cons_zero]; rfl) (by kernel_rfl) (by kernel_rfl) (by kernel_rfl) (by exact fun _ _ _ h => h) (Or.inl ⟨by rfl, ?_⟩) hH ?_
                rotate_left
                · (intro wS hS; clear hS; go_simp; try rfl)
                try simp only [Act.put, List.setIfInBounds_toArray, List.set_cons_zero, List.set_cons_succ]
                clear d0 d1 d2 e0 e1 e2 ef0 ef1 ef2
                obtain ⟨e0, e1, e2, ef0, ef1, ef2⟩ := K2.out.all
                refine wpAnyH_ready (rs := [15]) (by kernel_rfl) (by simp) ?_
                refine AllReadyH.cons (by simp only [List.getElem?_toArray, List.getElem?_cons_succ, List.getElem?_cons_zero]; rfl) (fun KK hKK => ?_) AllReadyH.nil
                go_simp
                try dsimp only
                refine hKK.out _ _ ?_ (fun hH2 => ?_)
                · exact FA.out.set (a := ⟨w.heap.size + 1 + 1, 2, none⟩) (.inl (Nat.le_refl _)) _
                clear hKK KK
                have hO := hH
                clear hH
                have hH := hH2
                clear hH2
                try simp only [Act.put, List.setIfInBounds_toArray, List.set_cons_zero, List.set_cons_succ]
                refine wpAnyH_done (by kernel_rfl) ?_ _
                go_wp2_with fail
                go_roundw
                case rel =>
                  refine ⟨J + 1, by go_num, by omega, ?_⟩
                  rw [WS.out]
                  exact ⟨ua, um, uc, K0.out.far (by show w.heap.size ≠ w.heap.size + 1 + 1; omega) _, K1.out.far (by show w.heap.size + 1 ≠ w.heap.size + 1 + 1; omega) _, K2.out.set2 _, rows_far O3.out (by simp) _, B3.out.setCell (by show w.heap.size ≤ w.heap.size + 1 + 1; omega) _⟩
                case measure => simp [intOf]; omega
        · have ej : J = C := by omega
          subst ej
          have e1' : (I + 1) * J = I * J + J := Nat.succ_mul I J
          go_wp2_with fail
          go_roundw
          case rel => exact ⟨I + 1, by go_num, by omega, by rw [e1']; exact ⟨va, vm, vc, K0.out, K1.out, K2.out, HO.out, B.out⟩⟩
          case measure => simp [intOf]; omega
    · have ei : I = R := by omega
      subst ei
      obtain ⟨va, vm, vc, k0, k1, k2, ho, hb⟩ := ST.out
      have hl : (woL C row col xs (I * C)).length ≤ 16777216 := Nat.le_trans (woL_length _ _ _ _ _) (by omega)
      have OW := Lib.hid (Own.of_row ho hl)
      have K1 := Lib.hid k1
      have K2 := Lib.hid k2
      have B := Lib.hid hb
      clear a0 a1 a2 b0 b1 b2 bf0 bf1 bf2 c0 c1 c2
      obtain ⟨a0, a1, a2, -, -, -⟩ := k0.all
      obtain ⟨b0, b1, b2, bf0, bf1, bf2⟩ := k1.all
      obtain ⟨c0, c1, c2, -, -, -⟩ := k2.all
      clear k0 k1 k2 ho hb hl
      go_wp2_with fail
      obtain ⟨E0, E1, E2, -, -, -⟩ := (K1.out.set3 (.int .i64 ((I : Int) - 1)) (.int .i64 ((C : Int) - 1)) (.slice va vm vc)).all
      refine bodyPost_ret (v := .agg #[.int .i64 ((I : Int) - 1), .int .i64 ((C : Int) - 1), .slice va vm vc]) (by simp [results, Try.results80, go_sem, E0, E1, E2]) rfl ⟨_, rfl, ?_, ((B.out.setCell (by show w.heap.size ≤ w.heap.size + 1; omega) _).setCell (by show w.heap.size ≤ w.heap.size + 1; omega) _).setCell (by show w.heap.size ≤ w.heap.size + 1; omega) _⟩
      exact (((OW.out.far (by show w.heap.size + 1 < w.heap.size + 1 + 1 + 1; omega) _).far (by show w.heap.size + 1 < w.heap.size + 1 + 1 + 1; omega) _).far (by show w.heap.size + 1 < w.heap.size + 1 + 1 + 1; omega) _).le (by omega)
end Go.Proofs.Ytgemkfcapkfdbaa
end

section
/-
  Elimination without fractions: the cells that are made are bordered minors, so each division is exact. Plain mathematics: nothing of a program is used.
-/
namespace Go.Proofs.Ytgemkfcapkfdbaa

/-- The first t rows and row i; the first t columns and column j. -/
def bdX (t i j : Nat) (A : Mx) : Mx := fun r c => A (if r < t then r else i) (if c < t then c else j)
/-- The bordered minor. -/
def bm (t i j : Nat) (A : Mx) : Int := det (t + 1) (bdX t i j A)
theorem bm_zero (i j : Nat) (A : Mx) : bm 0 i j A = A i j := by
  show 0 + sg 0 * bdX 0 i j A 0 0 * 1 = A i j
  rw [sg_zero]
  show 0 + 1 * A i j * 1 = A i j
  omega
theorem bm_diag (t : Nat) (A : Mx) : bm t t t A = det (t + 1) A := det_congr fun r c hr hc => by
  show A (if r < t then r else t) (if c < t then c else t) = A r c
  have e : ∀ k, k < t + 1 → (if k < t then k else t) = k := fun k hk => by
    by_cases h : k < t
    · rw [if_pos h]
    · rw [if_neg h]; omega
  rw [e r hr, e c hc]
theorem bm_tr (t i j : Nat) (A : Mx) : bm t i j (trX A) = bm t j i A := by
  unfold bm
  rw [← det_tr (t + 1) (bdX t j i A)]
  rfl
theorem bm_row {t i j : Nat} (A : Mx) (h : i < t) : bm t i j A = 0 :=
  alt_at (det_alt (t + 1)) (r := i) (s := t) (by omega) (by omega) (by omega) _ fun c _ => by
    show A (if i < t then i else i) _ = A (if t < t then t else i) _
    rw [if_pos h, if_neg (Nat.lt_irrefl t)]
theorem bm_col {t i j : Nat} (A : Mx) (h : j < t) : bm t i j A = 0 := by
  rw [← bm_tr, bm_row _ h]
/-- The factors of the rows in a bordered minor. -/
def kap (t i : Nat) (A : Mx) (s : Nat) : Int := sg (s + t) * det t (mnr (bdX t i 0 A) s t)
theorem skp_of_lt {j k : Nat} (h : k < j) : skp j k = k := if_pos h
theorem bm_comb (t i j : Nat) (A : Mx) : bm t i j A = det t A * A i j + sumN t fun s => kap t i A s * A s j := by
  unfold bm
  rw [det_col_at t _ t (by omega)]
  have e : ∀ s, s < t + 1 → det t (mnr (bdX t i j A) s t) = det t (mnr (bdX t i 0 A) s t) := fun s _ => det_congr fun r c _ hc => by
    show A _ (if skp t c < t then skp t c else j) = A _ (if skp t c < t then skp t c else 0)
    rw [skp_of_lt hc, if_pos hc, if_pos hc]
  show (sumN t fun s => sg (s + t) * bdX t i j A s t * det t (mnr (bdX t i j A) s t)) + sg (t + t) * bdX t i j A t t * det t (mnr (bdX t i j A) t t) = _
  have l : sg (t + t) * bdX t i j A t t * det t (mnr (bdX t i j A) t t) = det t A * A i j := by
    have e1 : bdX t i j A t t = A i j := by
      show A (if t < t then t else i) (if t < t then t else j) = _
      rw [if_neg (Nat.lt_irrefl t), if_neg (Nat.lt_irrefl t)]
    have e2 : det t (mnr (bdX t i j A) t t) = det t A := det_congr fun r c hr hc => by
      show A (if skp t r < t then skp t r else i) (if skp t c < t then skp t c else j) = A r c
      rw [skp_of_lt hr, skp_of_lt hc, if_pos hr, if_pos hc]
    rw [e1, e2, sg_add, sg_sq, Int.one_mul, Int.mul_comm]
  rw [l, Int.add_comm]
  congr 1
  refine sumN_congr fun s hs => ?_
  rw [e s (by omega)]
  have e1 : bdX t i j A s t = A s j := by
    show A (if s < t then s else i) (if t < t then t else j) = _
    rw [if_pos hs, if_neg (Nat.lt_irrefl t)]
  rw [e1]
  unfold kap
  grind
/-- Multiples of earlier rows are added to a multiple of row r. -/
theorem det_comb {n r m : Nat} (N : Mx) (x : Int) (k : Nat → Int) (hm : m ≤ r) (hr : r < n) : det n (stR N r fun c => x * N r c + sumN m fun s => k s * N s c) = x * det n N := by
  have h := det_lin n N r (N r) (fun c => sumN m fun s => k s * N s c) x 1 hr
  simp only [Int.one_mul] at h
  rw [h, stR_self, lin_sum (det_lin n) hr, sumN_all_zero]
  · omega
  · intro s hs
    rw [alt_at (det_alt n) (r := s) (s := r) (by omega) (by omega) hr _ (fun c _ => by rw [stR_at, stR_ne _ _ _ _ _ (by omega)]), Int.mul_zero]
theorem det_last {t : Nat} (M : Mx) (h : ∀ c, c < t → M t c = 0) : det (t + 1) M = M t t * det t M := by
  rw [det_row_at t M t (by omega), sumN_one (a := t) (by omega)]
  · have e : det t (mnr M t t) = det t M := det_congr fun r c hr hc => by
      show M (skp t r) (skp t c) = M r c
      rw [skp_of_lt hr, skp_of_lt hc]
    rw [e, sg_add, sg_sq, Int.one_mul]
  · intro c hc hne
    rw [h c (by omega), Int.mul_zero, Int.zero_mul]
/-- Each division of the elimination is exact. -/
theorem sylvester (t i j : Nat) (A : Mx) (h : det t A ≠ 0) : det t A * bm (t + 1) i j A = bm t t t A * bm t i j A - bm t i t A * bm t t j A := by
  obtain ⟨L, hL⟩ : ∃ L, det t A = L := ⟨_, rfl⟩
  have col : ∀ c, c < t + 2 → ∀ r, r < t → bdX (t + 1) i j A r c = A r (if c < t + 1 then c else j) := fun c _ r hr => by
    show A (if r < t + 1 then r else i) _ = _
    rw [if_pos (by omega)]
  obtain ⟨N, hN⟩ : ∃ N, bdX (t + 1) i j A = N := ⟨_, rfl⟩
  have rt : ∀ c, N t c = A t (if c < t + 1 then c else j) := fun c => by
    rw [← hN]
    show A (if t < t + 1 then t else i) _ = _
    rw [if_pos (by omega)]
  have rt1 : ∀ c, N (t + 1) c = A i (if c < t + 1 then c else j) := fun c => by
    rw [← hN]
    show A (if t + 1 < t + 1 then t + 1 else i) _ = _
    rw [if_neg (by omega)]
  rw [hN] at col
  obtain ⟨N1, hN1⟩ : ∃ M, (stR N t fun c => L * N t c + sumN t fun s => kap t t A s * N s c) = M := ⟨_, rfl⟩
  obtain ⟨N2, hN2⟩ : ∃ M, (stR N1 (t + 1) fun c => L * N1 (t + 1) c + sumN t fun s => kap t i A s * N1 s c) = M := ⟨_, rfl⟩
  have d1 : det (t + 2) N1 = L * det (t + 2) N := by rw [← hN1]; exact det_comb N L _ (Nat.le_refl t) (by omega)
  have d2 : det (t + 2) N2 = L * det (t + 2) N1 := by rw [← hN2]; exact det_comb N1 L _ (by omega) (by omega)
  have q : ∀ r, r < t → ∀ c, N1 r c = N r c := fun r hr c => by rw [← hN1]; exact stR_ne _ _ _ _ _ (by omega)
  have e0 : ∀ r, r < t → ∀ c, c < t + 2 → N2 r c = A r (if c < t + 1 then c else j) := fun r hr c hc => by
    rw [← hN2, stR_ne _ _ _ _ _ (by omega), q r hr, col c hc r hr]
  have e1 : ∀ c, c < t + 2 → N2 t c = bm t t (if c < t + 1 then c else j) A := fun c hc => by
    rw [← hN2, stR_ne _ _ _ _ _ (by omega), ← hN1, stR_at, bm_comb, hL, rt]
    congr 1
    exact sumN_congr fun s hs => by rw [col c hc s hs]
  have e2 : ∀ c, c < t + 2 → N2 (t + 1) c = bm t i (if c < t + 1 then c else j) A := fun c hc => by
    have : N1 (t + 1) c = N (t + 1) c := by rw [← hN1]; exact stR_ne _ _ _ _ _ (by omega)
    rw [← hN2, stR_at, bm_comb, hL, this, rt1]
    congr 1
    exact sumN_congr fun s hs => by rw [q s hs, col c hc s hs]
  have z1 : ∀ c, c < t → N2 t c = 0 := fun c hc => by rw [e1 c (by omega), if_pos (by omega), bm_col A hc]
  have z2 : ∀ c, c < t → N2 (t + 1) c = 0 := fun c hc => by rw [e2 c (by omega), if_pos (by omega), bm_col A hc]
  have m1 : det (t + 1) (mnr N2 (t + 1) (t + 1)) = bm t t t A * L := by
    rw [det_last]
    · have a1 : mnr N2 (t + 1) (t + 1) t t = bm t t t A := by
        show N2 (skp (t + 1) t) (skp (t + 1) t) = _
        rw [skp_of_lt (by omega), e1 t (by omega), if_pos (by omega)]
      have a2 : det t (mnr N2 (t + 1) (t + 1)) = L := by
        rw [← hL]
        refine det_congr fun r c hr hc => ?_
        show N2 (skp (t + 1) r) (skp (t + 1) c) = _
        rw [skp_of_lt (by omega), skp_of_lt (by omega), e0 r hr c (by omega), if_pos (by omega)]
      rw [a1, a2]
    · intro c hc
      show N2 (skp (t + 1) t) (skp (t + 1) c) = 0
      rw [skp_of_lt (by omega), skp_of_lt (by omega), z1 c hc]
  have m2 : det (t + 1) (mnr N2 (t + 1) t) = bm t t j A * L := by
    rw [det_last]
    · have a1 : mnr N2 (t + 1) t t t = bm t t j A := by
        show N2 (skp (t + 1) t) (skp t t) = _
        have : skp t t = t + 1 := by unfold skp; rw [if_neg (by omega)]
        rw [skp_of_lt (by omega), this, e1 (t + 1) (by omega), if_neg (by omega)]
      have a2 : det t (mnr N2 (t + 1) t) = L := by
        rw [← hL]
        refine det_congr fun r c hr hc => ?_
        show N2 (skp (t + 1) r) (skp t c) = _
        rw [skp_of_lt (by omega), skp_of_lt hc, e0 r hr c (by omega), if_pos (by omega)]
      rw [a1, a2]
    · intro c hc
      show N2 (skp (t + 1) t) (skp t c) = 0
      rw [skp_of_lt (by omega), skp_of_lt hc, z1 c hc]
  have d3 : det (t + 2) N2 = L * (bm t t t A * bm t i j A - bm t i t A * bm t t j A) := by
    rw [det_row_at (t + 1) N2 (t + 1) (by omega), sumN_two (a := t) (b := t + 1) (by omega) (by omega)]
    · have s1 : sg (t + 1 + t) = -1 := by rw [sg_add, sg_succ, Int.neg_mul, sg_sq]
      have s2 : sg (t + 1 + (t + 1)) = 1 := by rw [sg_add, sg_sq]
      rw [m1, m2, e2 t (by omega), e2 (t + 1) (by omega), if_pos (by omega), if_neg (by omega), s1, s2]
      grind
    · intro c hc h1 h2
      rw [z2 c (by omega), Int.mul_zero, Int.zero_mul]
  have bN : bm (t + 1) i j A = det (t + 2) N := by rw [← hN]; rfl
  rw [hL, bN]
  rw [hL] at h
  have fin : L * (L * det (t + 2) N) = L * (bm t t t A * bm t i j A - bm t i t A * bm t t j A) := by rw [← d1, ← d2, d3]
  exact Int.eq_of_mul_eq_mul_left h fin
/-- Where no row has a pivot the determinant is 0. -/
theorem no_pivot {t n : Nat} (A : Mx) (ht : t < n) (h : det t A ≠ 0) (hz : ∀ i, t ≤ i → i < n → bm t i t A = 0) : det n A = 0 := by
  have h1 : ∀ i, i < n → det t A * A i t + (sumN t fun s => kap t t (trX A) s * A i s) = 0 := fun i hi => by
    have e := bm_comb t t i (trX A)
    rw [bm_tr, det_tr] at e
    have e2 : bm t i t A = 0 := by
      rcases Nat.lt_or_ge i t with hlt | hge
      · exact bm_row A hlt
      · exact hz i hge hi
    rw [e2] at e
    exact e.symm
  have h2 := det_comb (n := n) (r := t) (m := t) (trX A) (det t A) (kap t t (trX A)) (Nat.le_refl t) ht
  have h3 : det n (stR (trX A) t fun c => det t A * trX A t c + sumN t fun s => kap t t (trX A) s * trX A s c) = det n (stR (trX A) t fun _ => 0) := det_congr fun r c _ hc => by
    unfold stR
    by_cases e : r = t
    · rw [if_pos e, if_pos e]; exact h1 c hc
    · rw [if_neg e, if_neg e]
  rw [h3, lin_zero (det_lin n) ht, det_tr] at h2
  rcases Int.mul_eq_zero.mp h2.symm with h4 | h4
  · exact absurd h4 h
  · exact h4
/-- Two rows from t on change places. -/
theorem bm_swap {t p i j : Nat} (A : Mx) (hp : t ≤ p) : bm t i j (swR A t p) = bm t (if i = t then p else if i = p then t else i) j A := det_congr fun r c _ _ => by
  show swR A t p (if r < t then r else i) _ = A (if r < t then r else _) _
  unfold swR
  by_cases hr : r < t
  · rw [if_pos hr, if_pos hr, if_neg (by omega), if_neg (by omega)]
  · rw [if_neg hr, if_neg hr]
    by_cases h1 : i = t
    · rw [if_pos h1, if_pos h1]
    · rw [if_neg h1, if_neg h1]
      by_cases h2 : i = p
      · rw [if_pos h2, if_pos h2]
      · rw [if_neg h2, if_neg h2]
theorem det_swap_low {t p : Nat} (A : Mx) (hp : t ≤ p) : det t (swR A t p) = det t A := det_congr fun r c hr _ => by
  unfold swR
  rw [if_neg (by omega), if_neg (by omega)]
end Go.Proofs.Ytgemkfcapkfdbaa
end

section
/-
  Plain mathematics of chapter 6: the determinant by expansion along the first row, with a mark where one that is met is beyond the limit. Nothing of a program is used.
-/
namespace Go.Proofs.Ytgemkfcapkfdbaa

/-- The matrix of a list of cells. -/
def mxL (n : Nat) (xs : List Int) : Mx := fun r c => xs.getD (r * n + c) 0
theorem mxL_tab (n : Nat) (f : Nat → Nat → Int) : EqX n (mxL n (tab n n f)) f := fun _ _ hr hc => tab_at n n f hr hc
/-- The sum of the first columns, unless a minor that is met has the mark. -/
def detAcc (g f : Nat → Int) : Nat → Option Int
  | 0 => some 0
  | j + 1 => match detAcc g f j with
    | none => none
    | some s => if g j = 0 then some s else if f j = badN then none else some (s + sg j * g j * f j)
theorem detAcc_skip {g f : Nat → Int} {j : Nat} {s : Int} (h : detAcc g f j = some s) (h0 : g j = 0) : detAcc g f (j + 1) = some s := by
  show (match detAcc g f j with | none => _ | some s => _) = _
  rw [h]
  exact if_pos h0
theorem detAcc_bad {g f : Nat → Int} {j : Nat} {s : Int} (h : detAcc g f j = some s) (h0 : g j ≠ 0) (h1 : f j = badN) : detAcc g f (j + 1) = none := by
  show (match detAcc g f j with | none => _ | some s => _) = _
  rw [h]
  show (if g j = 0 then _ else _) = _
  rw [if_neg h0, if_pos h1]
theorem detAcc_add {g f : Nat → Int} {j : Nat} {s : Int} (h : detAcc g f j = some s) (h0 : g j ≠ 0) (h1 : f j ≠ badN) : detAcc g f (j + 1) = some (s + sg j * g j * f j) := by
  show (match detAcc g f j with | none => _ | some s => _) = _
  rw [h]
  show (if g j = 0 then _ else _) = _
  rw [if_neg h0, if_neg h1]
theorem detAcc_none_succ {g f : Nat → Int} {j : Nat} (h : detAcc g f j = none) : detAcc g f (j + 1) = none := by
  show (match detAcc g f j with | none => _ | some s => _) = _
  rw [h]
theorem detAcc_none {g f : Nat → Int} {j k : Nat} (h : detAcc g f j = none) (hk : j ≤ k) : detAcc g f k = none := by
  induction k with
  | zero => obtain rfl : j = 0 := by omega
            exact h
  | succ k ih =>
    rcases Nat.lt_or_ge k j with h1 | h1
    · obtain rfl : j = k + 1 := by omega
      exact h
    · exact detAcc_none_succ (ih h1)
theorem detAcc_sum {g f : Nat → Int} {k : Nat} : ∀ {s : Int}, detAcc g f k = some s → s = sumN k fun j => sg j * g j * f j := by
  induction k with
  | zero => intro s h; exact (Option.some.inj h).symm
  | succ k ih =>
    intro s h
    cases h1 : detAcc g f k with
    | none => rw [detAcc_none_succ h1] at h; cases h
    | some s1 =>
      show s = sumN k _ + sg k * g k * f k
      by_cases h0 : g k = 0
      · rw [detAcc_skip h1 h0] at h
        rw [← Option.some.inj h, ih h1, h0, Int.mul_zero, Int.zero_mul, Int.add_zero]
      · by_cases h2 : f k = badN
        · rw [detAcc_bad h1 h0 h2] at h; cases h
        · rw [detAcc_add h1 h0 h2] at h
          rw [← Option.some.inj h, ih h1]
theorem detAcc_met {g f : Nat → Int} {k : Nat} : ∀ {s : Int}, detAcc g f k = some s → ∀ j, j < k → g j ≠ 0 → f j ≠ badN := by
  induction k with
  | zero => intro s _ j hj; omega
  | succ k ih =>
    intro s h j hj h0 h2
    cases h1 : detAcc g f k with
    | none => rw [detAcc_none_succ h1] at h; cases h
    | some s1 =>
      rcases Nat.lt_or_ge j k with h3 | h3
      · exact ih h1 j h3 h0 h2
      · obtain rfl : j = k := by omega
        rw [detAcc_bad h1 h0 h2] at h; cases h
theorem sg_or (k : Nat) : sg k = 1 ∨ sg k = -1 := by unfold sg; split <;> simp
theorem sg_num {k : Nat} {x : Int} (h : NumP x) : NumP (sg k * x) := by
  unfold NumP at *
  rcases sg_or k with e | e <;> rw [e] <;> omega
theorem detAcc_bd {g f : Nat → Int} {k : Nat} (hg : ∀ j, j < k → NumP (g j)) (hf : ∀ j, j < k → f j = badN ∨ NumP (f j)) : ∀ {s : Int}, detAcc g f k = some s → -((k : Int) * 160000000000000000) ≤ s ∧ s ≤ (k : Int) * 160000000000000000 := by
  induction k with
  | zero => intro s h; rw [← Option.some.inj h]; omega
  | succ k ih =>
    intro s h
    cases h1 : detAcc g f k with
    | none => rw [detAcc_none_succ h1] at h; cases h
    | some s1 =>
      have b := ih (fun j hj => hg j (by omega)) (fun j hj => hf j (by omega)) h1
      by_cases h0 : g k = 0
      · rw [detAcc_skip h1 h0] at h
        rw [← Option.some.inj h]; omega
      · by_cases h2 : f k = badN
        · rw [detAcc_bad h1 h0 h2] at h; cases h
        · rw [detAcc_add h1 h0 h2] at h
          have m := mul_num _ _ (sg_num (k := k) (hg k (by omega))) ((hf k (by omega)).resolve_left h2)
          rw [← Option.some.inj h]; omega
/-- The determinant of n rows, or the mark. -/
def detB : Nat → List Int → Int
  | 0, _ => 1
  | n + 1, xs => match detAcc (fun j => xs.getD j 0) (fun j => detB n (woL (n + 1) (0 : Int) (j : Int) xs ((n + 1) * (n + 1)))) (n + 1) with
    | none => badN
    | some s => fitB s
/-- The minors of the first row, with marks. -/
def mnB (n : Nat) (xs : List Int) (j : Nat) : Int := detB n (woL (n + 1) (0 : Int) (j : Int) xs ((n + 1) * (n + 1)))
theorem detB_none {n : Nat} {xs : List Int} (h : detAcc (fun j => xs.getD j 0) (mnB n xs) (n + 1) = none) : detB (n + 1) xs = badN := by
  show (match detAcc (fun j => xs.getD j 0) (mnB n xs) (n + 1) with | none => badN | some s => fitB s) = _
  rw [h]
theorem detB_some {n : Nat} {xs : List Int} {s : Int} (h : detAcc (fun j => xs.getD j 0) (mnB n xs) (n + 1) = some s) : detB (n + 1) xs = fitB s := by
  show (match detAcc (fun j => xs.getD j 0) (mnB n xs) (n + 1) with | none => badN | some s => fitB s) = _
  rw [h]
theorem fitB_or (z : Int) : fitB z = badN ∨ NumP (fitB z) := by
  unfold fitB
  by_cases h : NumP z
  · rw [if_pos h]; exact .inr h
  · rw [if_neg h]; exact .inl rfl
theorem detB_or (n : Nat) (xs : List Int) : detB n xs = badN ∨ NumP (detB n xs) := by
  cases n with
  | zero => exact .inr (by show NumP 1; decide)
  | succ n =>
    cases h : detAcc (fun j => xs.getD j 0) (mnB n xs) (n + 1) with
    | none => exact .inl (detB_none h)
    | some s => rw [detB_some h]; exact fitB_or s
theorem mxL_woL {n : Nat} {xs : List Int} {i j : Nat} (hi : i < n + 1) (hj : j < n + 1) : EqX n (mxL n (woL (n + 1) (i : Int) (j : Int) xs ((n + 1) * (n + 1)))) (mnr (mxL (n + 1) xs) i j) := by
  rw [woL_tab n i j xs hi hj]
  exact mxL_tab n _
theorem woL_sq {n : Nat} {xs : List Int} {i j : Nat} (hi : i < n + 1) (hj : j < n + 1) : (woL (n + 1) (i : Int) (j : Int) xs ((n + 1) * (n + 1))).length = n * n := by rw [woL_tab n i j xs hi hj, tab_length]
/-- Without the mark, it is the determinant. -/
theorem detB_det (n : Nat) : ∀ xs : List Int, detB n xs ≠ badN → detB n xs = det n (mxL n xs) := by
  induction n with
  | zero => intro xs _; rfl
  | succ n ih =>
    intro xs hb
    cases h : detAcc (fun j => xs.getD j 0) (mnB n xs) (n + 1) with
    | none => exact absurd (detB_none h) hb
    | some s =>
      rw [detB_some h] at hb ⊢
      have e : fitB s = s := by
        unfold fitB at hb ⊢
        by_cases hs : NumP s
        · rw [if_pos hs]
        · rw [if_neg hs] at hb; exact absurd rfl hb
      rw [e, detAcc_sum h, det_row]
      refine sumN_congr fun j hj => ?_
      have e0 : mxL (n + 1) xs 0 j = xs.getD j 0 := by unfold mxL; rw [Nat.zero_mul, Nat.zero_add]
      rw [e0]
      by_cases h0 : xs.getD j 0 = 0
      · simp only [h0, Int.mul_zero, Int.zero_mul]
      · have hm := detAcc_met h j hj h0
        have := ih _ hm
        show sg j * xs.getD j 0 * detB n _ = _
        rw [this, det_congr (show EqX n (mxL n (woL (n + 1) (0 : Int) (j : Int) xs ((n + 1) * (n + 1)))) (mnr (mxL (n + 1) xs) 0 j) from mxL_woL (i := 0) (by omega) hj)]
theorem woL_nums {n : Nat} {xs : List Int} {i j : Nat} (hi : i < n + 1) (hj : j < n + 1) (h : nums xs = true) : nums (woL (n + 1) (i : Int) (j : Int) xs ((n + 1) * (n + 1))) = true := by
  rw [woL_tab n i j xs hi hj]
  refine nums_true fun p hp => ?_
  rw [tab_length] at hp
  have hn : 0 < n := by
    rcases Nat.eq_zero_or_pos n with e | e
    · subst e; omega
    · exact e
  have e : p = p / n * n + p % n := by rw [Nat.mul_comm]; exact (Nat.div_add_mod p n).symm
  rw [e, tab_at n n _ (Nat.div_lt_of_lt_mul hp) (Nat.mod_lt p hn)]
  rcases Nat.lt_or_ge (skp i (p / n) * (n + 1) + skp j (p % n)) xs.length with h1 | h1
  · exact nums_at h h1
  · rw [List.getD, List.getElem?_eq_none h1]; exact ⟨by decide, by decide⟩
/-- What DeterminantOf answers, for a square matrix. -/
def detM (n : Nat) (xs : List Int) : Int × Bool := if detB n xs = badN then (0, false) else (detB n xs, true)
end Go.Proofs.Ytgemkfcapkfdbaa
end

section
/-
  A block of ints, cell by cell.
-/
namespace Go.Proofs.Ytgemkfcapkfdbaa
open Go.RowKit

theorem Rd.cells {w : World} {b o : Nat} {zs : List Int} (h : Rd w (some ⟨b, o, none⟩) zs) (j : Nat) (hj : j < zs.length) : w.cell? ⟨b, o + j, none⟩ = some (.int .i64 (zs.getD j 0)) := by
  obtain ⟨b', o', e, hc⟩ := h j hj
  injection e with e
  injection e with e1 e2
  subst e1 e2
  exact hc
theorem Rd.addr {w : World} {a : Option Addr} {zs : List Int} (h : Rd w a zs) (hz : 0 < zs.length) : ∃ b o : Nat, a = some ⟨b, o, none⟩ := by
  obtain ⟨b, o, e, -⟩ := h 0 hz
  exact ⟨b, o, e⟩
end Go.Proofs.Ytgemkfcapkfdbaa
end

section
/-
  Chapter 6, in the model: l6Det.
-/
namespace Go.Proofs.Ytgemkfcapkfdbaa
set_option maxRecDepth 100000
open Go.RowKit

theorem Own.rdq {B n c : Nat} {w : World} {a : Option Addr} {zs : List Int} (h : Own B w (.slice a n c) zs) : Rd w a zs := by
  rcases h with ⟨hv, rfl⟩ | ⟨g, cap, hv, _, hi, _⟩
  · exact Rd.nil _ _
  · simp only [Value.slice.injEq] at hv
    obtain ⟨rfl, -, -⟩ := hv
    exact hi.rd
set_option maxRecDepth 100000 in
set_option maxHeartbeats 1000000 in
theorem sDet (n : Nat) : ∀ (a : Option Addr) (m : Nat) (xs : List Int) (w : World), Rd w a xs → xs.length = n * n → n ≤ 6 → nums xs = true →
    Calls Try.prog 50 #[.agg #[.int .i64 n, .int .i64 n, .slice a (n * n) m]] w (Gives (.int .i64 (detB n xs)) w) := by
  induction n with
  | zero =>
    intro a m xs w h hx hn nx
    go_enter Try.func50, Try.ntmps50
    go_wp2_with fail
    go_ret
    exact ⟨rfl, (Below.refl _ _).alloc (Nat.le_refl _) _⟩
  | succ n ih =>
    intro a m xs w h hx hn nx
    obtain ⟨ga, oa, rfl⟩ := h.addr (by rw [hx]; exact Nat.mul_pos (by omega) (by omega))
    have H := Lib.hid h
    have NX := Lib.hid nx
    have IH := Lib.hid ih
    have D0 : Hid (∀ j, detAcc (fun j => xs.getD j 0) (mnB n xs) j = none → j ≤ n + 1 → detB (n + 1) xs = badN) := fun j h1 h2 => detB_none (detAcc_none h1 h2)
    have D1 : Hid (∀ s, detAcc (fun j => xs.getD j 0) (mnB n xs) (n + 1) = some s → detB (n + 1) xs = fitB s) := fun s h1 => detB_some h1
    have WL : Hid (∀ j, j < n + 1 → (woL (n + 1) (0 : Int) (j : Int) xs ((n + 1) * (n + 1))).length = n * n ∧ nums (woL (n + 1) (0 : Int) (j : Int) xs ((n + 1) * (n + 1))) = true) := fun j hj => ⟨woL_sq (i := 0) (by omega) hj, woL_nums (i := 0) (by omega) hj nx⟩
    have BD : Hid (∀ j s, j ≤ n + 1 → detAcc (fun j => xs.getD j 0) (mnB n xs) j = some s → -((j : Int) * 160000000000000000) ≤ s ∧ s ≤ (j : Int) * 160000000000000000) := fun j s hj h1 => detAcc_bd (fun i hi => nums_at nx (by rw [hx]; have := Nat.mul_le_mul_left (n + 1) (show 1 ≤ n + 1 by omega); omega)) (fun i _ => detB_or _ _) h1
    have ND : Hid (∀ j, j < n + 1 → NumP (xs.getD j 0)) := fun j hj => nums_at nx (by rw [hx]; have := Nat.mul_le_mul_left (n + 1) (show 1 ≤ n + 1 by omega); omega)
    have CL : Hid (∀ w', Below w.heap.size w w' → ∀ j, j < n + 1 → w'.cell? ⟨ga, oa + j, none⟩ = some (.int .i64 (xs.getD j 0))) := fun w' hb j hj => (H.out.below hb).cells j (by rw [hx]; have := Nat.mul_le_mul_left (n + 1) (show 1 ≤ n + 1 by omega); omega)
    have JL : Hid (n + 1 ≤ (n + 1) * (n + 1)) := Nat.le_mul_of_pos_left _ (by omega)
    have FD : Hid (∀ j, mnB n xs j = detB n (woL (n + 1) (0 : Int) (j : Int) xs ((n + 1) * (n + 1)))) := fun j => rfl
    obtain ⟨N, hN⟩ : ∃ N, (n + 1) * (n + 1) = N := ⟨_, rfl⟩
    have WO : Hid (∀ (j : Nat) (w' : World), Below w.heap.size w w' → Calls Try.prog 80 #[.agg #[.int .i64 ((n + 1 : Nat) : Int), .int .i64 ((n + 1 : Nat) : Int), .slice (some ⟨ga, oa, none⟩) N m], .int .i64 0, .int .i64 j] w' (fun e w2 => ∃ v, e = .returned (.agg #[.int .i64 n, .int .i64 n, v]) ∧ Own w'.heap.size w2 v (woL (n + 1) 0 j xs N) ∧ Below w'.heap.size w' w2)) := fun j w' hb => by
      have := sWo (n + 1) (n + 1) ga oa m 0 j xs w' (H.out.below hb) hx (by omega) (by omega)
      rw [hx, hN, show ((n + 1 : Nat) : Int) - 1 = (n : Int) by omega] at this
      exact this
    rw [hN] at hx JL WL FD ⊢
    generalize mnB n xs = f at D0 D1 BD FD
    obtain ⟨r, hr⟩ : ∃ r, n + 1 = r := ⟨_, rfl⟩
    rw [hr] at hn D0 D1 BD ND CL JL WO FD WL ⊢
    clear h nx ih hN hx
    have B0 : Hid (∀ o, Below w.heap.size w (w.alloc o)) := fun o => (Below.refl _ _).alloc (Nat.le_refl _) _
    have K0 : Hid (Blk3 (w.alloc (.cells #[.int .i64 r, .int .i64 r, .slice (some ⟨ga, oa, none⟩) N m] 34)) w.heap.size 34 (.int .i64 r) (.int .i64 r) (.slice (some ⟨ga, oa, none⟩) N m)) := Blk3.at_ _ _ _ _ rfl
    obtain ⟨W, hW⟩ : ∃ W, w.alloc (.cells #[.int .i64 r, .int .i64 r, .slice (some ⟨ga, oa, none⟩) N m] 34) = W := ⟨_, rfl⟩
    have B1 : Hid (Below w.heap.size w W) := by rw [← hW]; exact B0.out _
    have NZ : ((r : Int) == 0) = false := by simp; omega
    rw [hW] at K0
    obtain ⟨a0, a1, a2, -, -, -⟩ := K0.out.all
    go_enter Try.func50, Try.ntmps50
    go_wp2_with fail
    clear a0 a1 a2 hW B0
    go_loopw [2, 3, 4, 5, 6] (fun _ v3 v4 v5 _ wr => ∃ (j : Nat) (s : Int), v5 = .int .i64 j ∧ j ≤ r ∧ v3 = .int .i64 s ∧ v4 = .int .i64 (sg j) ∧ detAcc (fun j => xs.getD j 0) f j = some s ∧ Below W.heap.size W wr) (fun _ _ _ v5 _ _ => r - (intOf v5).toNat)
    case atStart => exact ⟨0, 0, rfl, by omega, rfl, rfl, rfl, Below.refl _ _⟩
    case round =>
      obtain ⟨j, s, rfl, hj, rfl, rfl, hs, hb⟩ := hrel
      have E := Lib.hid hs
      have B := Lib.hid hb
      have BW : Hid (Below w.heap.size w wr) := B1.out.trans (hb.mono B1.out.size)
      have R0 := Lib.hid (K0.out.keep hb K0.out.lt)
      clear hs hb
      obtain ⟨a0, a1, a2, -, -, -⟩ := R0.out.all
      by_cases hlt : j < r
      · have hc := CL.out wr BW.out j hlt
        have hx := ND.out j hlt
        obtain ⟨x, hxx⟩ : ∃ x, xs.getD j 0 = x := ⟨_, rfl⟩
        have X := Lib.hid hxx
        rw [hxx] at hc hx
        clear hxx
        have jl := JL.out
        obtain ⟨sn, hsn⟩ : ∃ z, sg j = z := ⟨_, rfl⟩
        have S := Lib.hid hsn
        have s1 : sn = 1 ∨ sn = -1 := by rw [← hsn]; exact sg_or j
        have vn : IntKind.i64.wrap (-sn) = -sn := IntWalk.i64_in _ (by omega)
        have SS : Hid (sg (j + 1) = -sn) := by show _ = _; rw [sg_succ, hsn]
        rw [hsn]
        clear hsn
        by_cases h0 : x = 0
        · have n1 : (x != 0) = false := by simp [h0]
          have E2 : Hid (detAcc (fun j => xs.getD j 0) f (j + 1) = some s) := detAcc_skip E.out (by show xs.getD j 0 = 0; rw [X.out, h0])
          clear h0 s1
          go_wp2_with fail
          go_roundw
          case rel => exact ⟨j + 1, s, by go_num, by omega, rfl, by rw [SS.out], E2.out, B.out⟩
          case measure => simp [intOf]; omega
        · have n1 : (x != 0) = true := by simp [h0]
          have h00 : Hid (xs.getD j 0 ≠ 0) := by show _ ≠ _; rw [X.out]; exact h0
          clear h0
          go_wp2_with fail
          refine (WO.out j _ BW.out).mono ?_
          rintro e w1 ⟨v, rfl, own, hb1⟩
          obtain ⟨w1l, w1n⟩ := WL.out j hlt
          obtain ⟨q, qc, rfl, -, -⟩ := own.form
          rw [w1l]
          have RQ := Lib.hid own.rdq
          have B2 := Lib.hid (B.out.trans (hb1.mono B.out.size))
          have BW2 := Lib.hid (BW.out.trans (hb1.mono BW.out.size))
          have LL := Lib.hid w1l
          have LN := Lib.hid w1n
          clear own hb1 w1l w1n
          go_wp2_with fail
          refine (IH.out q qc _ w1 RQ.out LL.out (by omega) LN.out).mono ?_
          rintro e w2 ⟨rfl, hb2⟩
          have B3 := Lib.hid (B2.out.trans (hb2.mono B2.out.size))
          have BW3 := Lib.hid (BW2.out.trans (hb2.mono BW2.out.size))
          have R1 := Lib.hid (K0.out.keep B3.out K0.out.lt)
          have FJ := FD.out j
          obtain ⟨y, hy⟩ : ∃ y, detB n (woL r 0 j xs N) = y := ⟨_, rfl⟩
          rw [hy] at FJ ⊢
          have Y := Lib.hid FJ
          have hyb : y = badN ∨ NumP y := by rw [← hy]; exact detB_or _ _
          clear hy FJ hb2 a0 a1 a2
          by_cases h1 : y = badN
          · have n2 : (y == -4611686018427387904) = true := by simp [h1, badN]
            have V : Hid (detB r xs = -4611686018427387904) := D0.out (j + 1) (detAcc_bad E.out h00.out (by rw [Y.out]; exact h1)) (by omega)
            clear h1 hyb s1
            go_wp2_with fail
            go_ret
            exact ⟨by rw [V.out]; rfl, BW3.out⟩
          · have n2 : (y == -4611686018427387904) = false := by simpa [badN] using h1
            have E2 : Hid (detAcc (fun j => xs.getD j 0) f (j + 1) = some (s + sn * x * y)) := by
              have := detAcc_add E.out h00.out (by rw [Y.out]; exact h1)
              rw [S.out, Y.out] at this
              show _ = _
              rw [this, X.out]
            have bd := BD.out (j + 1) _ (by omega) E2.out
            have mx : NumP (sn * x) := by unfold NumP at *; rcases s1 with rfl | rfl <;> omega
            have my := mul_num _ _ mx (hyb.resolve_left h1)
            unfold NumP at mx
            have v1 : IntKind.i64.wrap (sn * x) = sn * x := IntWalk.i64_in _ (by omega)
            have v2 : IntKind.i64.wrap (sn * x * y) = sn * x * y := IntWalk.i64_in _ (by omega)
            have v3 : IntKind.i64.wrap (s + sn * x * y) = s + sn * x * y := IntWalk.i64_in _ (by omega)
            have hc := CL.out w2 BW3.out j hlt
            rw [X.out] at hc
            obtain ⟨a0, a1, a2, -, -, -⟩ := R1.out.all
            clear h1 hyb s1 bd mx my
            go_wp2_with fail
            go_roundw
            case rel => exact ⟨j + 1, s + sn * x * y, by go_num, by omega, rfl, by rw [SS.out], E2.out, B3.out⟩
            case measure => simp [intOf]; omega
      · obtain rfl : j = r := by omega
        have V : Hid (detB j xs = fitB s) := D1.out s E.out
        clear hlt
        go_wp2_with fail
        refine (sFit s _).mono ?_
        rintro e w2 ⟨rfl, rfl⟩
        go_wp2_with fail
        go_ret
        exact ⟨by rw [V.out]; rfl, BW.out⟩
end Go.Proofs.Ytgemkfcapkfdbaa
end

section
/-
  Chapter 6, in the model: IsSquare.
-/
namespace Go.Proofs.Ytgemkfcapkfdbaa
open Go.RowKit

def isSq (r c : Int) (xs : List Int) : Bool := isMat r c xs && decide (r = c) && decide (r ≤ 6)
set_option maxHeartbeats 1000000 in
theorem sIsSq (r c : Int) (a : Option Addr) (m : Nat) (xs : List Int) (w : World) (h : Rd w a xs) (hn : xs.length ≤ 16777216) :
    Calls Try.prog 49 #[.agg #[.int .i64 r, .int .i64 c, .slice a xs.length m]] w (Gives (.bool (isSq r c xs)) w) := by
  have H := Lib.hid h
  obtain ⟨n, hx⟩ : ∃ n, xs.length = n := ⟨_, rfl⟩
  have HX := Lib.hid hx
  rw [hx] at hn ⊢
  clear hx h
  have B0 : ∀ o1, Below w.heap.size w (w.alloc o1) := fun o1 => (Below.refl _ _).alloc (Nat.le_refl _) _
  have BH := Lib.hid B0
  clear B0
  have fin : ∀ b (w' : World), isSq r c xs = b → Below w.heap.size w w' → Gives (.bool (isSq r c xs)) w (.returned (.bool b)) w' := fun b w' h1 h2 => ⟨by rw [h1], h2⟩
  have FIN := Lib.hid fin
  clear fin
  go_enter Try.func49, Try.ntmps49
  go_wp2_with fail
  have ST := sIsMat r c a m xs _ (H.out.below (BH.out (.cells #[.int .i64 r, .int .i64 c, .slice a n m] 34))) (by rw [HX.out]; omega)
  rw [HX.out] at ST
  refine ST.mono ?_
  clear ST
  rintro e w1 ⟨rfl, hb⟩
  have K0 : Hid (Blk3 w1 w.heap.size 34 (.int .i64 r) (.int .i64 c) (.slice a n m)) := (Blk3.at_ _ _ _ _ rfl).keep hb (by simp)
  have B : Hid (Below w.heap.size w w1) := (BH.out _).trans (hb.mono (by simp))
  clear hb
  obtain ⟨ca0, ca1, ca2, -, -, -⟩ := K0.out.all
  obtain ⟨bm, hbm⟩ : ∃ b, isMat r c xs = b := ⟨_, rfl⟩
  rw [hbm]
  cases bm with
  | false =>
    have V : Hid (isSq r c xs = false) := by show isSq r c xs = false; unfold isSq; rw [hbm]; rfl
    clear hbm
    go_wp2_with fail
    go_ret
    exact FIN.out _ _ V.out B.out
  | true =>
    by_cases h1 : r = c
    · by_cases h2 : r ≤ 6
      · have V : Hid (isSq r c xs = true) := by show isSq r c xs = true; unfold isSq; rw [hbm, decide_eq_true h1, decide_eq_true h2]; rfl
        clear hbm
        subst h1
        go_wp2_with fail
        go_ret
        exact FIN.out _ _ V.out B.out
      · have V : Hid (isSq r c xs = false) := by show isSq r c xs = false; unfold isSq; rw [hbm, decide_eq_false h2]; simp
        clear hbm
        subst h1
        go_wp2_with fail
        go_ret
        exact FIN.out _ _ (by rw [V.out]; exact (decide_eq_false (by omega)).symm) B.out
    · have V : Hid (isSq r c xs = false) := by show isSq r c xs = false; unfold isSq; rw [hbm, decide_eq_false h1]; simp
      have n1 : (r == c) = false := by simpa using h1
      clear hbm
      go_wp2_with fail
      go_ret
      exact FIN.out _ _ V.out B.out
end Go.Proofs.Ytgemkfcapkfdbaa
end

section
/-
  Plain mathematics of chapter 1: Euclid's steps on triples, their sizes, and what they lead to. Nothing of a program is imported.
-/
namespace Go.Proofs.Ytgemkfcapkfdbaa

/-- Euclid's steps: (g, x, y) and (h, u, v), at most n of them. -/
def egN : Nat → Int → Int → Int → Int → Int → Int → Int × Int × Int
  | 0, g, x, y, _, _, _ => (g, x, y)
  | n + 1, g, x, y, h, u, v => if h = 0 then (g, x, y) else egN n h u v (g - g.tdiv h * h) (x - g.tdiv h * u) (y - g.tdiv h * v)

theorem rem_lt (g h : Int) (hh : h ≠ 0) : (g - g.tdiv h * h).natAbs < h.natAbs := by
  have e : g - g.tdiv h * h = g.tmod h := by have := Int.tdiv_mul_add_tmod g h; omega
  rw [e, Int.natAbs_tmod]
  exact Nat.mod_lt _ (by omega)

theorem egN_fuel : ∀ (n m : Nat) (g x y h u v : Int), h.natAbs ≤ n → h.natAbs ≤ m → egN n g x y h u v = egN m g x y h u v := by
  intro n
  induction n with
  | zero =>
    intro m g x y h u v hn _
    have h0 : h = 0 := by omega
    subst h0
    cases m <;> simp [egN]
  | succ n ih =>
    intro m g x y h u v hn hm
    by_cases h0 : h = 0
    · subst h0; cases m <;> simp [egN]
    · cases m with
      | zero => omega
      | succ m =>
        have := rem_lt g h h0
        simp only [egN, if_neg h0]
        exact ih m _ _ _ _ _ _ (by omega) (by omega)

/-- The steps to the end. -/
def eg (g x y h u v : Int) : Int × Int × Int := egN h.natAbs g x y h u v
theorem eg_end (g x y u v : Int) : eg g x y 0 u v = (g, x, y) := by simp [eg, egN]
theorem eg_step (g x y h u v : Int) (hh : h ≠ 0) : eg g x y h u v = eg h u v (g - g.tdiv h * h) (x - g.tdiv h * u) (y - g.tdiv h * v) := by
  have hl := rem_lt g h hh
  unfold eg
  obtain ⟨k, hk⟩ : ∃ k, h.natAbs = k + 1 := ⟨h.natAbs - 1, by omega⟩
  rw [hk]
  simp only [egN, if_neg hh]
  exact egN_fuel _ _ _ _ _ _ _ _ (by omega) (by omega)

/-- One column of the steps: the products g*u and h*x stand on two sides, and together they are c. -/
def Half (c g x h u : Int) : Prop := ∃ s : Int, (s = 1 ∨ s = -1) ∧ 0 ≤ s * (g * u) ∧ s * (h * x) ≤ 0 ∧ s * (g * u) - s * (h * x) = c

theorem between (k g m : Int) (h : 0 ≤ k * g) (hm : (0 ≤ m ∧ m ≤ g) ∨ (g ≤ m ∧ m ≤ 0)) : 0 ≤ k * m := by
  rcases Int.lt_trichotomy m 0 with h1 | h1 | h1
  · have hg : g < 0 := by omega
    have hk : k ≤ 0 := by
      rcases Int.lt_or_le 0 k with hp | hp
      · have := Int.mul_neg_of_pos_of_neg hp hg; omega
      · exact hp
    exact Int.mul_nonneg_of_nonpos_of_nonpos hk (by omega)
  · subst h1; simp
  · have hg : 0 < g := by omega
    have hk : 0 ≤ k := by
      rcases Int.lt_or_le k 0 with hp | hp
      · have := Int.mul_neg_of_neg_of_pos hp hg; omega
      · exact hp
    exact Int.mul_nonneg hk (by omega)

theorem tdiv_between (g h : Int) :
    ((0 ≤ g.tdiv h * h ∧ g.tdiv h * h ≤ g) ∨ (g ≤ g.tdiv h * h ∧ g.tdiv h * h ≤ 0)) ∧ ((0 ≤ g - g.tdiv h * h ∧ g - g.tdiv h * h ≤ g) ∨ (g ≤ g - g.tdiv h * h ∧ g - g.tdiv h * h ≤ 0)) := by
  have e := Int.tdiv_mul_add_tmod g h
  rcases Int.lt_or_le g 0 with hg | hg
  · have h1 : (-g).tmod h = - g.tmod h := Int.neg_tmod g h
    have h2 : 0 ≤ (-g).tmod h := Int.tmod_nonneg h (by omega)
    have h3 : (-g).tdiv h * h = - (g.tdiv h * h) := by rw [Int.neg_tdiv, Int.neg_mul]
    have h4 : (-g).tmod h ≤ -g := by
      have := Int.natAbs_tmod (-g) h
      have := Nat.mod_le (-g).natAbs h.natAbs
      omega
    omega
  · have h2 : 0 ≤ g.tmod h := Int.tmod_nonneg h hg
    have h4 : g.tmod h ≤ g := by
      have := Int.natAbs_tmod g h
      have := Nat.mod_le g.natAbs h.natAbs
      omega
    omega

theorem Half.step {c g x h u : Int} (hf : Half c g x h u) : Half c h u (g - g.tdiv h * h) (x - g.tdiv h * u) := by
  obtain ⟨s, hs, h1, h2, h3⟩ := hf
  obtain ⟨b1, b2⟩ := tdiv_between g h
  have k1 : 0 ≤ (s * u) * g := by have : (s * u) * g = s * (g * u) := by rw [Int.mul_assoc, Int.mul_comm u g]
                                  omega
  have m1 := between _ _ _ k1 b1
  have m2 := between _ _ _ k1 b2
  have e1 : -s * (h * (x - g.tdiv h * u)) = (s * u) * (g.tdiv h * h) - s * (h * x) := by
    simp only [Int.mul_sub, Int.neg_mul]
    have : s * (h * (g.tdiv h * u)) = s * u * (g.tdiv h * h) := by
      simp only [Int.mul_assoc, Int.mul_comm, Int.mul_left_comm]
    omega
  have e2 : -s * ((g - g.tdiv h * h) * u) = -((s * u) * (g - g.tdiv h * h)) := by
    rw [Int.neg_mul]; congr 1
    rw [Int.mul_assoc, Int.mul_comm u]
  have e3 : (s * u) * (g.tdiv h * h) + (s * u) * (g - g.tdiv h * h) = s * (g * u) := by
    rw [← Int.mul_add, show g.tdiv h * h + (g - g.tdiv h * h) = g from by omega, Int.mul_assoc, Int.mul_comm u]
  refine ⟨-s, by omega, ?_, ?_, ?_⟩
  · rw [e1]; omega
  · rw [e2]; omega
  · rw [e1, e2]; omega

theorem abs_le_of_mul (k x c : Int) (hk : k ≠ 0) (h1 : -c ≤ k * x) (h2 : k * x ≤ c) : -c ≤ x ∧ x ≤ c := by
  have e : (k * x).natAbs = k.natAbs * x.natAbs := Int.natAbs_mul k x
  have h3 : x.natAbs ≤ k.natAbs * x.natAbs := Nat.le_mul_of_pos_left _ (by omega)
  omega

/-- The sizes: as long as h is not 0, x is at most c. -/
theorem Half.small {c g x h u : Int} (hf : Half c g x h u) (hh : h ≠ 0) : -c ≤ x ∧ x ≤ c := by
  obtain ⟨s, hs, h1, h2, h3⟩ := hf
  refine abs_le_of_mul h x c hh ?_ ?_ <;> rcases hs with rfl | rfl <;> omega
theorem Half.small2 {c g x h u : Int} (hf : Half c g x h u) (hg : g ≠ 0) : -c ≤ u ∧ u ≤ c := by
  obtain ⟨s, hs, h1, h2, h3⟩ := hf
  refine abs_le_of_mul g u c hg ?_ ?_ <;> rcases hs with rfl | rfl <;> omega

theorem half_first (a b : Int) : Half (b.natAbs : Int) a 1 b 0 := by
  rcases Int.lt_or_le b 0 with hb | hb
  · exact ⟨1, .inl rfl, by simp, by omega, by omega⟩
  · exact ⟨-1, .inr rfl, by simp, by omega, by omega⟩
theorem half_second (a b : Int) : Half (a.natAbs : Int) a 0 b 1 := by
  rcases Int.lt_or_le a 0 with hb | hb
  · exact ⟨-1, .inr rfl, by omega, by simp, by omega⟩
  · exact ⟨1, .inl rfl, by omega, by simp, by omega⟩

/-- What holds of the numbers at each step. -/
structure Inv (a b g x y h u v : Int) : Prop where
  g0 : -400000000 ≤ g ∧ g ≤ 400000000
  h0 : -400000000 ≤ h ∧ h ≤ 400000000
  x0 : -400000000 ≤ x ∧ x ≤ 400000000
  y0 : -400000000 ≤ y ∧ y ≤ 400000000
  u0 : -400000000 ≤ u ∧ u ≤ 400000000
  v0 : -400000000 ≤ v ∧ v ≤ 400000000
  gc : a * x + b * y = g
  hc : a * u + b * v = h
  hx : Half (b.natAbs : Int) g x h u
  hy : Half (a.natAbs : Int) g y h v
  gd : Int.gcd g h = Int.gcd a b

theorem Inv.start (a b : Int) (ha : -400000000 ≤ a ∧ a ≤ 400000000) (hb : -400000000 ≤ b ∧ b ≤ 400000000) : Inv a b a 1 0 b 0 1 :=
  ⟨ha, hb, by omega, by omega, by omega, by omega, by omega, by omega, half_first a b, half_second a b, rfl⟩

theorem gcd_sub_mul (g h q : Int) : Int.gcd h (g - q * h) = Int.gcd g h := by
  rw [Int.gcd_comm g h, show g - q * h = g + h * (-q) from by rw [Int.mul_neg, Int.mul_comm h q]; omega]
  exact Int.gcd_add_mul_left_right h g (-q)

theorem Inv.step {a b g x y h u v : Int} (ha : -400000000 ≤ a ∧ a ≤ 400000000) (hb : -400000000 ≤ b ∧ b ≤ 400000000) (i : Inv a b g x y h u v) (hh : h ≠ 0) :
    Inv a b h u v (g - g.tdiv h * h) (x - g.tdiv h * u) (y - g.tdiv h * v) := by
  have hl := rem_lt g h hh
  have h0 := i.h0
  have kx := i.hx.step
  have ky := i.hy.step
  have bx := kx.small2 hh
  have by' := ky.small2 hh
  refine ⟨i.h0, by omega, i.u0, i.v0, by omega, by omega, i.hc, ?_, kx, ky, ?_⟩
  · have g1 := i.gc
    have h1 := i.hc
    rw [Int.mul_sub, Int.mul_sub]
    have e : ∀ q : Int, a * (q * u) + b * (q * v) = q * h := fun q => by
      rw [← h1, Int.mul_add, Int.mul_left_comm a, Int.mul_left_comm b]
    have e' := e (g.tdiv h)
    omega
  · rw [gcd_sub_mul]; exact i.gd

/-- What the walk needs of one step: no sum and no product is too large. -/
theorem Inv.fits {a b g x y h u v : Int} (ha : -400000000 ≤ a ∧ a ≤ 400000000) (hb : -400000000 ≤ b ∧ b ≤ 400000000) (i : Inv a b g x y h u v) (hh : h ≠ 0) :
    (-400000000 ≤ g.tdiv h ∧ g.tdiv h ≤ 400000000) ∧ (-800000000 ≤ g.tdiv h * h ∧ g.tdiv h * h ≤ 800000000) ∧ (-800000000 ≤ g.tdiv h * u ∧ g.tdiv h * u ≤ 800000000) ∧ (-800000000 ≤ g.tdiv h * v ∧ g.tdiv h * v ≤ 800000000) := by
  have j := i.step ha hb hh
  have g0 := i.g0; have x0 := i.x0; have y0 := i.y0; have h0 := i.h0
  have h1 := j.h0; have u1 := j.u0; have v1 := j.v0
  have q : (g.tdiv h).natAbs ≤ g.natAbs := by rw [Int.natAbs_tdiv]; exact Nat.div_le_self _ _
  refine ⟨by omega, by omega, by omega, by omega⟩

/-- The end: g is the greatest common divisor, but for its sign. -/
theorem Inv.last {a b g x y u v : Int} (i : Inv a b g x y 0 u v) : (g.natAbs : Int) = (Int.gcd a b : Int) := by
  have := i.gd
  rw [Int.gcd_zero_right] at this
  omega

/-! ### Remainders, quotients rounded down -/
theorem gcd_round (x y : Int) : Int.gcd y (x.tmod y) = Int.gcd x y := by
  rw [show x.tmod y = x - x.tdiv y * y from by have := Int.tdiv_mul_add_tmod x y; omega]
  exact gcd_sub_mul x y _
theorem tmod_small (x y : Int) (hy : y ≠ 0) : (x.tmod y).natAbs < y.natAbs := by
  rw [Int.natAbs_tmod]; exact Nat.mod_lt _ (by omega)

theorem ediv_of (n d q r : Int) (hd : 0 < d) (h : n = q * d + r) (h0 : 0 ≤ r) (h1 : r < d) : n / d = q ∧ n % d = r :=
  (Int.ediv_emod_unique hd).2 ⟨by rw [h, Int.mul_comm]; omega, h0, h1⟩
theorem tdiv_up (n d : Int) (hd : 0 < d) (h : 0 ≤ n.tmod d) : n / d = n.tdiv d ∧ n % d = n.tmod d := by
  have e := Int.tdiv_mul_add_tmod n d
  have l := tmod_small n d (by omega)
  exact ediv_of n d _ _ hd (by omega) h (by omega)
theorem tdiv_down (n d : Int) (hd : 0 < d) (h : n.tmod d < 0) : n / d = n.tdiv d - 1 ∧ n % d = n.tmod d + d := by
  have e := Int.tdiv_mul_add_tmod n d
  have l := tmod_small n d (by omega)
  exact ediv_of n d _ _ hd (by rw [Int.sub_mul]; omega) (by omega) (by omega)
theorem tdiv_bd (n d : Int) (h1 : -400000000 ≤ n) (h2 : n ≤ 400000000) : -400000000 ≤ n.tdiv d ∧ n.tdiv d ≤ 400000000 := by
  have q : (n.tdiv d).natAbs ≤ n.natAbs := by rw [Int.natAbs_tdiv]; exact Nat.div_le_self _ _
  omega
theorem ediv_bd (n d : Int) (hd : 0 < d) (h1 : -400000000 ≤ n) (h2 : n ≤ 400000000) : -400000001 ≤ n / d ∧ n / d ≤ 400000000 := by
  have b := tdiv_bd n d h1 h2
  rcases Int.lt_or_le (n.tmod d) 0 with h | h
  · have := (tdiv_down n d hd h).1; omega
  · have := (tdiv_up n d hd h).1; omega
theorem mul_ediv_bd (n d : Int) (hd : 0 < d) : n - d < d * (n / d) ∧ d * (n / d) ≤ n := by
  have e := Int.mul_ediv_add_emod n d
  have l := Int.emod_lt_of_pos n hd
  have l' := Int.emod_nonneg n (show d ≠ 0 by omega)
  omega

theorem iDiv_pos (n d : Int) (hd0 : d ≠ 0) (h : 0 ≤ n.tmod d) : n / d = n.tdiv d ∧ n % d = n.tmod d := by
  rcases Int.lt_or_le 0 d with hd | hd
  · exact tdiv_up n d hd h
  · obtain ⟨c, rfl⟩ : ∃ c, d = -c := ⟨-d, by omega⟩
    rw [Int.ediv_neg, Int.emod_neg, Int.tdiv_neg, Int.tmod_neg]
    rw [Int.tmod_neg] at h
    have := tdiv_up n c (by omega) h
    exact ⟨by rw [this.1], this.2⟩
theorem iDiv_neg (n c : Int) (hc : 0 < c) (h : n.tmod (-c) < 0) : n / -c = n.tdiv (-c) + 1 ∧ n % -c = n.tmod (-c) - -c := by
  rw [Int.ediv_neg, Int.emod_neg, Int.tdiv_neg, Int.tmod_neg]
  rw [Int.tmod_neg] at h
  have := tdiv_down n c hc h
  omega


end Go.Proofs.Ytgemkfcapkfdbaa
end

section
/-
  Chapter 1, in the model: |n|.
-/
namespace Go.Proofs.Ytgemkfcapkfdbaa
open Go.RowKit

theorem tdiv_bdw (n d : Int) (h1 : -4000000000000000000 ≤ n) (h2 : n ≤ 4000000000000000000) : -4000000000000000000 ≤ n.tdiv d ∧ n.tdiv d ≤ 4000000000000000000 := by
  have q : (n.tdiv d).natAbs ≤ n.natAbs := by rw [Int.natAbs_tdiv]; exact Nat.div_le_self _ _
  omega
theorem sAbs_p (n : Int) (w : World) (h1 : 0 ≤ n) (h2 : n ≤ 9223372036854775807) :
    Calls Try.prog 64 #[.int .i64 n] w fun e w' => e = .returned (.int .i64 n) ∧ w = w' := by
  go_enter Try.func64, Try.ntmps64
  go_wp2
  all_goals
    go_ret
    exact ⟨ret_int (by omega), rfl⟩
theorem sAbs_n (n : Int) (w : World) (h1 : 0 < n) (h2 : n ≤ 9223372036854775807) :
    Calls Try.prog 64 #[.int .i64 (-n)] w fun e w' => e = .returned (.int .i64 n) ∧ w = w' := by
  go_enter Try.func64, Try.ntmps64
  go_wp2
  all_goals
    go_ret
    exact ⟨ret_int (by omega), rfl⟩
theorem sAbs (n : Int) (w : World) (h1 : -9000000000000000000 ≤ n) (h2 : n ≤ 9000000000000000000) :
    Calls Try.prog 64 #[.int .i64 n] w fun e w' => e = .returned (.int .i64 (n.natAbs : Int)) ∧ w = w' := by
  rcases Int.lt_or_le n 0 with h | h
  · obtain ⟨m, rfl⟩ : ∃ m, n = -m := ⟨-n, by omega⟩
    rw [show (((-m).natAbs : Nat) : Int) = m by omega]
    exact sAbs_n m w (by omega) (by omega)
  · rw [show ((n.natAbs : Nat) : Int) = n by omega]
    exact sAbs_p n w (by omega) (by omega)
end Go.Proofs.Ytgemkfcapkfdbaa
end

section
/-
  Chapter 6, in the model: DeterminantOf, IsUnimodular.
-/
namespace Go.Proofs.Ytgemkfcapkfdbaa
open Go.RowKit

/-- What DeterminantOf answers. -/
def detOf (r c : Int) (xs : List Int) : Int × Bool := if isSq r c xs = true then detM r.toNat xs else (0, false)
theorem isSq_says {r c : Int} {xs : List Int} (h : isSq r c xs = true) : ∃ n : Nat, r = n ∧ c = n ∧ n ≤ 6 ∧ xs.length = n * n ∧ nums xs = true := by
  unfold isSq at h
  simp only [Bool.and_eq_true, decide_eq_true_eq] at h
  obtain ⟨⟨h1, h2⟩, h3⟩ := h
  obtain ⟨⟨r1, r2⟩, -, l, nx⟩ := isMat_says h1
  obtain ⟨n, rfl⟩ := Int.eq_ofNat_of_zero_le r1
  subst h2
  exact ⟨n, rfl, rfl, by omega, by rw [← Int.natCast_mul] at l; omega, nx⟩
set_option maxRecDepth 100000 in
set_option maxHeartbeats 1000000 in
theorem sDetOf (r c : Int) (a : Option Addr) (m : Nat) (xs : List Int) (w : World) (h : Rd w a xs) (hn : xs.length ≤ 16777216) :
    Calls Try.prog 19 #[.agg #[.int .i64 r, .int .i64 c, .slice a xs.length m]] w (Gives (.tuple #[.int .i64 (detOf r c xs).1, .bool (detOf r c xs).2]) w) := by
  have H := Lib.hid h
  obtain ⟨l, hx⟩ : ∃ n, xs.length = n := ⟨_, rfl⟩
  have HX := Lib.hid hx
  rw [hx] at hn ⊢
  clear hx h
  have B0 : Hid (∀ o1, Below w.heap.size w (w.alloc o1)) := fun o1 => (Below.refl _ _).alloc (Nat.le_refl _) _
  have SQ : Hid (∀ w', Below w.heap.size w w' → Calls Try.prog 49 #[.agg #[.int .i64 r, .int .i64 c, .slice a l m]] w' (Gives (.bool (isSq r c xs)) w')) := fun w' hb => by
    have := sIsSq r c a m xs w' (H.out.below hb) (by rw [HX.out]; exact hn)
    rw [HX.out] at this
    exact this
  rcases Bool.eq_false_or_eq_true (isSq r c xs) with hs | hs
  · obtain ⟨n, rfl, rfl, h6, hl, nx⟩ := isSq_says hs
    have V : Hid (detOf n n xs = detM n xs) := by show detOf n n xs = _; unfold detOf; rw [if_pos hs]; rfl
    have DT : Hid (∀ w', Below w.heap.size w w' → Calls Try.prog 50 #[.agg #[.int .i64 n, .int .i64 n, .slice a l m]] w' (Gives (.int .i64 (detB n xs)) w')) := fun w' hb => by
      have := sDet n a m xs w' (H.out.below hb) hl h6 nx
      rw [← hl, HX.out] at this
      exact this
    rw [hs] at SQ
    obtain ⟨y, hy⟩ : ∃ y, detB n xs = y := ⟨_, rfl⟩
    rw [hy] at DT
    rw [V.out]
    have M1 : Hid (y = badN → detM n xs = (0, false)) := fun e => by unfold detM; rw [hy, if_pos e]
    have M2 : Hid (y ≠ badN → detM n xs = (y, true)) := fun e => by unfold detM; rw [hy, if_neg e]
    clear hs hl nx hy V
    go_enter Try.func19, Try.ntmps19
    go_wp2_with fail
    refine (SQ.out _ (B0.out _)).mono ?_
    rintro e w1 ⟨rfl, hb⟩
    have K0 : Hid (Blk3 w1 w.heap.size 34 (.int .i64 n) (.int .i64 n) (.slice a l m)) := (Blk3.at_ _ _ _ _ rfl).keep hb (by simp)
    have B : Hid (Below w.heap.size w w1) := (B0.out _).trans (hb.mono (by simp))
    clear hb
    obtain ⟨a0, a1, a2, -, -, -⟩ := K0.out.all
    go_wp2_with fail
    refine (DT.out _ B.out).mono ?_
    rintro e w2 ⟨rfl, hb⟩
    have B2 : Hid (Below w.heap.size w w2) := stepB B.out hb
    clear hb a0 a1 a2
    by_cases h1 : y = badN
    · have n2 : (y == -4611686018427387904) = true := by simp [h1, badN]
      have MM := Lib.hid (M1.out h1)
      clear h1
      go_wp2_with fail
      exact bodyPost_ret (v := .tuple #[.int .i64 0, .bool false]) (by simp [results, Try.results19, go_sem]) rfl ⟨by rw [MM.out], B2.out⟩
    · have n2 : (y == -4611686018427387904) = false := by simpa [badN] using h1
      have MM := Lib.hid (M2.out h1)
      clear h1
      go_wp2_with fail
      exact bodyPost_ret (v := .tuple #[.int .i64 y, .bool true]) (by simp [results, Try.results19, go_sem]) rfl ⟨by rw [MM.out], B2.out⟩
  · have V : Hid (detOf r c xs = (0, false)) := by show detOf r c xs = _; unfold detOf; rw [if_neg (by rw [hs]; decide)]
    rw [hs] at SQ
    clear hs
    rw [V.out]
    go_enter Try.func19, Try.ntmps19
    go_wp2_with fail
    refine (SQ.out _ (B0.out _)).mono ?_
    rintro e w1 ⟨rfl, hb⟩
    have B : Hid (Below w.heap.size w w1) := (B0.out _).trans (hb.mono (by simp))
    clear hb
    go_wp2_with fail
    exact bodyPost_ret (v := .tuple #[.int .i64 0, .bool false]) (by simp [results, Try.results19, go_sem]) rfl ⟨rfl, B.out⟩
/-- What IsUnimodular answers. -/
def uniB (r c : Int) (xs : List Int) : Bool := (detOf r c xs).2 && decide ((detOf r c xs).1 = 1 ∨ (detOf r c xs).1 = -1)
theorem detOf_num (r c : Int) (xs : List Int) : NumP (detOf r c xs).1 := by
  unfold detOf
  split
  · unfold detM
    split
    · exact ⟨by decide, by decide⟩
    · rename_i h
      exact (detB_or _ _).resolve_left h
  · exact ⟨by decide, by decide⟩
end Go.Proofs.Ytgemkfcapkfdbaa
end

section
/-
  Plain mathematics: a row that is filled from the left.
-/
namespace Go.Proofs.Ytgemkfcapkfdbaa

/-- What has been filled in up to k. -/
def upto (n k : Nat) (f : Nat → Int) : List Int := (List.range n).map fun i => if i < k then f i else 0
theorem upto_length (n k : Nat) (f : Nat → Int) : (upto n k f).length = n := by simp [upto]
theorem upto_zero (n : Nat) (f : Nat → Int) : upto n 0 f = List.replicate n 0 := by
  apply List.ext_getElem (by simp [upto])
  intro i h1 h2
  simp [upto]
theorem upto_all (n : Nat) (f : Nat → Int) : upto n n f = (List.range n).map f := by
  apply List.ext_getElem (by simp [upto])
  intro i h1 h2
  have : i < n := by simpa [upto] using h1
  simp [upto, this]
theorem upto_at (n k : Nat) (f : Nat → Int) : (upto n k f).getD k 0 = 0 := by
  unfold upto List.getD
  rcases Nat.lt_or_ge k n with h | h
  · simp [h]
  · simp [h]
theorem upto_step (n k : Nat) (f : Nat → Int) : (upto n k f).set k (f k) = upto n (k + 1) f := by
  apply List.ext_getElem (by simp [upto])
  intro i h1 h2
  have hi : i < n := by simpa [upto] using h2
  rw [List.getElem_set]
  by_cases e : k = i
  · subst e; simp [upto]
  · simp only [e, if_false]
    simp only [upto, List.getElem_map, List.getElem_range]
    by_cases h3 : i < k
    · rw [if_pos h3, if_pos (by omega)]
    · rw [if_neg h3, if_neg (by omega)]
end Go.Proofs.Ytgemkfcapkfdbaa
end

section
/-
  Plain mathematics of chapter 3: what a product and a matrix turned over are. Nothing of a program is used.
-/
namespace Go.Proofs.Ytgemkfcapkfdbaa
open Go.RowKit

def turnL (R C : Nat) (xs : List Int) : List Int := tab C R fun j i => xs.getD (i * C + j) 0
/-- What is turned over so far: rows below i, and of row i the columns below j. -/
def Turned (R C : Nat) (xs : List Int) (i j : Nat) (zs : List Int) : Prop :=
  zs.length = C * R ∧ (∀ i' j' : Nat, i' < i → j' < C → zs.getD (j' * R + i') 0 = xs.getD (i' * C + j') 0) ∧ (∀ j' : Nat, j' < j → zs.getD (j' * R + i) 0 = xs.getD (i * C + j') 0)
theorem Turned.start (R C : Nat) (xs : List Int) : Turned R C xs 0 0 (List.replicate (C * R) 0) := ⟨by simp, fun _ _ h => absurd h (by omega), fun _ h => absurd h (by omega)⟩
theorem Turned.step {R C : Nat} {xs zs : List Int} {i j : Nat} (h : Turned R C xs i j zs) (hi : i < R) (hj : j < C) : Turned R C xs i (j + 1) (zs.set (j * R + i) (xs.getD (i * C + j) 0)) := by
  obtain ⟨hl, h1, h2⟩ := h
  have hb : j * R + i < zs.length := by rw [hl]; exact idx_lt hj hi
  refine ⟨by rw [List.length_set]; exact hl, fun i' j' hi' hj' => ?_, fun j' hj' => ?_⟩
  · rw [getD_set _ _ _ _ hb, if_neg (fun e => by have := (idx_inj (by omega) hi e).2; omega)]
    exact h1 i' j' hi' hj'
  · rw [getD_set _ _ _ _ hb]
    by_cases e : j' = j
    · subst e; rw [if_pos rfl]
    · rw [if_neg (fun h => e (idx_inj hi hi h).1)]
      exact h2 j' (by omega)
theorem Turned.row {R C : Nat} {xs zs : List Int} {i : Nat} (h : Turned R C xs i C zs) : Turned R C xs (i + 1) 0 zs := by
  obtain ⟨hl, h1, h2⟩ := h
  refine ⟨hl, fun i' j' hi' hj' => ?_, fun _ h => absurd h (by omega)⟩
  by_cases e : i' = i
  · subst e; exact h2 j' hj'
  · exact h1 i' j' (by omega) hj'
theorem Turned.whole {R C : Nat} {xs zs : List Int} (h : Turned R C xs R 0 zs) : zs = turnL R C xs := by
  obtain ⟨hl, h1, _⟩ := h
  exact tab_ext hl fun j i hj hi => h1 i j hi hj
/-- The sum of the first k products of row i and column j. -/
def dot (K C : Nat) (xs ys : List Int) (i j : Nat) : Nat → Int
  | 0 => 0
  | k + 1 => dot K C xs ys i j k + xs.getD (i * K + k) 0 * ys.getD (k * C + j) 0
def mulL (R K C : Nat) (xs ys : List Int) : List Int := tab R C fun i j => dot K C xs ys i j K
theorem dot_bd {K C : Nat} {xs ys : List Int} {i j : Nat} (hx : ∀ p : Nat, p < K → NumP (xs.getD (i * K + p) 0)) (hy : ∀ p : Nat, p < K → NumP (ys.getD (p * C + j) 0)) :
    ∀ k : Nat, k ≤ K → -160000000000000000 * (k : Int) ≤ dot K C xs ys i j k ∧ dot K C xs ys i j k ≤ 160000000000000000 * (k : Int) := by
  intro k
  induction k with
  | zero => intro _; simp [dot]
  | succ k ih =>
    intro hk
    have h := ih (by omega)
    have m := mul_num _ _ (hx k (by omega)) (hy k (by omega))
    simp only [dot]
    push_cast
    omega

/-- What is filled in so far, row by row. -/
def Filled (R C : Nat) (f : Nat → Nat → Int) (i j : Nat) (zs : List Int) : Prop :=
  zs.length = R * C ∧ (∀ i' j' : Nat, i' < i → j' < C → zs.getD (i' * C + j') 0 = f i' j') ∧ (∀ j' : Nat, j' < j → zs.getD (i * C + j') 0 = f i j')
theorem Filled.start (R C : Nat) (f : Nat → Nat → Int) : Filled R C f 0 0 (List.replicate (R * C) 0) := ⟨by simp, fun _ _ h => absurd h (by omega), fun _ h => absurd h (by omega)⟩
theorem Filled.step {R C : Nat} {f : Nat → Nat → Int} {zs : List Int} {i j : Nat} (h : Filled R C f i j zs) (hi : i < R) (hj : j < C) : Filled R C f i (j + 1) (zs.set (i * C + j) (f i j)) := by
  obtain ⟨hl, h1, h2⟩ := h
  have hb : i * C + j < zs.length := by rw [hl]; exact idx_lt hi hj
  refine ⟨by rw [List.length_set]; exact hl, fun i' j' hi' hj' => ?_, fun j' hj' => ?_⟩
  · rw [getD_set _ _ _ _ hb, if_neg (fun e => by have := (idx_inj hj' hj e).1; omega)]
    exact h1 i' j' hi' hj'
  · rw [getD_set _ _ _ _ hb]
    by_cases e : j' = j
    · subst e; rw [if_pos rfl]
    · rw [if_neg (fun h => e (idx_inj (by omega) hj h).2)]
      exact h2 j' (by omega)
theorem Filled.row {R C : Nat} {f : Nat → Nat → Int} {zs : List Int} {i : Nat} (h : Filled R C f i C zs) : Filled R C f (i + 1) 0 zs := by
  obtain ⟨hl, h1, h2⟩ := h
  refine ⟨hl, fun i' j' hi' hj' => ?_, fun _ h => absurd h (by omega)⟩
  by_cases e : i' = i
  · subst e; exact h2 j' hj'
  · exact h1 i' j' (by omega) hj'
theorem Filled.whole {R C : Nat} {f : Nat → Nat → Int} {zs : List Int} (h : Filled R C f R 0 zs) : zs = tab R C f := tab_ext h.1 fun i j hi hj => h.2.1 i j hi hj
def mulM (r c : Int) (xs : List Int) (r' c' : Int) (ys : List Int) : MR := if (isMat r c xs && isMat r' c' ys && decide (c = r')) = true then MR.done r c' (mulL r.toNat c.toNat c'.toNat xs ys) else MR.no
def turnM (r c : Int) (xs : List Int) : MR := if isMat r c xs = true then ⟨true, c, r, turnL r.toNat c.toNat xs⟩ else MR.no
def addL (xs ys : List Int) : List Int := (List.range xs.length).map fun i => xs.getD i 0 + ys.getD i 0
def addM (r c : Int) (xs : List Int) (r' c' : Int) (ys : List Int) : MR := if (isMat r c xs && isMat r' c' ys && decide (r = r' ∧ c = c')) = true then MR.done r c (addL xs ys) else MR.no

def scaleL (xs : List Int) (q : Int) : List Int := (List.range xs.length).map fun i => xs.getD i 0 * q
def scaleM (r c : Int) (xs : List Int) (q : Int) : MR := if (isMat r c xs && decide (NumP q)) = true then MR.done r c (scaleL xs q) else MR.no

end Go.Proofs.Ytgemkfcapkfdbaa
end

section
/-
  Plain mathematics of chapter 6: elimination without fractions over lists of cells ends in the determinant. Nothing of a program is used.
-/
namespace Go.Proofs.Ytgemkfcapkfdbaa

/-- The first row from p on (k rows are left) whose cell in column t is not 0; n if there is none. -/
def findP (n t : Nat) (xs : List Int) : Nat → Nat → Nat
  | 0, p => p
  | k + 1, p => if xs.getD (p * n + t) 0 = 0 then findP n t xs k (p + 1) else p
theorem findP_eq {n t : Nat} {xs : List Int} {q : Nat} (h2 : q ≤ n) (hn : q < n → xs.getD (q * n + t) 0 ≠ 0) : ∀ {k p : Nat}, p + k = n → p ≤ q → (∀ r, p ≤ r → r < q → xs.getD (r * n + t) 0 = 0) → findP n t xs k p = q := by
  intro k
  induction k with
  | zero => intro p hk h1 _; show p = q; omega
  | succ k ih =>
    intro p hk h1 hz
    show (if xs.getD (p * n + t) 0 = 0 then _ else p) = q
    rcases Nat.lt_or_ge p q with h | h
    · rw [if_pos (hz p (Nat.le_refl _) h)]
      exact ih (by omega) (by omega) fun r h3 h4 => hz r (by omega) h4
    · obtain rfl : p = q := by omega
      rw [if_neg (hn (by omega))]
def pivP (n t : Nat) (xs : List Int) : Nat := findP n t xs (n - t) t
theorem pivP_eq {n t q : Nat} {xs : List Int} (ht : t ≤ q) (h2 : q ≤ n) (hz : ∀ r, t ≤ r → r < q → xs.getD (r * n + t) 0 = 0) (hn : q < n → xs.getD (q * n + t) 0 ≠ 0) : pivP n t xs = q := findP_eq h2 hn (by omega) ht hz
theorem findP_says {n t : Nat} {xs : List Int} : ∀ {k p : Nat}, p + k = n → p ≤ findP n t xs k p ∧ findP n t xs k p ≤ n ∧ (∀ r, p ≤ r → r < findP n t xs k p → xs.getD (r * n + t) 0 = 0) ∧ (findP n t xs k p < n → xs.getD (findP n t xs k p * n + t) 0 ≠ 0) := by
  intro k
  induction k with
  | zero => intro p hk; exact ⟨Nat.le_refl _, by show p ≤ n; omega, fun r h1 h2 => absurd h2 (by show ¬ r < p; omega), fun h => absurd h (by show ¬ p < n; omega)⟩
  | succ k ih =>
    intro p hk
    by_cases h : xs.getD (p * n + t) 0 = 0
    · have e : findP n t xs (k + 1) p = findP n t xs k (p + 1) := if_pos h
      rw [e]
      obtain ⟨h1, h2, h3, h4⟩ := ih (p := p + 1) (by omega)
      refine ⟨by omega, h2, fun r h5 h6 => ?_, h4⟩
      rcases Nat.lt_or_ge p r with h7 | h7
      · exact h3 r h7 h6
      · obtain rfl : r = p := by omega
        exact h
    · have e : findP n t xs (k + 1) p = p := if_neg h
      rw [e]
      exact ⟨Nat.le_refl _, by omega, fun r h1 h2 => by omega, fun _ => h⟩
theorem pivP_says {n t : Nat} {xs : List Int} (ht : t ≤ n) : t ≤ pivP n t xs ∧ pivP n t xs ≤ n ∧ (∀ r, t ≤ r → r < pivP n t xs → xs.getD (r * n + t) 0 = 0) ∧ (pivP n t xs < n → xs.getD (pivP n t xs * n + t) 0 ≠ 0) := findP_says (by omega)
/-- The pivot's row is swapped with row t. -/
def pvL (n t : Nat) (xs : List Int) : List Int := if pivP n t xs = t then xs else opL 0 (pivP n t xs) t 0 n xs
/-- What a cell becomes in the step of row t. -/
def elAt (n t : Nat) (last : Int) (xs : List Int) (i j : Nat) : Int := (xs.getD (i * n + j) 0 * xs.getD (t * n + t) 0 - xs.getD (i * n + t) 0 * xs.getD (t * n + j) 0).tdiv last
def elL (n t : Nat) (last : Int) (xs : List Int) : List Int := tab n n fun i j => if t < i ∧ t < j then elAt n t last xs i j else xs.getD (i * n + j) 0
/-- k steps from row t on: the determinant and true, or 0 and false where a cell is beyond the limit. -/
def stR2 (n : Nat) : Nat → Nat → List Int → Int → Int → Int × Bool
  | 0, _, _, last, s => (s * last, true)
  | k + 1, t, xs, last, s =>
    if pivP n t xs = n then (0, true)
    else if nums (elL n t last (pvL n t xs)) = true then stR2 n k (t + 1) (elL n t last (pvL n t xs)) ((pvL n t xs).getD (t * n + t) 0) (if pivP n t xs = t then s else -s)
    else (0, false)
theorem stR2_none {n k t : Nat} {xs : List Int} {last s : Int} (h : pivP n t xs = n) : stR2 n (k + 1) t xs last s = (0, true) := if_pos h
theorem stR2_bad {n k t : Nat} {xs : List Int} {last s : Int} (h : pivP n t xs ≠ n) (h2 : nums (elL n t last (pvL n t xs)) ≠ true) : stR2 n (k + 1) t xs last s = (0, false) := by
  show (if _ then _ else if _ then _ else _) = _
  rw [if_neg h, if_neg h2]
theorem stR2_on {n k t : Nat} {xs : List Int} {last s : Int} (h : pivP n t xs ≠ n) (h2 : nums (elL n t last (pvL n t xs)) = true) : stR2 n (k + 1) t xs last s = stR2 n k (t + 1) (elL n t last (pvL n t xs)) ((pvL n t xs).getD (t * n + t) 0) (if pivP n t xs = t then s else -s) := by
  show (if _ then _ else if _ then _ else _) = _
  rw [if_neg h, if_pos h2]
theorem opL_swap {n p t i j : Nat} {xs : List Int} (hx : xs.length = n * n) (hi : i < n) (hj : j < n) : (opL 0 p t 0 n xs).getD (i * n + j) 0 = xs.getD ((if i = p then t else if i = t then p else i) * n + j) 0 := by
  have hp : i * n + j < xs.length := by rw [hx]; exact idx_lt hi hj
  unfold opL
  simp only [List.getD, List.getElem?_map, List.getElem?_range hp, Option.map_some, Option.getD_some]
  unfold opAt
  rw [if_pos rfl, idx_div hj, idx_mod hj]
  by_cases h1 : i = p
  · rw [if_pos h1, if_pos h1]; rfl
  · rw [if_neg h1, if_neg h1]
    by_cases h2 : i = t
    · rw [if_pos h2, if_pos h2]; rfl
    · rw [if_neg h2, if_neg h2]; rfl
theorem pvL_length (n t : Nat) (xs : List Int) : (pvL n t xs).length = xs.length := by unfold pvL; split; rfl; exact opL_length _ _ _ _ _ _
theorem pvL_at {n t i j : Nat} {xs : List Int} (hx : xs.length = n * n) (hi : i < n) (hj : j < n) : (pvL n t xs).getD (i * n + j) 0 = xs.getD ((if i = t then pivP n t xs else if i = pivP n t xs then t else i) * n + j) 0 := by
  unfold pvL
  by_cases h : pivP n t xs = t
  · rw [if_pos h, h]
    by_cases h1 : i = t
    · rw [if_pos h1, h1]
    · rw [if_neg h1, if_neg h1]
  · rw [if_neg h, opL_swap hx hi hj]
    by_cases h1 : i = t
    · rw [if_pos h1, if_neg (fun e => h (by rw [← e, h1])), if_pos h1]
    · rw [if_neg h1]
      by_cases h2 : i = pivP n t xs
      · rw [if_pos h2, if_neg h1]
      · rw [if_neg h2, if_neg h1]
theorem swR_self (A : Mx) (r : Nat) : swR A r r = A := by
  funext i j
  unfold swR
  by_cases h : i = r
  · rw [if_pos h, h]
  · rw [if_neg h, if_neg h]
/-- The steps end in the determinant. -/
theorem steps_det (n : Nat) (D : Int) (k : Nat) : ∀ (t : Nat) (xs : List Int) (last s : Int) (B : Mx) (d : Int), t + k = n → xs.length = n * n →
    (∀ i j, t ≤ i → i < n → t ≤ j → j < n → xs.getD (i * n + j) 0 = bm t i j B) → last = det t B → last ≠ 0 → s * det n B = D → stR2 n k t xs last s = (d, true) → d = D := by
  induction k with
  | zero =>
    intro t xs last s B d hk _ _ hl _ hD h
    obtain rfl : t = n := by omega
    have h : s * last = d := congrArg Prod.fst h
    rw [← h, hl, hD]
  | succ k ih =>
    intro t xs last s B d hk hx hc hl hl0 hD h
    obtain ⟨p1, p2, p3, p4⟩ := pivP_says (n := n) (t := t) (xs := xs) (by omega)
    have d0 : det t B ≠ 0 := by rw [← hl]; exact hl0
    by_cases hp : pivP n t xs = n
    · rw [stR2_none hp] at h
      have hz := no_pivot (n := n) B (by omega) d0 fun i h1 h2 => by rw [← hc i t h1 h2 (Nat.le_refl _) (by omega)]; exact p3 i h1 (by omega)
      have h : (0 : Int) = d := congrArg Prod.fst h
      rw [← h, ← hD, hz, Int.mul_zero]
    · by_cases hn : nums (elL n t last (pvL n t xs)) = true
      · rw [stR2_on hp hn] at h
        have hpn : pivP n t xs < n := by omega
        have hb := p4 hpn
        obtain ⟨p, hpe⟩ : ∃ p, pivP n t xs = p := ⟨_, rfl⟩
        have hy : ∀ i j, t ≤ i → i < n → t ≤ j → j < n → (pvL n t xs).getD (i * n + j) 0 = bm t i j (swR B t p) := fun i j h1 h2 h3 h4 => by
          rw [pvL_at hx h2 h4, hpe, bm_swap B (by omega)]
          rw [hpe] at p1 hpn
          by_cases e1 : i = t
          · rw [if_pos e1]; exact hc p j p1 hpn h3 h4
          · rw [if_neg e1]
            by_cases e2 : i = p
            · rw [if_pos e2]; exact hc t j (Nat.le_refl _) (by omega) h3 h4
            · rw [if_neg e2]; exact hc i j h1 h2 h3 h4
        have hd : det t (swR B t p) = det t B := det_swap_low B (by omega)
        have ht : t < n := by omega
        have htt := hy t t (Nat.le_refl _) ht (Nat.le_refl _) ht
        refine ih (t + 1) _ _ _ (swR B t p) d (by omega) (tab_length _ _ _) (fun i j h1 h2 h3 h4 => ?_) ?_ ?_ ?_ h
        · show (tab n n fun i j => if t < i ∧ t < j then elAt n t last (pvL n t xs) i j else (pvL n t xs).getD (i * n + j) 0).getD (i * n + j) 0 = _
          rw [tab_at n n _ h2 h4, if_pos ⟨h1, h3⟩]
          unfold elAt
          rw [hy i j (by omega) h2 (by omega) h4, htt, hy i t (by omega) h2 (Nat.le_refl _) ht, hy t j (Nat.le_refl _) ht (by omega) h4, hl, ← hd]
          have sy := sylvester t i j (swR B t p) (by rw [hd]; exact d0)
          rw [Int.mul_comm (bm t i j _), ← sy]
          exact Int.mul_tdiv_cancel_left _ (by rw [hd]; exact d0)
        · rw [htt, bm_diag]
        · rw [pvL_at hx ht ht, if_pos rfl]; exact hb
        · rw [hpe]
          by_cases e : p = t
          · rw [if_pos e, e, swR_self]; exact hD
          · rw [if_neg e, alt_swap (det_lin n) (det_alt n) (fun h => e h.symm) ht (by omega) B, Int.mul_neg, Int.neg_mul, Int.neg_neg]; exact hD
      · rw [stR2_bad hp hn] at h
        exact absurd (congrArg Prod.snd h) (by simp)
/-- What DeterminantBySteps answers, for a square matrix. -/
def stepsM (n : Nat) (xs : List Int) : Int × Bool := stR2 n n 0 xs 1 1
theorem stepsM_det {n : Nat} {xs : List Int} {d : Int} (hx : xs.length = n * n) (h : stepsM n xs = (d, true)) : d = det n (mxL n xs) :=
  steps_det n _ n 0 xs 1 1 (mxL n xs) d (by omega) hx (fun i j _ _ _ _ => (bm_zero i j (mxL n xs)).symm) rfl (by decide) (Int.one_mul _) h
end Go.Proofs.Ytgemkfcapkfdbaa
end

section
/-
  What SameMatrix answers.
-/
namespace Go.Proofs.Ytgemkfcapkfdbaa


/-- SameMatrix. -/
def sameM (r c : Int) (xs : List Int) (r' c' : Int) (ys : List Int) : Bool := decide (r = r' ∧ c = c' ∧ xs = ys)
end Go.Proofs.Ytgemkfcapkfdbaa
end

section
/-
  Plain mathematics of chapter 3: products and matrices turned over. Nothing of a program is used.
-/
namespace Go.Proofs.Ytgemkfcapkfdbaa

theorem turnL_length (R C : Nat) (xs : List Int) : (turnL R C xs).length = C * R := tab_length _ _ _
theorem turnL_at (R C : Nat) (xs : List Int) {i j : Nat} (hi : i < R) (hj : j < C) : (turnL R C xs).getD (j * R + i) 0 = xs.getD (i * C + j) 0 := by
  unfold turnL
  rw [tab_at C R _ hj hi]
theorem mulL_length (R K C : Nat) (xs ys : List Int) : (mulL R K C xs ys).length = R * C := tab_length _ _ _
theorem mulL_at (R K C : Nat) (xs ys : List Int) {i j : Nat} (hi : i < R) (hj : j < C) : (mulL R K C xs ys).getD (i * C + j) 0 = dot K C xs ys i j K := by
  unfold mulL
  rw [tab_at R C _ hi hj]
theorem turn_turn (R C : Nat) (xs : List Int) (h : xs.length = R * C) : turnL C R (turnL R C xs) = xs := by
  unfold turnL
  rw [eq_comm]
  refine tab_ext h fun i j hi hj => ?_
  exact (turnL_at R C xs hi hj).symm
theorem dot_turn (R K C : Nat) (xs ys : List Int) {i j : Nat} (hi : i < C) (hj : j < R) : ∀ k : Nat, k ≤ K → dot K R (turnL K C ys) (turnL R K xs) i j k = dot K C xs ys j i k := by
  intro k
  induction k with
  | zero => intro _; rfl
  | succ k ih =>
    intro hk
    show dot K R (turnL K C ys) (turnL R K xs) i j k + (turnL K C ys).getD (i * K + k) 0 * (turnL R K xs).getD (k * R + j) 0 = dot K C xs ys j i k + xs.getD (j * K + k) 0 * ys.getD (k * C + i) 0
    rw [ih (by omega), turnL_at K C ys (by omega) hi, turnL_at R K xs hj (by omega), Int.mul_comm]
theorem mul_turn (R K C : Nat) (xs ys : List Int) : mulL C K R (turnL K C ys) (turnL R K xs) = turnL R C (mulL R K C xs ys) := by
  unfold turnL
  refine tab_ext (mulL_length _ _ _ _ _) fun i j hi hj => ?_
  have h1 := mulL_at C K R (turnL K C ys) (turnL R K xs) hi hj
  rw [mulL_at R K C xs ys hj hi]
  unfold turnL at h1
  rw [h1]
  exact dot_turn R K C xs ys hi hj K (Nat.le_refl _)
theorem nums_of {zs : List Int} (h : ∀ q : Nat, q < zs.length → NumP (zs.getD q 0)) : nums zs = true := nums_true h
theorem isMat_turn {R C : Nat} {xs : List Int} (h : isMat R C xs = true) : isMat C R (turnL R C xs) = true := by
  obtain ⟨h1, h2, h3, h4⟩ := isMat_says h
  have hl : xs.length = R * C := by rw [← Int.natCast_mul] at h3; omega
  have hn : nums (turnL R C xs) = true := nums_of fun q hq => by
    rw [turnL_length] at hq
    have hR : 0 < R := by
      rcases Nat.eq_zero_or_pos R with e | e
      · rw [e, Nat.mul_zero] at hq; omega
      · exact e
    have hj : q / R < C := Nat.div_lt_of_lt_mul (by rw [Nat.mul_comm]; exact hq)
    have hi : q % R < R := Nat.mod_lt q hR
    have e : q / R * R + q % R = q := by rw [Nat.mul_comm]; exact Nat.div_add_mod q R
    rw [← e, turnL_at R C xs hi hj]
    exact nums_at h4 (by rw [hl]; exact idx_lt hi hj)
  unfold isMat
  rw [decide_eq_true (show SizeP (C : Int) from h2), decide_eq_true (show SizeP (R : Int) from h1), hn, decide_eq_true (show (((turnL R C xs).length : Nat) : Int) = (C : Int) * (R : Int) by rw [turnL_length, Int.natCast_mul])]
  rfl
/-- A product is none, or all is known of it. -/
theorem mul_cases (r c : Int) (xs : List Int) (r' c' : Int) (ys : List Int) : mulM r c xs r' c' ys = MR.no ∨
    ∃ R K C : Nat, r = R ∧ c = K ∧ r' = K ∧ c' = C ∧ isMat R K xs = true ∧ isMat K C ys = true ∧ isMat R C (mulL R K C xs ys) = true ∧ mulM r c xs r' c' ys = ⟨true, R, C, mulL R K C xs ys⟩ := by
  unfold mulM
  by_cases h : (isMat r c xs && isMat r' c' ys && decide (c = r')) = true
  · rw [if_pos h]
    simp only [Bool.and_eq_true, decide_eq_true_eq] at h
    obtain ⟨⟨h1, h2⟩, rfl⟩ := h
    obtain ⟨⟨a1, -⟩, ⟨a2, -⟩, -, -⟩ := isMat_says h1
    obtain ⟨-, ⟨a3, -⟩, -, -⟩ := isMat_says h2
    obtain ⟨R, rfl⟩ := Int.eq_ofNat_of_zero_le a1
    obtain ⟨K, rfl⟩ := Int.eq_ofNat_of_zero_le a2
    obtain ⟨C, rfl⟩ := Int.eq_ofNat_of_zero_le a3
    simp only [Int.toNat_natCast]
    unfold MR.done
    by_cases h3 : isMat R C (mulL R K C xs ys) = true
    · rw [if_pos h3]
      exact .inr ⟨R, K, C, rfl, rfl, rfl, rfl, h1, h2, h3, rfl⟩
    · rw [if_neg h3]
      exact .inl rfl
  · rw [if_neg h]
    exact .inl rfl
theorem turnM_ok {R C : Nat} {xs : List Int} (h : isMat R C xs = true) : turnM R C xs = ⟨true, C, R, turnL R C xs⟩ := by
  unfold turnM
  rw [if_pos h]
  simp only [Int.toNat_natCast]
theorem mulM_ok {R K C : Nat} {xs ys : List Int} (h : isMat R K xs = true) (h' : isMat K C ys = true) (h3 : isMat R C (mulL R K C xs ys) = true) : mulM R K xs K C ys = ⟨true, R, C, mulL R K C xs ys⟩ := by
  unfold mulM MR.done
  rw [h, h', decide_eq_true rfl]
  simp only [Int.toNat_natCast, Bool.and_true, if_true]
  rw [if_pos h3]
theorem sameM_self (r c : Int) (zs : List Int) : sameM r c zs r c zs = true := decide_eq_true ⟨rfl, rfl, rfl⟩
end Go.Proofs.Ytgemkfcapkfdbaa
end

section
/-
  Plain mathematics of chapter 3: products can be grouped in any way, and distribute over sums. Nothing of a program is used.
-/
namespace Go.Proofs.Ytgemkfcapkfdbaa

theorem dot_sum (K C : Nat) (xs ys : List Int) (i j : Nat) : ∀ n : Nat, dot K C xs ys i j n = sumN n (fun k => xs.getD (i * K + k) 0 * ys.getD (k * C + j) 0) := by
  intro n
  induction n with
  | zero => rfl
  | succ n ih => show dot K C xs ys i j n + _ = _; rw [ih]; rfl
theorem mul_assoc (R K C D : Nat) (xs ys zs : List Int) : mulL R C D (mulL R K C xs ys) zs = mulL R K D xs (mulL K C D ys zs) := by
  refine tab_ext (mulL_length _ _ _ _ _) fun i j hi hj => ?_
  rw [mulL_at R C D _ _ hi hj, dot_sum, dot_sum]
  have h1 : sumN C (fun k => (mulL R K C xs ys).getD (i * C + k) 0 * zs.getD (k * D + j) 0) = sumN C (fun k => sumN K (fun l => xs.getD (i * K + l) 0 * ys.getD (l * C + k) 0 * zs.getD (k * D + j) 0)) := by
    refine sumN_congr fun k hk => ?_
    rw [mulL_at R K C xs ys hi hk, dot_sum, sumN_mul]
  have h2 : sumN K (fun l => xs.getD (i * K + l) 0 * (mulL K C D ys zs).getD (l * D + j) 0) = sumN K (fun l => sumN C (fun k => xs.getD (i * K + l) 0 * ys.getD (l * C + k) 0 * zs.getD (k * D + j) 0)) := by
    refine sumN_congr fun l hl => ?_
    rw [mulL_at K C D ys zs hl hj, dot_sum, sumN_mul_left]
    exact sumN_congr fun k _ => (Int.mul_assoc _ _ _).symm
  rw [h1, h2, sumN_swap]
theorem addL_at (xs ys : List Int) (i : Nat) (h : i < xs.length) : (addL xs ys).getD i 0 = xs.getD i 0 + ys.getD i 0 := by
  simp [addL, List.getD, h]
theorem addL_length (xs ys : List Int) : (addL xs ys).length = xs.length := by simp [addL]
theorem scale_two (xs : List Int) : scaleL xs 2 = addL xs xs := by
  unfold scaleL addL
  refine List.map_congr_left fun i _ => ?_
  omega
theorem mul_double (R K C : Nat) (xs ys : List Int) (hy : ys.length = K * C) : mulL R K C xs (addL ys ys) = addL (mulL R K C xs ys) (mulL R K C xs ys) := by
  refine list_eq (n := R * C) (mulL_length _ _ _ _ _) (by rw [addL_length, mulL_length]) fun p hp => ?_
  have hC : 0 < C := by
    rcases Nat.eq_zero_or_pos C with e | e
    · rw [e, Nat.mul_zero] at hp; omega
    · exact e
  have hi : p / C < R := Nat.div_lt_of_lt_mul (by rw [Nat.mul_comm]; exact hp)
  have hj : p % C < C := Nat.mod_lt p hC
  have e : p / C * C + p % C = p := by rw [Nat.mul_comm]; exact Nat.div_add_mod p C
  rw [addL_at _ _ _ (by rw [mulL_length]; exact hp)]
  rw [← e, mulL_at R K C xs _ hi hj, mulL_at R K C xs ys hi hj, dot_sum, dot_sum, ← sumN_add]
  refine sumN_congr fun k hk => ?_
  rw [addL_at _ _ _ (by rw [hy]; exact idx_lt hk hj), Int.mul_add]
/-- Products can be grouped in any way. -/
theorem ring_assoc {R K C : Nat} {xs ys zs : List Int} {r c : Int} {y z w : MR}
    (hy : mulM R C (mulL R K C xs ys) r c zs = y) (hz : mulM K C ys r c zs = z) (hw : mulM R K xs z.r z.c z.zs = w) (oy : y.ok = true) (oz : z.ok = true) (ow : w.ok = true) : y = w := by
  rcases mul_cases R C (mulL R K C xs ys) r c zs with h | ⟨R', C', D, e1, e2, e3, e4, -, m2, -, h⟩
  · rw [h] at hy; rw [← hy] at oy; cases oy
  obtain rfl : R = R' := by omega
  obtain rfl : C = C' := by omega
  subst e3 e4
  rw [h] at hy
  rcases mul_cases K C ys C D zs with h' | ⟨K', C'', D', e1, e2, e3, e4, -, -, m3, h'⟩
  · rw [h'] at hz; rw [← hz] at oz; cases oz
  obtain rfl : K = K' := by omega
  obtain rfl : C = C'' := by omega
  obtain rfl : D = D' := by omega
  rw [h'] at hz
  rw [← hz] at hw
  dsimp only at hw
  rcases mul_cases R K xs K D (mulL K C D ys zs) with h'' | ⟨R'', K'', D'', e1, e2, e3, e4, -, -, -, h''⟩
  · rw [h''] at hw; rw [← hw] at ow; cases ow
  rw [← hy, ← hw, h'', mul_assoc]
  obtain rfl : R = R'' := by omega
  obtain rfl : K = K'' := by omega
  obtain rfl : D = D'' := by omega
  rfl
theorem add_cases {R C : Nat} {xs : List Int} (h : isMat R C xs = true) : addM R C xs R C xs = MR.no ∨ (addM R C xs R C xs = ⟨true, R, C, addL xs xs⟩ ∧ isMat R C (addL xs xs) = true) := by
  unfold addM MR.done
  rw [h, decide_eq_true (show (R : Int) = R ∧ (C : Int) = C from ⟨rfl, rfl⟩)]
  simp only [Bool.and_self, if_true]
  by_cases h2 : isMat R C (addL xs xs) = true
  · rw [if_pos h2]; exact .inr ⟨rfl, h2⟩
  · rw [if_neg h2]; exact .inl rfl
/-- Products distribute over sums. -/
theorem ring_dist {R K C : Nat} {xs ys : List Int} (h2 : isMat K C ys = true) (h3 : isMat R C (mulL R K C xs ys) = true) {s t u v : MR}
    (hs : addM K C ys K C ys = s) (ht : mulM R K xs s.r s.c s.zs = t) (hu : addM R C (mulL R K C xs ys) R C (mulL R K C xs ys) = u) (hv : scaleM R C (mulL R K C xs ys) 2 = v)
    (os : s.ok = true) (ot : t.ok = true) (ou : u.ok = true) : t = u ∧ u = v := by
  have ly : ys.length = K * C := by
    obtain ⟨-, -, l, -⟩ := isMat_says h2
    rw [← Int.natCast_mul] at l; omega
  rcases add_cases h2 with h | ⟨h, m⟩
  · rw [h] at hs; rw [← hs] at os; cases os
  rw [h] at hs
  rcases add_cases h3 with h' | ⟨h', m'⟩
  · rw [h'] at hu; rw [← hu] at ou; cases ou
  rw [h'] at hu
  have hv2 : v = ⟨true, R, C, addL (mulL R K C xs ys) (mulL R K C xs ys)⟩ := by
    rw [← hv]
    unfold scaleM MR.done
    rw [h3, scale_two, decide_eq_true (show NumP 2 by unfold NumP; omega)]
    simp only [Bool.and_self, if_true]
    rw [if_pos m']
  rw [← hs] at ht
  dsimp only at ht
  rcases mul_cases R K xs K C (addL ys ys) with h'' | ⟨R'', K'', C'', e1, e2, e3, e4, -, -, -, h''⟩
  · rw [h''] at ht; rw [← ht] at ot; cases ot
  rw [h''] at ht
  obtain rfl : R = R'' := by omega
  obtain rfl : K = K'' := by omega
  obtain rfl : C = C'' := by omega
  refine ⟨?_, ?_⟩
  · rw [← ht, ← hu, mul_double R K C xs ys ly]
  · rw [← hu, hv2]
end Go.Proofs.Ytgemkfcapkfdbaa
end

section
/-
  Chapter 5, in the model: a copy of a matrix; an operation on rows, in place.
-/
namespace Go.Proofs.Ytgemkfcapkfdbaa
set_option maxRecDepth 100000
open Go.RowKit

/-! ### l3Copy -/
set_option maxHeartbeats 1000000 in
theorem sCopy (r c : Int) (ga oa m n : Nat) (xs : List Int) (w : World) (h : Rd w (some ⟨ga, oa, none⟩) xs) (hx : xs.length = n) (hn : n ≤ 1048576) :
    Calls Try.prog 104 #[.agg #[.int .i64 r, .int .i64 c, .slice (some ⟨ga, oa, none⟩) n m]] w (fun e w' => ∃ g cap : Nat, e = .returned (.agg #[.int .i64 r, .int .i64 c, .slice (some ⟨g, 0, none⟩) n cap]) ∧ w.heap.size ≤ g ∧ IntsC w' g cap xs ∧ Below w.heap.size w w') := by
  have H := Lib.hid h
  have HX := Lib.hid hx
  clear h hx
  have BH : Hid (Below w.heap.size w ((w.alloc (.cells #[.int .i64 r, .int .i64 c, .slice (some ⟨ga, oa, none⟩) n m] 34)).alloc (.cells #[.int .i64 0, .int .i64 0, .slice none 0 0] 34))) := ((Below.refl _ _).alloc (Nat.le_refl _) _).alloc (by simp) _
  have K0 : Hid (Blk3 ((w.alloc (.cells #[.int .i64 r, .int .i64 c, .slice (some ⟨ga, oa, none⟩) n m] 34)).alloc (.cells #[.int .i64 0, .int .i64 0, .slice none 0 0] 34)) w.heap.size 34 (.int .i64 r) (.int .i64 c) (.slice (some ⟨ga, oa, none⟩) n m)) := (Blk3.at_ _ _ _ _ rfl).old _
  have K2 : Hid (Blk3 ((w.alloc (.cells #[.int .i64 r, .int .i64 c, .slice (some ⟨ga, oa, none⟩) n m] 34)).alloc (.cells #[.int .i64 0, .int .i64 0, .slice none 0 0] 34)) (w.heap.size + 1) 34 (.int .i64 0) (.int .i64 0) (.slice none 0 0)) := Blk3.at_ _ _ _ _ (by simp)
  obtain ⟨w2, hw2⟩ : ∃ w2, (w.alloc (.cells #[.int .i64 r, .int .i64 c, .slice (some ⟨ga, oa, none⟩) n m] 34)).alloc (.cells #[.int .i64 0, .int .i64 0, .slice none 0 0] 34) = w2 := ⟨_, rfl⟩
  rw [hw2] at BH K0 K2
  go_enter Try.func104, Try.ntmps104
  go_wp2_with fail
  clear hw2
  refine wp_region_held_drew (S := fun w' => FrS (fun k => k = w.heap.size + 1) w2 w') (by kernel_rfl) (FrS.refl _ _).drew (fun hH => ?_)
  refine wpAnyH_take (i := 0) (v := ?_) (by simp only [List.getElem?_toArray, List.getElem?_cons_zero]; rfl) (by kernel_rfl) (by kernel_rfl) (by kernel_rfl) (by exact fun _ _ _ h => h) (Or.inl ⟨by rfl, ?_⟩) hH ?_
  rotate_left
  · (intro wS hS; clear hS; go_simp; try rfl)
  try simp only [Act.put, List.setIfInBounds_toArray, List.set_cons_zero, List.set_cons_succ]
  refine wpAnyH_take (i := 1) (v := ?_) (by simp only [List.getElem?_toArray, List.getElem?_cons_succ, List.getElem?_cons_zero]; rfl) (by kernel_rfl) (by kernel_rfl) (by kernel_rfl) (by exact fun _ _ _ h => h) (Or.inl ⟨by rfl, ?_⟩) hH ?_
  rotate_left
  · (intro wS hS; (try dsimp only at hS); obtain ⟨k1, k2, k3⟩ := sevenF K0.out hS (by omega); go_simp; try rfl)
  try simp only [Act.put, List.setIfInBounds_toArray, List.set_cons_zero, List.set_cons_succ]
  refine wpAnyH_take (i := 2) (v := ?_) (by simp only [List.getElem?_toArray, List.getElem?_cons_succ, List.getElem?_cons_zero]; rfl) (by kernel_rfl) (by kernel_rfl) (by kernel_rfl) (by exact fun _ _ _ h => h) (Or.inl ⟨by rfl, ?_⟩) hH ?_
  rotate_left
  · (intro wS hS; clear hS; go_simp; try rfl)
  try simp only [Act.put, List.setIfInBounds_toArray, List.set_cons_zero, List.set_cons_succ]
  refine wpAnyH_take (i := 3) (v := ?_) (by simp only [List.getElem?_toArray, List.getElem?_cons_succ, List.getElem?_cons_zero]; rfl) (by kernel_rfl) (by kernel_rfl) (by kernel_rfl) (by exact fun _ _ _ h => h) (Or.inl ⟨by rfl, ?_⟩) hH ?_
  rotate_left
  · (intro wS hS; (try dsimp only at hS); obtain ⟨k1, k2, k3⟩ := sevenF K0.out hS (by omega); go_simp; try rfl)
  try simp only [Act.put, List.setIfInBounds_toArray, List.set_cons_zero, List.set_cons_succ]
  refine wpAnyH_take (i := 5) (v := ?_) (by simp only [List.getElem?_toArray, List.getElem?_cons_succ, List.getElem?_cons_zero]; rfl) (by kernel_rfl) (by kernel_rfl) (by kernel_rfl) (by exact fun _ _ _ h => h) (Or.inl ⟨by rfl, ?_⟩) hH ?_
  rotate_left
  · (intro wS hS; clear hS; go_simp; try rfl)
  try simp only [Act.put, List.setIfInBounds_toArray, List.set_cons_zero, List.set_cons_succ]
  refine wpAnyH_take (i := 6) (v := ?_) (by simp only [List.getElem?_toArray, List.getElem?_cons_succ, List.getElem?_cons_zero]; rfl) (by kernel_rfl) (by kernel_rfl) (by kernel_rfl) (by exact fun _ _ _ h => h) (Or.inl ⟨by rfl, ?_⟩) hH ?_
  rotate_left
  · (intro wS hS; (try dsimp only at hS); obtain ⟨k1, k2, k3⟩ := sevenF K0.out hS (by omega); go_simp; try rfl)
  try simp only [Act.put, List.setIfInBounds_toArray, List.set_cons_zero, List.set_cons_succ]
  refine wpAnyH_ready (rs := [4]) (by kernel_rfl) (by simp) ?_
  refine AllReadyH.cons (by simp only [List.getElem?_toArray, List.getElem?_cons_succ, List.getElem?_cons_zero]; rfl) (fun KK hKK => ?_) AllReadyH.nil
  go_simp
  try dsimp only
  refine hKK.out _ _ ?_ (fun hH2 => ?_)
  · exact (((FrS.refl _ w2).alloc _).drew)
  clear hKK KK
  have hO := hH
  clear hH
  have hH := hH2
  clear hH2
  try simp only [Act.put, List.setIfInBounds_toArray, List.set_cons_zero, List.set_cons_succ]
  have own0 : ((w2.alloc (.cells #[] 3)).drew).ownsRow w2.heap.size 3 1 (.slice (some ⟨w2.heap.size, 0, none⟩) 0 0) 0 (([] : List Int).map (Value.int .i64)) := ⟨rfl, .inr ⟨w2.heap.size, 0, #[], rfl, Nat.le_refl _, heap_alloc_new w2 _, Nat.le_refl _, by decide, rfl, rfl⟩⟩
  have BA : Hid (Below w2.heap.size w2 ((w2.alloc (.cells #[] 3)).drew)) := ((Below.refl _ _).alloc (Nat.le_refl _) _).drew
  obtain ⟨v1, wa, hr1, ho1, hg1, nn1⟩ := appendInts2 _ w2.heap.size 0 n m _ [] xs ga oa own0 (H.out.below (BH.out.trans (BA.out.mono BH.out.size))) HX.out (by omega) BA.out.size
  refine wpAnyH_ready (rs := [7]) (by kernel_rfl) (by simp) ?_
  refine AllReadyH.cons (by simp only [List.getElem?_toArray, List.getElem?_cons_succ, List.getElem?_cons_zero]; rfl) (fun KK hKK => ?_) AllReadyH.nil
  refine step_append rfl _ _ 24 rfl _ _ rfl rfl _ _ hr1 ?_
  have BA1 : Hid (Below w2.heap.size w2 wa) := BA.out.grown hg1 BA.out.size (fun k hk => ownBlock_ge own0 hk)
  try dsimp only
  refine hKK.out _ _ ?_ (fun hH2 => ?_)
  · exact FrS.of_below BA1.out
  clear hKK KK
  have hO := hH
  clear hH
  have hH := hH2
  clear hH2
  try simp only [Act.put, List.setIfInBounds_toArray, List.set_cons_zero, List.set_cons_succ]
  have O2 : Hid (OwnC w2.heap.size wa v1 xs) := OwnC.of_row (by rw [HX.out, ← Nat.zero_add n]; exact ho1)
  have O3 := O2.out
  rcases O3 with ⟨h, -⟩ | ⟨g, qc2, rfl, gB, gI⟩
  · exact absurd (nn1.mp h).1 (by simp)
  rw [HX.out] at O2 ⊢
  have GB := Lib.hid gB
  have GI := Lib.hid gI
  clear gB gI nn1
  refine wpAnyH_take (i := 8) (v := ?_) (by simp only [List.getElem?_toArray, List.getElem?_cons_succ, List.getElem?_cons_zero]; rfl) (by kernel_rfl) (by kernel_rfl) (by kernel_rfl) (by exact fun _ _ _ h => h) (Or.inl ⟨by rfl, ?_⟩) hH ?_
  rotate_left
  · (intro wS hS; clear hS; go_simp; try rfl)
  try simp only [Act.put, List.setIfInBounds_toArray, List.set_cons_zero, List.set_cons_succ]
  have K2 := Lib.hid (K2.out.step BA1.out)
  obtain ⟨s0, s1, s2, f0, f1, f2⟩ := K2.out.all
  have gs : ∀ x y z, FrS (fun k => k = w.heap.size + 1) w2 (((wa.setCell ⟨w.heap.size + 1, 0, none⟩ x).setCell ⟨w.heap.size + 1, 1, none⟩ y).setCell ⟨w.heap.size + 1, 2, none⟩ z) := fun x y z => (FrS.of_below (p := fun k => k = w.heap.size + 1) BA1.out).set3 (b := w.heap.size + 1) (.inl rfl) x y z
  have GS := Lib.hid gs
  clear gs
  refine wpAnyH_ready (rs := [9]) (by kernel_rfl) (by simp) ?_
  refine AllReadyH.cons (by simp only [List.getElem?_toArray, List.getElem?_cons_succ, List.getElem?_cons_zero]; rfl) (fun KK hKK => ?_) AllReadyH.nil
  go_simp
  try dsimp only
  refine hKK.out _ _ ?_ (fun hH2 => ?_)
  · exact GS.out _ _ _
  clear hKK KK
  have hO := hH
  clear hH
  have hH := hH2
  clear hH2
  try simp only [Act.put, List.setIfInBounds_toArray, List.set_cons_zero, List.set_cons_succ]
  refine wpAnyH_done (by kernel_rfl) ?_ _
  go_wp2_with fail
  obtain ⟨E0, E1, E2, -, -, -⟩ := (K2.out.set3 (.int .i64 r) (.int .i64 c) (.slice (some ⟨g, 0, none⟩) n qc2)).all
  have B2 := BH.out.trans (BA1.out.mono BH.out.size)
  refine bodyPost_ret (v := .agg #[.int .i64 r, .int .i64 c, .slice (some ⟨g, 0, none⟩) n qc2]) (by simp [results, Try.results104, go_sem, E0, E1, E2]) rfl ⟨g, qc2, rfl, Nat.le_trans BH.out.size GB.out, ((GI.out.far (GI.out.ints.ne_blk K2.out) _).far (GI.out.ints.ne_blk K2.out) _).far (GI.out.ints.ne_blk K2.out) _, ?_⟩
  exact (((B2.setCell (by show w.heap.size ≤ w.heap.size + 1; omega) _).setCell (by show w.heap.size ≤ w.heap.size + 1; omega) _).setCell (by show w.heap.size ≤ w.heap.size + 1; omega) _)
end Go.Proofs.Ytgemkfcapkfdbaa
end
