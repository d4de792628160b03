/-
  Chapter 6, in the model: a matrix without a row and a column.
-/
import Derived.Test.YtpelnfenfeoeeaaMatS
import Derived.IntWalk
import Derived.Test.YtpelnfenfeoeeaaStp
import Derived.Test.YtpelnfenfeoeeaaWoMath
import Derived.Test.YtpelnfenfeoeeaaRowsOwn
import Derived.Deep.RegionHeld3
import Derived.Deep.DeepCutAuto
namespace Go.Proofs.Ytpelnfenfeoeeaa
set_option maxRecDepth 100000
open Go.RowKit

theorem cell_of_block {w w' : World} {b : Nat} (h : w'.heap[b]? = w.heap[b]?) (o : Nat) : w'.cell? ⟨b, o, none⟩ = w.cell? ⟨b, o, none⟩ := by simp [World.cell?, h]
/-- In the walk: the boxes of the argument, the result and the matrix that grows. -/
def WoSt (w wr : World) (R C : Int) (v : Value) (zs : List Int) : Prop := ∃ va vm vc, Blk3 wr w.heap.size 26 (.int .i64 R) (.int .i64 C) v ∧ Blk3 wr (w.heap.size + 1) 26 (.int .i64 0) (.int .i64 0) (.slice none 0 0) ∧ Blk3 wr (w.heap.size + 1 + 1) 26 (.int .i64 (R - 1)) (.int .i64 (C - 1)) (.slice va vm vc) ∧ wr.ownsRow (w.heap.size + 1 + 1 + 1) 3 1 (.slice va vm vc) zs.length (zs.map (Value.int .i64)) ∧ Below w.heap.size w wr
set_option maxRecDepth 100000 in
set_option maxHeartbeats 2000000 in
theorem sWo (R C ga oa m : Nat) (row col : Int) (xs : List Int) (w : World) (h : Rd w (some ⟨ga, oa, none⟩) xs) (hx : xs.length = R * C) (hR : R ≤ 24) (hC : C ≤ 24) :
    Calls Try.prog 122 #[.agg #[.int .i64 R, .int .i64 C, .slice (some ⟨ga, oa, none⟩) xs.length m], .int .i64 row, .int .i64 col] w (fun e w' => ∃ v, e = .returned (.agg #[.int .i64 ((R : Int) - 1), .int .i64 ((C : Int) - 1), v]) ∧ Own w.heap.size w' v (woL C row col xs (R * C)) ∧ Below w.heap.size w w') := by
  have hle : R * C ≤ 24 * 24 := Nat.mul_le_mul hR hC
  have H := Lib.hid h
  obtain ⟨n, hn⟩ : ∃ n, xs.length = n := ⟨_, rfl⟩
  have HX := Lib.hid hn
  have HN := Lib.hid hx
  rw [hn] at hx ⊢
  clear hn h
  have HN2 := Lib.hid hx
  clear hx
  go_enter Try.func122, Try.ntmps122
  go_wp2_with fail
  obtain ⟨W, hW⟩ : ∃ W, ((w.alloc (.cells #[.int .i64 R, .int .i64 C, .slice (some ⟨ga, oa, none⟩) n m] 26)).alloc (.cells #[.int .i64 0, .int .i64 0, .slice none 0 0] 26)).alloc (.cells #[.int .i64 ((R : Int) - 1), .int .i64 ((C : Int) - 1), .slice none 0 0] 26) = W := ⟨_, rfl⟩
  have S0 : WoSt w W R C (.slice (some ⟨ga, oa, none⟩) n m) (woL C row col xs 0) := by
    rw [← hW]
    refine ⟨none, 0, 0, ((Blk3.at_ _ _ _ _ rfl).old _).old _, (Blk3.at_ _ _ _ _ (by simp)).old _, Blk3.at_ _ _ _ _ (by simp), ⟨rfl, .inl ⟨rfl, rfl⟩⟩, (((Below.refl _ _).alloc (Nat.le_refl _) _).alloc (by simp) _).alloc (by simp <;> omega) _⟩
  have ST0 := Lib.hid S0
  clear S0
  rw [hW]
  clear hW
  obtain ⟨fi, hfi, hz0, hz1, hz2⟩ := facts_int
  go_loopw [8, 9] (fun i _ wr => ∃ I : Nat, i = .int .i64 I ∧ I ≤ R ∧ WoSt w wr R C (.slice (some ⟨ga, oa, none⟩) n m) (woL C row col xs (I * C))) (fun i _ _ => R - (intOf i).toNat)
  case atStart => exact ⟨0, rfl, by omega, by rw [Nat.zero_mul]; exact ST0.out⟩
  case round =>
    obtain ⟨I, rfl, hI, hst⟩ := hrel
    have ST := Lib.hid hst
    obtain ⟨va, vm, vc, k0, k1, k2, -, -⟩ := hst
    obtain ⟨a0, a1, a2, -, -, -⟩ := k0.all
    obtain ⟨b0, b1, b2, bf0, bf1, bf2⟩ := k1.all
    obtain ⟨c0, c1, c2, -, -, -⟩ := k2.all
    by_cases hlt : I < R
    · clear k0 k1 k2
      go_wp2_with fail
      go_loopw [9] (fun j wr => ∃ J : Nat, j = .int .i64 J ∧ J ≤ C ∧ WoSt w wr R C (.slice (some ⟨ga, oa, none⟩) n m) (woL C row col xs (I * C + J))) (fun j _ => C - (intOf j).toNat)
      case atStart => exact ⟨0, rfl, by omega, ST.out⟩
      case round =>
        obtain ⟨J, rfl, hJ, hst⟩ := hrel
        obtain ⟨va, vm, vc, k0, k1, k2, ho, hb⟩ := hst
        have K0 := Lib.hid k0
        have K1 := Lib.hid k1
        have K2 := Lib.hid k2
        have HO := Lib.hid ho
        have B := Lib.hid hb
        obtain ⟨d0, d1, d2, -, -, -⟩ := k0.all
        obtain ⟨e0, e1, e2, ef0, ef1, ef2⟩ := k2.all
        clear k0 k1 k2 ho hb
        by_cases hjt : J < C
        · have hp : I * C + J < n := by rw [HN2.out]; exact idx_lt hlt hjt
          have dv : (I * C + J) / C = I := idx_div hjt
          have md : (I * C + J) % C = J := idx_mod hjt
          have SAME : Hid (WoSt w wr R C (.slice (some ⟨ga, oa, none⟩) n m) (woL C row col xs (I * C + J))) := ⟨va, vm, vc, K0.out, K1.out, K2.out, HO.out, B.out⟩
          by_cases hrow : (I : Int) = row
          · have WS : Hid (woL C row col xs (I * C + (J + 1)) = woL C row col xs (I * C + J)) := woL_out (p := I * C + J) (by rw [dv, md]; exact fun h => h.1 hrow)
            have n1 : ((I : Int) == row) = true := by simpa using hrow
            have n2 : ((I : Int) != row) = false := by simpa using hrow
            clear dv md
            go_wp2_with fail
            go_roundw
            case rel => exact ⟨J + 1, by go_num, by omega, by rw [WS.out]; exact SAME.out⟩
            case measure => simp [intOf]; omega
          · have n1 : ((I : Int) == row) = false := by simpa using hrow
            have n2 : ((I : Int) != row) = true := by simpa using hrow
            by_cases hcol : (J : Int) = col
            · have WS : Hid (woL C row col xs (I * C + (J + 1)) = woL C row col xs (I * C + J)) := woL_out (p := I * C + J) (by rw [dv, md]; exact fun h => h.2 hcol)
              have n3 : ((J : Int) == col) = true := by simpa using hcol
              have n4 : ((J : Int) != col) = false := by simpa using hcol
              clear dv md
              go_wp2_with fail
              go_roundw
              case rel => exact ⟨J + 1, by go_num, by omega, by rw [WS.out]; exact SAME.out⟩
              case measure => simp [intOf]; omega
            · have n3 : ((J : Int) == col) = false := by simpa using hcol
              have n4 : ((J : Int) != col) = true := by simpa using hcol
              have WS : Hid (woL C row col xs (I * C + (J + 1)) = woL C row col xs (I * C + J) ++ [xs.getD (I * C + J) 0]) := woL_in (p := I * C + J) (by rw [dv, md]; exact ⟨hrow, hcol⟩)
              have LB : Hid ((woL C row col xs (I * C + J)).length ≤ 576) := Nat.le_trans (woL_length _ _ _ _ _) (by have := HN2.out; omega)
              have hnL : Hid (I * C + J < xs.length) := by show _ < xs.length; rw [HX.out]; exact hp
              have c1 : (I : Int) * (C : Int) = ((I * C : Nat) : Int) := (Int.natCast_mul _ _).symm
              have d11 : 0 ≤ (I : Int) * (C : Int) := by rw [c1]; omega
              have d12 : (I : Int) * (C : Int) ≤ 600 := by rw [c1]; have := HN2.out; omega
              have g1 : 0 ≤ (I : Int) * (C : Int) + (J : Int) := by omega
              have g2 : (I : Int) * (C : Int) + (J : Int) < (n : Int) := by rw [c1]; omega
              have g3 : ((I : Int) * (C : Int) + (J : Int)).toNat = I * C + J := by rw [c1]; omega
              have v1 : IntKind.i64.wrap ((I : Int) * (C : Int)) = (I : Int) * (C : Int) := IntWalk.i64_in _ (by omega)
              have v2 : IntKind.i64.wrap ((I : Int) * (C : Int) + (J : Int)) = (I : Int) * (C : Int) + (J : Int) := IntWalk.i64_in _ (by omega)
              have GL : Hid (ga < w.heap.size) := by
                obtain ⟨b', o', eo, hc0⟩ := H.out (I * C + J) hnL.out
                simp only [Option.some.injEq, Addr.mk.injEq] at eo
                obtain ⟨rfl, rfl, -⟩ := eo
                show ga < w.heap.size
                rcases Nat.lt_or_ge ga w.heap.size with h | h
                · exact h
                · simp [World.cell?, Array.getElem?_eq_none h] at hc0
              obtain ⟨b', o', eo, hc⟩ := (H.out.below B.out) (I * C + J) hnL.out
              simp only [Option.some.injEq, Addr.mk.injEq] at eo
              obtain ⟨rfl, rfl, -⟩ := eo
              obtain ⟨z, hz⟩ : ∃ z, xs.getD (I * C + J) 0 = z := ⟨_, rfl⟩
              rw [hz] at hc WS
              obtain ⟨zs, hzs⟩ : ∃ zs, woL C row col xs (I * C + J) = zs := ⟨_, rfl⟩
              rw [hzs] at WS HO LB SAME
              clear dv md c1 hz hzs SAME
              have HO2 : Hid (((wr.alloc (.cells #[.int .i64 z] 3)).drew).ownsRow (w.heap.size + 1 + 1 + 1) 3 1 (.slice va vm vc) zs.length (zs.map (Value.int .i64))) := rows_keep HO.out ((Below.refl _ _).alloc (Nat.le_refl _) _).drew
              have B2 : Hid (Below w.heap.size w ((wr.alloc (.cells #[.int .i64 z] 3)).drew)) := (B.out.alloc B.out.size _).drew
              have bl : ga < w.heap.size := GL.out
              have CF : Hid (∀ wS, FrS (fun k => w.heap.size + 1 + 1 ≤ k) wr wS → wS.cell? ⟨w.heap.size, 0, none⟩ = some (.int .i64 R) ∧ wS.cell? ⟨w.heap.size, 1, none⟩ = some (.int .i64 C) ∧ wS.cell? ⟨w.heap.size, 2, none⟩ = some (.slice (some ⟨ga, oa, none⟩) n m) ∧ wS.cell? ⟨ga, oa + (I * C + J), none⟩ = some (.int .i64 z)) := fun wS hS => ⟨(K0.out.frs hS (by show ¬ (w.heap.size + 1 + 1 ≤ w.heap.size); omega)).cell0, (K0.out.frs hS (by show ¬ (w.heap.size + 1 + 1 ≤ w.heap.size); omega)).cell1, (K0.out.frs hS (by show ¬ (w.heap.size + 1 + 1 ≤ w.heap.size); omega)).cell2, by rw [← hc]; exact cell_of_block (hS.block ga (by have := B.out.size; omega) (by simp; omega)) _⟩
              go_upto_region 9 with fail
              refine wp_region_held_drew (S := fun w' => FrS (fun k => w.heap.size + 1 + 1 ≤ k) wr w') (by kernel_rfl) (FrS.refl _ _).drew (fun hH => ?_)
              refine wpAnyH_take (i := 0) (v := ?_) (by simp only [List.getElem?_toArray, List.getElem?_cons_zero]; rfl) (by kernel_rfl) (by kernel_rfl) (by kernel_rfl) (by exact fun _ _ _ h => h) (Or.inl ⟨by rfl, ?_⟩) hH ?_
              rotate_left
              · (intro wS hS; clear hS; go_simp; try rfl)
              try simp only [Act.put, List.setIfInBounds_toArray, List.set_cons_zero, List.set_cons_succ]
              refine wpAnyH_take (i := 2) (v := ?_) (by simp only [List.getElem?_toArray, List.getElem?_cons_succ, List.getElem?_cons_zero]; rfl) (by kernel_rfl) (by kernel_rfl) (by kernel_rfl) (by exact fun _ _ _ h => h) (Or.inl ⟨by rfl, ?_⟩) hH ?_
              rotate_left
              · (intro wS hS; clear hS; go_simp; try rfl)
              try simp only [Act.put, List.setIfInBounds_toArray, List.set_cons_zero, List.set_cons_succ]
              refine wpAnyH_take (i := 3) (v := ?_) (by simp only [List.getElem?_toArray, List.getElem?_cons_succ, List.getElem?_cons_zero]; rfl) (by kernel_rfl) (by kernel_rfl) (by kernel_rfl) (by exact fun _ _ _ h => h) (Or.inl ⟨by rfl, ?_⟩) hH ?_
              rotate_left
              · (intro wS hS; (try dsimp only at hS); obtain ⟨k1, k2, k3, k4⟩ := CF.out wS hS; go_simp; try rfl)
              try simp only [Act.put, List.setIfInBounds_toArray, List.set_cons_zero, List.set_cons_succ]
              refine wpAnyH_take (i := 4) (v := ?_) (by simp only [List.getElem?_toArray, List.getElem?_cons_succ, List.getElem?_cons_zero]; rfl) (by kernel_rfl) (by kernel_rfl) (by kernel_rfl) (by exact fun _ _ _ h => h) (Or.inl ⟨by rfl, ?_⟩) hH ?_
              rotate_left
              · (intro wS hS; clear hS; go_simp; try rfl)
              try simp only [Act.put, List.setIfInBounds_toArray, List.set_cons_zero, List.set_cons_succ]
              refine wpAnyH_take (i := 5) (v := ?_) (by simp only [List.getElem?_toArray, List.getElem?_cons_succ, List.getElem?_cons_zero]; rfl) (by kernel_rfl) (by kernel_rfl) (by kernel_rfl) (by exact fun _ _ _ h => h) (Or.inl ⟨by rfl, ?_⟩) hH ?_
              rotate_left
              · (intro wS hS; clear hS; go_simp; try rfl)
              try simp only [Act.put, List.setIfInBounds_toArray, List.set_cons_zero, List.set_cons_succ]
              refine wpAnyH_take (i := 6) (v := ?_) (by simp only [List.getElem?_toArray, List.getElem?_cons_succ, List.getElem?_cons_zero]; rfl) (by kernel_rfl) (by kernel_rfl) (by kernel_rfl) (by exact fun _ _ _ h => h) (Or.inl ⟨by rfl, ?_⟩) hH ?_
              rotate_left
              · (intro wS hS; (try dsimp only at hS); obtain ⟨k1, k2, k3, k4⟩ := CF.out wS hS; go_simp; try rfl)
              try simp only [Act.put, List.setIfInBounds_toArray, List.set_cons_zero, List.set_cons_succ]
              refine wpAnyH_take (i := 7) (v := ?_) (by simp only [List.getElem?_toArray, List.getElem?_cons_succ, List.getElem?_cons_zero]; rfl) (by kernel_rfl) (by kernel_rfl) (by kernel_rfl) (by exact fun _ _ _ h => h) (Or.inl ⟨by rfl, ?_⟩) hH ?_
              rotate_left
              · (intro wS hS; clear hS; go_simp; try rfl)
              try simp only [Act.put, List.setIfInBounds_toArray, List.set_cons_zero, List.set_cons_succ]
              refine wpAnyH_take (i := 8) (v := ?_) (by simp only [List.getElem?_toArray, List.getElem?_cons_succ, List.getElem?_cons_zero]; rfl) (by kernel_rfl) (by kernel_rfl) (by kernel_rfl) (by exact fun _ _ _ h => h) (Or.inl ⟨by rfl, ?_⟩) hH ?_
              rotate_left
              · (intro wS hS; clear hS; go_simp; try rfl)
              try simp only [Act.put, List.setIfInBounds_toArray, List.set_cons_zero, List.set_cons_succ]
              refine wpAnyH_take (i := 9) (v := ?_) (by simp only [List.getElem?_toArray, List.getElem?_cons_succ, List.getElem?_cons_zero]; rfl) (by kernel_rfl) (by kernel_rfl) (by kernel_rfl) (by exact fun _ _ _ h => h) (Or.inl ⟨by rfl, ?_⟩) hH ?_
              rotate_left
              · (intro wS hS; clear hS; go_simp; try rfl)
              try simp only [Act.put, List.setIfInBounds_toArray, List.set_cons_zero, List.set_cons_succ]
              refine wpAnyH_take (i := 10) (v := ?_) (by simp only [List.getElem?_toArray, List.getElem?_cons_succ, List.getElem?_cons_zero]; rfl) (by kernel_rfl) (by kernel_rfl) (by kernel_rfl) (by exact fun _ _ _ h => h) (Or.inl ⟨by rfl, ?_⟩) hH ?_
              rotate_left
              · (intro wS hS; clear hS; go_simp; try rfl)
              try simp only [Act.put, List.setIfInBounds_toArray, List.set_cons_zero, List.set_cons_succ]
              refine wpAnyH_take (i := 11) (v := ?_) (by simp only [List.getElem?_toArray, List.getElem?_cons_succ, List.getElem?_cons_zero]; rfl) (by kernel_rfl) (by kernel_rfl) (by kernel_rfl) (by exact fun _ _ _ h => h) (Or.inl ⟨by rfl, ?_⟩) hH ?_
              rotate_left
              · (intro wS hS; (try dsimp only at hS); obtain ⟨k1, k2, k3, k4⟩ := CF.out wS hS; go_simp; try rfl)
              try simp only [Act.put, List.setIfInBounds_toArray, List.set_cons_zero, List.set_cons_succ]
              refine wpAnyH_ready (rs := [1, 12]) (by kernel_rfl) (by simp) ?_
              refine AllReadyH.cons (by simp only [List.getElem?_toArray, List.getElem?_cons_succ, List.getElem?_cons_zero]; rfl) (fun KK hKK => ?_) (AllReadyH.cons (by simp only [List.getElem?_toArray, List.getElem?_cons_succ, List.getElem?_cons_zero]; rfl) (fun KK hKK => ?_) AllReadyH.nil)
              · go_simp
                try dsimp only
                refine hKK.out _ _ ?_ (fun hH2 => ?_)
                · exact (FrS.refl _ wr).drew
                clear hKK KK
                have hO := hH
                clear hH
                have hH := hH2
                clear hH2
                try simp only [Act.put, List.setIfInBounds_toArray, List.set_cons_zero, List.set_cons_succ]
                refine wpAnyH_ready (rs := [12]) (by kernel_rfl) (by simp) ?_
                refine AllReadyH.cons (by simp only [List.getElem?_toArray, List.getElem?_cons_succ, List.getElem?_cons_zero]; rfl) (fun KK hKK => ?_) AllReadyH.nil
                go_simp
                try dsimp only
                refine hKK.out _ _ ?_ (fun hH2 => ?_)
                · exact ((FrS.refl _ wr).alloc _).drew
                clear hKK KK
                have hO := hH
                clear hH
                have hH := hH2
                clear hH2
                try simp only [Act.put, List.setIfInBounds_toArray, List.set_cons_zero, List.set_cons_succ]
                obtain ⟨v1, wa, hr1, ho1, hg1, -, -⟩ := run_append_own_at (P := Try.prog) (w := (wr.alloc (.cells #[.int .i64 z] 3)).drew) (w.heap.size + 1 + 1 + 1) 22 22 3 fi (.int .i64 0) 1 8 underlying_ints hfi hz0 hz1 hz2 rfl (by decide) _ _ _ HO2.out ⟨wr.heap.size, 0, none⟩ 1 1 [.int .i64 z] rfl (cell_one_new wr (.int .i64 z) 3) (by intro u hu; obtain rfl := List.mem_singleton.mp hu; rfl) (by have := LB.out; unfold maxLen; omega) (by have := LB.out; omega) (by have := K2.out.lt; simp; omega)
                obtain ⟨ua, um, uc, rfl⟩ := rows_form ho1
                refine wpAnyH_ready (rs := [13]) (by kernel_rfl) (by simp) ?_
                refine AllReadyH.cons (by simp only [List.getElem?_toArray, List.getElem?_cons_succ, List.getElem?_cons_zero]; rfl) (fun KK hKK => ?_) AllReadyH.nil
                refine step_append rfl _ _ 22 rfl _ _ rfl rfl _ _ hr1 ?_
                have kk : ∀ b, b < w.heap.size + 1 + 1 + 1 → b < wr.heap.size → wa.heap[b]? = wr.heap[b]? := fun b hb hb2 => (hg1.block b (by simp; omega) (fun e => by have := ownB_ge2 HO2.out e.symm; omega)).trans (Below.heap_alloc wr _ b hb2)
                have FA : Hid (FrS (fun k => w.heap.size + 1 + 1 ≤ k) wr wa) := ⟨hg1.os, hg1.tape, hg1.output, Nat.le_trans (by simp) hg1.size, fun k hk hn => kk k (by omega) hk⟩
                have L0 := K0.out.lt
                have L1 := K1.out.lt
                have L2 := K2.out.lt
                have K0 : Hid (Blk3 wa w.heap.size 26 (.int .i64 R) (.int .i64 C) (.slice (some ⟨ga, oa, none⟩) n m)) := (kk _ (by omega) L0).trans K0.out
                have K1 : Hid (Blk3 wa (w.heap.size + 1) 26 (.int .i64 0) (.int .i64 0) (.slice none 0 0)) := (kk _ (by omega) L1).trans K1.out
                have K2 : Hid (Blk3 wa (w.heap.size + 1 + 1) 26 (.int .i64 ((R : Int) - 1)) (.int .i64 ((C : Int) - 1)) (.slice va vm vc)) := (kk _ (by omega) L2).trans K2.out
                have O3 : Hid (wa.ownsRow (w.heap.size + 1 + 1 + 1) 3 1 (.slice ua um uc) (zs ++ [z]).length ((zs ++ [z]).map (Value.int .i64))) := by
                  refine Lib.hid ?_
                  rw [List.length_append, List.map_append]
                  exact ho1
                have B3 : Hid (Below w.heap.size w wa) := Lib.hid (B2.out.grown hg1 B2.out.size (fun k hk => by have := ownB_ge2 HO2.out hk; omega))
                clear ho1 hg1 kk
                try dsimp only
                refine hKK.out _ _ ?_ (fun hH2 => ?_)
                · exact FA.out
                clear hKK KK
                have hO := hH
                clear hH
                have hH := hH2
                clear hH2
                try simp only [Act.put, List.setIfInBounds_toArray, List.set_cons_zero, List.set_cons_succ]
                refine wpAnyH_take (i := 14) (v := ?_) (by simp only [List.getElem?_toArray, List.getElem?_cons_succ, List.getElem?_cons_zero]; rfl) (by kernel_rfl) (by kernel_rfl) (by kernel_rfl) (by exact fun _ _ _ h => h) (Or.inl ⟨by rfl, ?_⟩) hH ?_
                rotate_left
                · (intro wS hS; clear hS; go_simp; try rfl)
                try simp only [Act.put, List.setIfInBounds_toArray, List.set_cons_zero, List.set_cons_succ]
                clear d0 d1 d2 e0 e1 e2 ef0 ef1 ef2
                obtain ⟨e0, e1, e2, ef0, ef1, ef2⟩ := K2.out.all
                refine wpAnyH_ready (rs := [15]) (by kernel_rfl) (by simp) ?_
                refine AllReadyH.cons (by simp only [List.getElem?_toArray, List.getElem?_cons_succ, List.getElem?_cons_zero]; rfl) (fun KK hKK => ?_) AllReadyH.nil
                go_simp
                try dsimp only
                refine hKK.out _ _ ?_ (fun hH2 => ?_)
                · exact FA.out.set (a := ⟨w.heap.size + 1 + 1, 2, none⟩) (.inl (Nat.le_refl _)) _
                clear hKK KK
                have hO := hH
                clear hH
                have hH := hH2
                clear hH2
                try simp only [Act.put, List.setIfInBounds_toArray, List.set_cons_zero, List.set_cons_succ]
                refine wpAnyH_done (by kernel_rfl) ?_ _
                go_wp2_with fail
                go_roundw
                case rel =>
                  refine ⟨J + 1, by go_num, by omega, ?_⟩
                  rw [WS.out]
                  exact ⟨ua, um, uc, K0.out.far (by show w.heap.size ≠ w.heap.size + 1 + 1; omega) _, K1.out.far (by show w.heap.size + 1 ≠ w.heap.size + 1 + 1; omega) _, K2.out.set2 _, rows_far O3.out (by simp) _, B3.out.setCell (by show w.heap.size ≤ w.heap.size + 1 + 1; omega) _⟩
                case measure => simp [intOf]; omega
              · go_simp
                try dsimp only
                refine hKK.out _ _ ?_ (fun hH2 => ?_)
                · exact ((FrS.refl _ wr).alloc _).drew
                clear hKK KK
                have hO := hH
                clear hH
                have hH := hH2
                clear hH2
                try simp only [Act.put, List.setIfInBounds_toArray, List.set_cons_zero, List.set_cons_succ]
                have LK2 := K2.out.lt
                obtain ⟨q0, q1, q2, -, -, -⟩ := ((K2.out.old (.cells #[.int .i64 z] 3)).drew).all
                refine wpAnyH_ready (rs := [1]) (by kernel_rfl) (by simp) ?_
                refine AllReadyH.cons (by simp only [List.getElem?_toArray, List.getElem?_cons_succ, List.getElem?_cons_zero]; rfl) (fun KK hKK => ?_) AllReadyH.nil
                go_simp
                try dsimp only
                refine hKK.out _ _ ?_ (fun hH2 => ?_)
                · exact ((FrS.refl _ wr).alloc _).drew
                clear hKK KK
                have hO := hH
                clear hH
                have hH := hH2
                clear hH2
                try simp only [Act.put, List.setIfInBounds_toArray, List.set_cons_zero, List.set_cons_succ]
                obtain ⟨v1, wa, hr1, ho1, hg1, -, -⟩ := run_append_own_at (P := Try.prog) (w := (wr.alloc (.cells #[.int .i64 z] 3)).drew) (w.heap.size + 1 + 1 + 1) 22 22 3 fi (.int .i64 0) 1 8 underlying_ints hfi hz0 hz1 hz2 rfl (by decide) _ _ _ HO2.out ⟨wr.heap.size, 0, none⟩ 1 1 [.int .i64 z] rfl (cell_one_new wr (.int .i64 z) 3) (by intro u hu; obtain rfl := List.mem_singleton.mp hu; rfl) (by have := LB.out; unfold maxLen; omega) (by have := LB.out; omega) (by have := K2.out.lt; simp; omega)
                obtain ⟨ua, um, uc, rfl⟩ := rows_form ho1
                refine wpAnyH_ready (rs := [13]) (by kernel_rfl) (by simp) ?_
                refine AllReadyH.cons (by simp only [List.getElem?_toArray, List.getElem?_cons_succ, List.getElem?_cons_zero]; rfl) (fun KK hKK => ?_) AllReadyH.nil
                refine step_append rfl _ _ 22 rfl _ _ rfl rfl _ _ hr1 ?_
                have kk : ∀ b, b < w.heap.size + 1 + 1 + 1 → b < wr.heap.size → wa.heap[b]? = wr.heap[b]? := fun b hb hb2 => (hg1.block b (by simp; omega) (fun e => by have := ownB_ge2 HO2.out e.symm; omega)).trans (Below.heap_alloc wr _ b hb2)
                have FA : Hid (FrS (fun k => w.heap.size + 1 + 1 ≤ k) wr wa) := ⟨hg1.os, hg1.tape, hg1.output, Nat.le_trans (by simp) hg1.size, fun k hk hn => kk k (by omega) hk⟩
                have L0 := K0.out.lt
                have L1 := K1.out.lt
                have L2 := K2.out.lt
                have K0 : Hid (Blk3 wa w.heap.size 26 (.int .i64 R) (.int .i64 C) (.slice (some ⟨ga, oa, none⟩) n m)) := (kk _ (by omega) L0).trans K0.out
                have K1 : Hid (Blk3 wa (w.heap.size + 1) 26 (.int .i64 0) (.int .i64 0) (.slice none 0 0)) := (kk _ (by omega) L1).trans K1.out
                have K2 : Hid (Blk3 wa (w.heap.size + 1 + 1) 26 (.int .i64 ((R : Int) - 1)) (.int .i64 ((C : Int) - 1)) (.slice va vm vc)) := (kk _ (by omega) L2).trans K2.out
                have O3 : Hid (wa.ownsRow (w.heap.size + 1 + 1 + 1) 3 1 (.slice ua um uc) (zs ++ [z]).length ((zs ++ [z]).map (Value.int .i64))) := by
                  refine Lib.hid ?_
                  rw [List.length_append, List.map_append]
                  exact ho1
                have B3 : Hid (Below w.heap.size w wa) := Lib.hid (B2.out.grown hg1 B2.out.size (fun k hk => by have := ownB_ge2 HO2.out hk; omega))
                clear ho1 hg1 kk
                try dsimp only
                refine hKK.out _ _ ?_ (fun hH2 => ?_)
                · exact FA.out
                clear hKK KK
                have hO := hH
                clear hH
                have hH := hH2
                clear hH2
                try simp only [Act.put, List.setIfInBounds_toArray, List.set_cons_zero, List.set_cons_succ]
                refine wpAnyH_take (i := 14) (v := ?_) (by simp only [List.getElem?_toArray, List.getElem?_cons_succ, List.getElem?_cons_zero]; rfl) (by kernel_rfl) (by kernel_rfl) (by kernel_rfl) (by exact fun _ _ _ h => h) (Or.inl ⟨by rfl, ?_⟩) hH ?_
                rotate_left
                · (intro wS hS; clear hS; go_simp; try rfl)
                try simp only [Act.put, List.setIfInBounds_toArray, List.set_cons_zero, List.set_cons_succ]
                clear d0 d1 d2 e0 e1 e2 ef0 ef1 ef2
                obtain ⟨e0, e1, e2, ef0, ef1, ef2⟩ := K2.out.all
                refine wpAnyH_ready (rs := [15]) (by kernel_rfl) (by simp) ?_
                refine AllReadyH.cons (by simp only [List.getElem?_toArray, List.getElem?_cons_succ, List.getElem?_cons_zero]; rfl) (fun KK hKK => ?_) AllReadyH.nil
                go_simp
                try dsimp only
                refine hKK.out _ _ ?_ (fun hH2 => ?_)
                · exact FA.out.set (a := ⟨w.heap.size + 1 + 1, 2, none⟩) (.inl (Nat.le_refl _)) _
                clear hKK KK
                have hO := hH
                clear hH
                have hH := hH2
                clear hH2
                try simp only [Act.put, List.setIfInBounds_toArray, List.set_cons_zero, List.set_cons_succ]
                refine wpAnyH_done (by kernel_rfl) ?_ _
                go_wp2_with fail
                go_roundw
                case rel =>
                  refine ⟨J + 1, by go_num, by omega, ?_⟩
                  rw [WS.out]
                  exact ⟨ua, um, uc, K0.out.far (by show w.heap.size ≠ w.heap.size + 1 + 1; omega) _, K1.out.far (by show w.heap.size + 1 ≠ w.heap.size + 1 + 1; omega) _, K2.out.set2 _, rows_far O3.out (by simp) _, B3.out.setCell (by show w.heap.size ≤ w.heap.size + 1 + 1; omega) _⟩
                case measure => simp [intOf]; omega
        · have ej : J = C := by omega
          subst ej
          have e1' : (I + 1) * J = I * J + J := Nat.succ_mul I J
          go_wp2_with fail
          go_roundw
          case rel => exact ⟨I + 1, by go_num, by omega, by rw [e1']; exact ⟨va, vm, vc, K0.out, K1.out, K2.out, HO.out, B.out⟩⟩
          case measure => simp [intOf]; omega
    · have ei : I = R := by omega
      subst ei
      obtain ⟨va, vm, vc, k0, k1, k2, ho, hb⟩ := ST.out
      have hl : (woL C row col xs (I * C)).length ≤ 16777216 := Nat.le_trans (woL_length _ _ _ _ _) (by omega)
      have OW := Lib.hid (Own.of_row ho hl)
      have K1 := Lib.hid k1
      have K2 := Lib.hid k2
      have B := Lib.hid hb
      clear a0 a1 a2 b0 b1 b2 bf0 bf1 bf2 c0 c1 c2
      obtain ⟨a0, a1, a2, -, -, -⟩ := k0.all
      obtain ⟨b0, b1, b2, bf0, bf1, bf2⟩ := k1.all
      obtain ⟨c0, c1, c2, -, -, -⟩ := k2.all
      clear k0 k1 k2 ho hb hl
      go_wp2_with fail
      obtain ⟨E0, E1, E2, -, -, -⟩ := (K1.out.set3 (.int .i64 ((I : Int) - 1)) (.int .i64 ((C : Int) - 1)) (.slice va vm vc)).all
      refine bodyPost_ret (v := .agg #[.int .i64 ((I : Int) - 1), .int .i64 ((C : Int) - 1), .slice va vm vc]) (by simp [results, Try.results122, go_sem, E0, E1, E2]) rfl ⟨_, rfl, ?_, ((B.out.setCell (by show w.heap.size ≤ w.heap.size + 1; omega) _).setCell (by show w.heap.size ≤ w.heap.size + 1; omega) _).setCell (by show w.heap.size ≤ w.heap.size + 1; omega) _⟩
      exact (((OW.out.far (by show w.heap.size + 1 < w.heap.size + 1 + 1 + 1; omega) _).far (by show w.heap.size + 1 < w.heap.size + 1 + 1 + 1; omega) _).far (by show w.heap.size + 1 < w.heap.size + 1 + 1 + 1; omega) _).le (by omega)
end Go.Proofs.Ytpelnfenfeoeeaa
