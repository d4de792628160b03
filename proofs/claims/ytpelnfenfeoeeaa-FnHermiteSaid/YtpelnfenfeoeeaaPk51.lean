/-
  Texts of this seat, joined: ZCWo · ZCDetS · ZCSq · ZCDetO · ZCStepL · ZCLawDet · ZCNumGcdS · ZCPrimS · ZCAppI · ZCEchS · ZCEchT · ZCEchSp · ZCEchI · ZCEchJ · ZCEchLw · ZCHeLw · ZCElTo · ZCMnMath · ZCMnMem · ZCMnBits · ZCMnTake · ZCMnAcc · ZCMnNew · ZCMatI
-/
import Derived.IntWalk
import Derived.Deep.RegionHeld3
import Derived.Deep.DeepCutAuto
import Derived.Test.YtpelnfenfeoeeaaRows
import Derived.WalkKit
import Derived.BigQuiet
import Derived.Deep.QuietTactic
import Derived.Lib.Hide
import Derived.StillTailTactics
import Derived.Maps.OwnSet
import Derived.Laws.BitsAll
import Derived.Maps.AppendAt
import Derived.Test.YtpelnfenfeoeeaaPk46
import Derived.Test.YtpelnfenfeoeeaaPk47
import Derived.Test.YtpelnfenfeoeeaaPk48
import Derived.Test.YtpelnfenfeoeeaaPk50

section
/-
  Chapter 6, in the model: a matrix without a row and a column.
-/
namespace Go.Proofs.Ytpelnfenfeoeeaa
set_option maxRecDepth 100000
open Go.RowKit
theorem cell_of_block {w w' : World} {b : Nat} (h : w'.heap[b]? = w.heap[b]?) (o : Nat) : w'.cell? ⟨b, o, none⟩ = w.cell? ⟨b, o, none⟩ := by simp [World.cell?, h]
def WoSt (w wr : World) (R C : Int) (v : Value) (zs : List Int) : Prop := ∃ va vm vc, Blk3 wr w.heap.size 26 (.int .i64 R) (.int .i64 C) v ∧ Blk3 wr (w.heap.size + 1) 26 (.int .i64 0) (.int .i64 0) (.slice none 0 0) ∧ Blk3 wr (w.heap.size + 1 + 1) 26 (.int .i64 (R - 1)) (.int .i64 (C - 1)) (.slice va vm vc) ∧ wr.ownsRow (w.heap.size + 1 + 1 + 1) 3 1 (.slice va vm vc) zs.length (zs.map (Value.int .i64)) ∧ Below w.heap.size w wr
set_option maxRecDepth 100000 in
set_option maxHeartbeats 2000000 in
theorem sWo (R C ga oa m : Nat) (row col : Int) (xs : List Int) (w : World) (h : Rd w (some ⟨ga, oa, none⟩) xs) (hx : xs.length = R * C) (hR : R ≤ 24) (hC : C ≤ 24) :
    Calls Try.prog 122 #[.agg #[.int .i64 R, .int .i64 C, .slice (some ⟨ga, oa, none⟩) xs.length m], .int .i64 row, .int .i64 col] w (fun e w' => ∃ v, e = .returned (.agg #[.int .i64 ((R : Int) - 1), .int .i64 ((C : Int) - 1), v]) ∧ Own w.heap.size w' v (woL C row col xs (R * C)) ∧ Below w.heap.size w w') := by
  have hle : R * C ≤ 24 * 24 := Nat.mul_le_mul hR hC
  have H := Lib.hid h
  obtain ⟨n, hn⟩ : ∃ n, xs.length = n := ⟨_, rfl⟩
  have HX := Lib.hid hn
  have HN := Lib.hid hx
  rw [hn] at hx ⊢
  clear hn h
  have HN2 := Lib.hid hx
  clear hx
  go_enter Try.func122, Try.ntmps122
  go_wp2_with fail
  obtain ⟨W, hW⟩ : ∃ W, ((w.alloc (.cells #[.int .i64 R, .int .i64 C, .slice (some ⟨ga, oa, none⟩) n m] 26)).alloc (.cells #[.int .i64 0, .int .i64 0, .slice none 0 0] 26)).alloc (.cells #[.int .i64 ((R : Int) - 1), .int .i64 ((C : Int) - 1), .slice none 0 0] 26) = W := ⟨_, rfl⟩
  have S0 : WoSt w W R C (.slice (some ⟨ga, oa, none⟩) n m) (woL C row col xs 0) := by
    rw [← hW]
    refine ⟨none, 0, 0, ((Blk3.at_ _ _ _ _ rfl).old _).old _, (Blk3.at_ _ _ _ _ (by simp)).old _, Blk3.at_ _ _ _ _ (by simp), ⟨rfl, .inl ⟨rfl, rfl⟩⟩, (((Below.refl _ _).alloc (Nat.le_refl _) _).alloc (by simp) _).alloc (by simp <;> omega) _⟩
  have ST0 := Lib.hid S0
  clear S0
  rw [hW]
  clear hW
  obtain ⟨fi, hfi, hz0, hz1, hz2⟩ := facts_int
  go_loopw [8, 9] (fun i _ wr => ∃ I : Nat, i = .int .i64 I ∧ I ≤ R ∧ WoSt w wr R C (.slice (some ⟨ga, oa, none⟩) n m) (woL C row col xs (I * C))) (fun i _ _ => R - (intOf i).toNat)
  case atStart => exact ⟨0, rfl, by omega, by rw [Nat.zero_mul]; exact ST0.out⟩
  case round =>
    obtain ⟨I, rfl, hI, hst⟩ := hrel
    have ST := Lib.hid hst
    obtain ⟨va, vm, vc, k0, k1, k2, -, -⟩ := hst
    obtain ⟨a0, a1, a2, -, -, -⟩ := k0.all
    obtain ⟨b0, b1, b2, bf0, bf1, bf2⟩ := k1.all
    obtain ⟨c0, c1, c2, -, -, -⟩ := k2.all
    by_cases hlt : I < R
    · clear k0 k1 k2
      go_wp2_with fail
      go_loopw [9] (fun j wr => ∃ J : Nat, j = .int .i64 J ∧ J ≤ C ∧ WoSt w wr R C (.slice (some ⟨ga, oa, none⟩) n m) (woL C row col xs (I * C + J))) (fun j _ => C - (intOf j).toNat)
      case atStart => exact ⟨0, rfl, by omega, ST.out⟩
      case round =>
        obtain ⟨J, rfl, hJ, hst⟩ := hrel
        obtain ⟨va, vm, vc, k0, k1, k2, ho, hb⟩ := hst
        have K0 := Lib.hid k0
        have K1 := Lib.hid k1
        have K2 := Lib.hid k2
        have HO := Lib.hid ho
        have B := Lib.hid hb
        obtain ⟨d0, d1, d2, -, -, -⟩ := k0.all
        obtain ⟨e0, e1, e2, ef0, ef1, ef2⟩ := k2.all
        clear k0 k1 k2 ho hb
        by_cases hjt : J < C
        · have hp : I * C + J < n := by rw [HN2.out]; exact idx_lt hlt hjt
          have dv : (I * C + J) / C = I := idx_div hjt
          have md : (I * C + J) % C = J := idx_mod hjt
          have SAME : Hid (WoSt w wr R C (.slice (some ⟨ga, oa, none⟩) n m) (woL C row col xs (I * C + J))) := ⟨va, vm, vc, K0.out, K1.out, K2.out, HO.out, B.out⟩
          by_cases hrow : (I : Int) = row
          · have WS : Hid (woL C row col xs (I * C + (J + 1)) = woL C row col xs (I * C + J)) := woL_out (p := I * C + J) (by rw [dv, md]; exact fun h => h.1 hrow)
            have n1 : ((I : Int) == row) = true := by simpa using hrow
            have n2 : ((I : Int) != row) = false := by simpa using hrow
            clear dv md
            go_wp2_with fail
            go_roundw
            case rel => exact ⟨J + 1, by go_num, by omega, by rw [WS.out]; exact SAME.out⟩
            case measure => simp [intOf]; omega
          · have n1 : ((I : Int) == row) = false := by simpa using hrow
            have n2 : ((I : Int) != row) = true := by simpa using hrow
            by_cases hcol : (J : Int) = col
            · have WS : Hid (woL C row col xs (I * C + (J + 1)) = woL C row col xs (I * C + J)) := woL_out (p := I * C + J) (by rw [dv, md]; exact fun h => h.2 hcol)
              have n3 : ((J : Int) == col) = true := by simpa using hcol
              have n4 : ((J : Int) != col) = false := by simpa using hcol
              clear dv md
              go_wp2_with fail
              go_roundw
              case rel => exact ⟨J + 1, by go_num, by omega, by rw [WS.out]; exact SAME.out⟩
              case measure => simp [intOf]; omega
            · have n3 : ((J : Int) == col) = false := by simpa using hcol
              have n4 : ((J : Int) != col) = true := by simpa using hcol
              have WS : Hid (woL C row col xs (I * C + (J + 1)) = woL C row col xs (I * C + J) ++ [xs.getD (I * C + J) 0]) := woL_in (p := I * C + J) (by rw [dv, md]; exact ⟨hrow, hcol⟩)
              have LB : Hid ((woL C row col xs (I * C + J)).length ≤ 576) := Nat.le_trans (woL_length _ _ _ _ _) (by have := HN2.out; omega)
              have hnL : Hid (I * C + J < xs.length) := by show _ < xs.length; rw [HX.out]; exact hp
              have c1 : (I : Int) * (C : Int) = ((I * C : Nat) : Int) := (Int.natCast_mul _ _).symm
              have d11 : 0 ≤ (I : Int) * (C : Int) := by rw [c1]; omega
              have d12 : (I : Int) * (C : Int) ≤ 600 := by rw [c1]; have := HN2.out; omega
              have g1 : 0 ≤ (I : Int) * (C : Int) + (J : Int) := by omega
              have g2 : (I : Int) * (C : Int) + (J : Int) < (n : Int) := by rw [c1]; omega
              have g3 : ((I : Int) * (C : Int) + (J : Int)).toNat = I * C + J := by rw [c1]; omega
              have v1 : IntKind.i64.wrap ((I : Int) * (C : Int)) = (I : Int) * (C : Int) := IntWalk.i64_in _ (by omega)
              have v2 : IntKind.i64.wrap ((I : Int) * (C : Int) + (J : Int)) = (I : Int) * (C : Int) + (J : Int) := IntWalk.i64_in _ (by omega)
              have GL : Hid (ga < w.heap.size) := by
                obtain ⟨b', o', eo, hc0⟩ := H.out (I * C + J) hnL.out
                simp only [Option.some.injEq, Addr.mk.injEq] at eo
                obtain ⟨rfl, rfl, -⟩ := eo
                show ga < w.heap.size
                rcases Nat.lt_or_ge ga w.heap.size with h | h
                · exact h
                · simp [World.cell?, Array.getElem?_eq_none h] at hc0
              obtain ⟨b', o', eo, hc⟩ := (H.out.below B.out) (I * C + J) hnL.out
              simp only [Option.some.injEq, Addr.mk.injEq] at eo
              obtain ⟨rfl, rfl, -⟩ := eo
              obtain ⟨z, hz⟩ : ∃ z, xs.getD (I * C + J) 0 = z := ⟨_, rfl⟩
              rw [hz] at hc WS
              obtain ⟨zs, hzs⟩ : ∃ zs, woL C row col xs (I * C + J) = zs := ⟨_, rfl⟩
              rw [hzs] at WS HO LB SAME
              clear dv md c1 hz hzs SAME
              have HO2 : Hid (((wr.alloc (.cells #[.int .i64 z] 3)).drew).ownsRow (w.heap.size + 1 + 1 + 1) 3 1 (.slice va vm vc) zs.length (zs.map (Value.int .i64))) := rows_keep HO.out ((Below.refl _ _).alloc (Nat.le_refl _) _).drew
              have B2 : Hid (Below w.heap.size w ((wr.alloc (.cells #[.int .i64 z] 3)).drew)) := (B.out.alloc B.out.size _).drew
              have bl : ga < w.heap.size := GL.out
              have CF : Hid (∀ wS, FrS (fun k => w.heap.size + 1 + 1 ≤ k) wr wS → wS.cell? ⟨w.heap.size, 0, none⟩ = some (.int .i64 R) ∧ wS.cell? ⟨w.heap.size, 1, none⟩ = some (.int .i64 C) ∧ wS.cell? ⟨w.heap.size, 2, none⟩ = some (.slice (some ⟨ga, oa, none⟩) n m) ∧ wS.cell? ⟨ga, oa + (I * C + J), none⟩ = some (.int .i64 z)) := fun wS hS => ⟨(K0.out.frs hS (by show ¬ (w.heap.size + 1 + 1 ≤ w.heap.size); omega)).cell0, (K0.out.frs hS (by show ¬ (w.heap.size + 1 + 1 ≤ w.heap.size); omega)).cell1, (K0.out.frs hS (by show ¬ (w.heap.size + 1 + 1 ≤ w.heap.size); omega)).cell2, by rw [← hc]; exact cell_of_block (hS.block ga (by have := B.out.size; omega) (by simp; omega)) _⟩
              go_upto_region 9 with fail
              refine wp_region_held_drew (S := fun w' => FrS (fun k => w.heap.size + 1 + 1 ≤ k) wr w') (by kernel_rfl) (FrS.refl _ _).drew (fun hH => ?_)
              refine wpAnyH_take (i := 0) (v := ?_) (by simp only [List.getElem?_toArray, List.getElem?_cons_zero]; rfl) (by kernel_rfl) (by kernel_rfl) (by kernel_rfl) (by exact fun _ _ _ h => h) (Or.inl ⟨by rfl, ?_⟩) hH ?_
              rotate_left
              · (intro wS hS; clear hS; go_simp; try rfl)
              try simp only [Act.put, List.setIfInBounds_toArray, List.set_cons_zero, List.set_cons_succ]
              refine wpAnyH_take (i := 2) (v := ?_) (by simp only [List.getElem?_toArray, List.getElem?_cons_succ, List.getElem?_cons_zero]; rfl) (by kernel_rfl) (by kernel_rfl) (by kernel_rfl) (by exact fun _ _ _ h => h) (Or.inl ⟨by rfl, ?_⟩) hH ?_
              rotate_left
              · (intro wS hS; clear hS; go_simp; try rfl)
              try simp only [Act.put, List.setIfInBounds_toArray, List.set_cons_zero, List.set_cons_succ]
              refine wpAnyH_take (i := 3) (v := ?_) (by simp only [List.getElem?_toArray, List.getElem?_cons_succ, List.getElem?_cons_zero]; rfl) (by kernel_rfl) (by kernel_rfl) (by kernel_rfl) (by exact fun _ _ _ h => h) (Or.inl ⟨by rfl, ?_⟩) hH ?_
              rotate_left
              · (intro wS hS; (try dsimp only at hS); obtain ⟨k1, k2, k3, k4⟩ := CF.out wS hS; go_simp; try rfl)
              try simp only [Act.put, List.setIfInBounds_toArray, List.set_cons_zero, List.set_cons_succ]
              refine wpAnyH_take (i := 4) (v := ?_) (by simp only [List.getElem?_toArray, List.getElem?_cons_succ, List.getElem?_cons_zero]; rfl) (by kernel_rfl) (by kernel_rfl) (by kernel_rfl) (by exact fun _ _ _ h => h) (Or.inl ⟨by rfl, ?_⟩) hH ?_
              rotate_left
              · (intro wS hS; clear hS; go_simp; try rfl)
              try simp only [Act.put, List.setIfInBounds_toArray, List.set_cons_zero, List.set_cons_succ]
              refine wpAnyH_take (i := 5) (v := ?_) (by simp only [List.getElem?_toArray, List.getElem?_cons_succ, List.getElem?_cons_zero]; rfl) (by kernel_rfl) (by kernel_rfl) (by kernel_rfl) (by exact fun _ _ _ h => h) (Or.inl ⟨by rfl, ?_⟩) hH ?_
              rotate_left
              · (intro wS hS; clear hS; go_simp; try rfl)
              try simp only [Act.put, List.setIfInBounds_toArray, List.set_cons_zero, List.set_cons_succ]
              refine wpAnyH_take (i := 6) (v := ?_) (by simp only [List.getElem?_toArray, List.getElem?_cons_succ, List.getElem?_cons_zero]; rfl) (by kernel_rfl) (by kernel_rfl) (by kernel_rfl) (by exact fun _ _ _ h => h) (Or.inl ⟨by rfl, ?_⟩) hH ?_
              rotate_left
              · (intro wS hS; (try dsimp only at hS); obtain ⟨k1, k2, k3, k4⟩ := CF.out wS hS; go_simp; try rfl)
              try simp only [Act.put, List.setIfInBounds_toArray, List.set_cons_zero, List.set_cons_succ]
              refine wpAnyH_take (i := 7) (v := ?_) (by simp only [List.getElem?_toArray, List.getElem?_cons_succ, List.getElem?_cons_zero]; rfl) (by kernel_rfl) (by kernel_rfl) (by kernel_rfl) (by exact fun _ _ _ h => h) (Or.inl ⟨by rfl, ?_⟩) hH ?_
              rotate_left
              · (intro wS hS; clear hS; go_simp; try rfl)
              try simp only [Act.put, List.setIfInBounds_toArray, List.set_cons_zero, List.set_cons_succ]
              refine wpAnyH_take (i := 8) (v := ?_) (by simp only [List.getElem?_toArray, List.getElem?_cons_succ, List.getElem?_cons_zero]; rfl) (by kernel_rfl) (by kernel_rfl) (by kernel_rfl) (by exact fun _ _ _ h => h) (Or.inl ⟨by rfl, ?_⟩) hH ?_
              rotate_left
              · (intro wS hS; clear hS; go_simp; try rfl)
              try simp only [Act.put, List.setIfInBounds_toArray, List.set_cons_zero, List.set_cons_succ]
              refine wpAnyH_take (i := 9) (v := ?_) (by simp only [List.getElem?_toArray, List.getElem?_cons_succ, List.getElem?_cons_zero]; rfl) (by kernel_rfl) (by kernel_rfl) (by kernel_rfl) (by exact fun _ _ _ h => h) (Or.inl ⟨by rfl, ?_⟩) hH ?_
              rotate_left
              · (intro wS hS; clear hS; go_simp; try rfl)
              try simp only [Act.put, List.setIfInBounds_toArray, List.set_cons_zero, List.set_cons_succ]
              refine wpAnyH_take (i := 10) (v := ?_) (by simp only [List.getElem?_toArray, List.getElem?_cons_succ, List.getElem?_cons_zero]; rfl) (by kernel_rfl) (by kernel_rfl) (by kernel_rfl) (by exact fun _ _ _ h => h) (Or.inl ⟨by rfl, ?_⟩) hH ?_
              rotate_left
              · (intro wS hS; clear hS; go_simp; try rfl)
              try simp only [Act.put, List.setIfInBounds_toArray, List.set_cons_zero, List.set_cons_succ]
              refine wpAnyH_take (i := 11) (v := ?_) (by simp only [List.getElem?_toArray, List.getElem?_cons_succ, List.getElem?_cons_zero]; rfl) (by kernel_rfl) (by kernel_rfl) (by kernel_rfl) (by exact fun _ _ _ h => h) (Or.inl ⟨by rfl, ?_⟩) hH ?_
              rotate_left
              · (intro wS hS; (try dsimp only at hS); obtain ⟨k1, k2, k3, k4⟩ := CF.out wS hS; go_simp; try rfl)
              try simp only [Act.put, List.setIfInBounds_toArray, List.set_cons_zero, List.set_cons_succ]
              refine wpAnyH_ready (rs := [1, 12]) (by kernel_rfl) (by simp) ?_
              refine AllReadyH.cons (by simp only [List.getElem?_toArray, List.getElem?_cons_succ, List.getElem?_cons_zero]; rfl) (fun KK hKK => ?_) (AllReadyH.cons (by simp only [List.getElem?_toArray, List.getElem?_cons_succ, List.getElem?_cons_zero]; rfl) (fun KK hKK => ?_) AllReadyH.nil)
              · go_simp
                try dsimp only
                refine hKK.out _ _ ?_ (fun hH2 => ?_)
                · exact (FrS.refl _ wr).drew
                clear hKK KK
                have hO := hH
                clear hH
                have hH := hH2
                clear hH2
                try simp only [Act.put, List.setIfInBounds_toArray, List.set_cons_zero, List.set_cons_succ]
                refine wpAnyH_ready (rs := [12]) (by kernel_rfl) (by simp) ?_
                refine AllReadyH.cons (by simp only [List.getElem?_toArray, List.getElem?_cons_succ, List.getElem?_cons_zero]; rfl) (fun KK hKK => ?_) AllReadyH.nil
                go_simp
                try dsimp only
                refine hKK.out _ _ ?_ (fun hH2 => ?_)
                · exact ((FrS.refl _ wr).alloc _).drew
                clear hKK KK
                have hO := hH
                clear hH
                have hH := hH2
                clear hH2
                try simp only [Act.put, List.setIfInBounds_toArray, List.set_cons_zero, List.set_cons_succ]
                obtain ⟨v1, wa, hr1, ho1, hg1, -, -⟩ := run_append_own_at (P := Try.prog) (w := (wr.alloc (.cells #[.int .i64 z] 3)).drew) (w.heap.size + 1 + 1 + 1) 22 22 3 fi (.int .i64 0) 1 8 underlying_ints hfi hz0 hz1 hz2 rfl (by decide) _ _ _ HO2.out ⟨wr.heap.size, 0, none⟩ 1 1 [.int .i64 z] rfl (cell_one_new wr (.int .i64 z) 3) (by intro u hu; obtain rfl := List.mem_singleton.mp hu; rfl) (by have := LB.out; unfold maxLen; omega) (by have := LB.out; omega) (by have := K2.out.lt; simp; omega)
                obtain ⟨ua, um, uc, rfl⟩ := rows_form ho1
                refine wpAnyH_ready (rs := [13]) (by kernel_rfl) (by simp) ?_
                refine AllReadyH.cons (by simp only [List.getElem?_toArray, List.getElem?_cons_succ, List.getElem?_cons_zero]; rfl) (fun KK hKK => ?_) AllReadyH.nil
                refine step_append rfl _ _ 22 rfl _ _ rfl rfl _ _ hr1 ?_
                have kk : ∀ b, b < w.heap.size + 1 + 1 + 1 → b < wr.heap.size → wa.heap[b]? = wr.heap[b]? := fun b hb hb2 => (hg1.block b (by simp; omega) (fun e => by have := ownB_ge2 HO2.out e.symm; omega)).trans (Below.heap_alloc wr _ b hb2)
                have FA : Hid (FrS (fun k => w.heap.size + 1 + 1 ≤ k) wr wa) := ⟨hg1.os, hg1.tape, hg1.output, Nat.le_trans (by simp) hg1.size, fun k hk hn => kk k (by omega) hk⟩
                have L0 := K0.out.lt
                have L1 := K1.out.lt
                have L2 := K2.out.lt
                have K0 : Hid (Blk3 wa w.heap.size 26 (.int .i64 R) (.int .i64 C) (.slice (some ⟨ga, oa, none⟩) n m)) := (kk _ (by omega) L0).trans K0.out
                have K1 : Hid (Blk3 wa (w.heap.size + 1) 26 (.int .i64 0) (.int .i64 0) (.slice none 0 0)) := (kk _ (by omega) L1).trans K1.out
                have K2 : Hid (Blk3 wa (w.heap.size + 1 + 1) 26 (.int .i64 ((R : Int) - 1)) (.int .i64 ((C : Int) - 1)) (.slice va vm vc)) := (kk _ (by omega) L2).trans K2.out
                have O3 : Hid (wa.ownsRow (w.heap.size + 1 + 1 + 1) 3 1 (.slice ua um uc) (zs ++ [z]).length ((zs ++ [z]).map (Value.int .i64))) := by
                  refine Lib.hid ?_
                  rw [List.length_append, List.map_append]
                  exact ho1
                have B3 : Hid (Below w.heap.size w wa) := Lib.hid (B2.out.grown hg1 B2.out.size (fun k hk => by have := ownB_ge2 HO2.out hk; omega))
                clear ho1 hg1 kk
                try dsimp only
                refine hKK.out _ _ ?_ (fun hH2 => ?_)
                · exact FA.out
                clear hKK KK
                have hO := hH
                clear hH
                have hH := hH2
                clear hH2
                try simp only [Act.put, List.setIfInBounds_toArray, List.set_cons_zero, List.set_cons_succ]
                refine wpAnyH_take (i := 14) (v := ?_) (by simp only [List.getElem?_toArray, List.getElem?_cons_succ, List.getElem?_cons_zero]; rfl) (by kernel_rfl) (by kernel_rfl) (by kernel_rfl) (by exact fun _ _ _ h => h) (Or.inl ⟨by rfl, ?_⟩) hH ?_
                rotate_left
                · (intro wS hS; clear hS; go_simp; try rfl)
                try simp only [Act.put, List.setIfInBounds_toArray, List.set_cons_zero, List.set_cons_succ]
                clear d0 d1 d2 e0 e1 e2 ef0 ef1 ef2
                obtain ⟨e0, e1, e2, ef0, ef1, ef2⟩ := K2.out.all
                refine wpAnyH_ready (rs := [15]) (by kernel_rfl) (by simp) ?_
                refine AllReadyH.cons (by simp only [List.getElem?_toArray, List.getElem?_cons_succ, List.getElem?_cons_zero]; rfl) (fun KK hKK => ?_) AllReadyH.nil
                go_simp
                try dsimp only
                refine hKK.out _ _ ?_ (fun hH2 => ?_)
                · exact FA.out.set (a := ⟨w.heap.size + 1 + 1, 2, none⟩) (.inl (Nat.le_refl _)) _
                clear hKK KK
                have hO := hH
                clear hH
                have hH := hH2
                clear hH2
                try simp only [Act.put, List.setIfInBounds_toArray, List.set_cons_zero, List.set_cons_succ]
                refine wpAnyH_done (by kernel_rfl) ?_ _
                go_wp2_with fail
                go_roundw
                case rel =>
                  refine ⟨J + 1, by go_num, by omega, ?_⟩
                  rw [WS.out]
                  exact ⟨ua, um, uc, K0.out.far (by show w.heap.size ≠ w.heap.size + 1 + 1; omega) _, K1.out.far (by show w.heap.size + 1 ≠ w.heap.size + 1 + 1; omega) _, K2.out.set2 _, rows_far O3.out (by simp) _, B3.out.setCell (by show w.heap.size ≤ w.heap.size + 1 + 1; omega) _⟩
                case measure => simp [intOf]; omega
              · go_simp
                try dsimp only
                refine hKK.out _ _ ?_ (fun hH2 => ?_)
                · exact ((FrS.refl _ wr).alloc _).drew
                clear hKK KK
                have hO := hH
                clear hH
                have hH := hH2
                clear hH2
                try simp only [Act.put, List.setIfInBounds_toArray, List.set_cons_zero, List.set_cons_succ]
                have LK2 := K2.out.lt
                obtain ⟨q0, q1, q2, -, -, -⟩ := ((K2.out.old (.cells #[.int .i64 z] 3)).drew).all
                refine wpAnyH_ready (rs := [1]) (by kernel_rfl) (by simp) ?_
                refine AllReadyH.cons (by simp only [List.getElem?_toArray, List.getElem?_cons_succ, List.getElem?_cons_zero]; rfl) (fun KK hKK => ?_) AllReadyH.nil
                go_simp
                try dsimp only
                refine hKK.out _ _ ?_ (fun hH2 => ?_)
                · exact ((FrS.refl _ wr).alloc _).drew
                clear hKK KK
                have hO := hH
                clear hH
                have hH := hH2
                clear hH2
                try simp only [Act.put, List.setIfInBounds_toArray, List.set_cons_zero, List.set_cons_succ]
                obtain ⟨v1, wa, hr1, ho1, hg1, -, -⟩ := run_append_own_at (P := Try.prog) (w := (wr.alloc (.cells #[.int .i64 z] 3)).drew) (w.heap.size + 1 + 1 + 1) 22 22 3 fi (.int .i64 0) 1 8 underlying_ints hfi hz0 hz1 hz2 rfl (by decide) _ _ _ HO2.out ⟨wr.heap.size, 0, none⟩ 1 1 [.int .i64 z] rfl (cell_one_new wr (.int .i64 z) 3) (by intro u hu; obtain rfl := List.mem_singleton.mp hu; rfl) (by have := LB.out; unfold maxLen; omega) (by have := LB.out; omega) (by have := K2.out.lt; simp; omega)
                obtain ⟨ua, um, uc, rfl⟩ := rows_form ho1
                refine wpAnyH_ready (rs := [13]) (by kernel_rfl) (by simp) ?_
                refine AllReadyH.cons (by simp only [List.getElem?_toArray, List.getElem?_cons_succ, List.getElem?_cons_zero]; rfl) (fun KK hKK => ?_) AllReadyH.nil
                refine step_append rfl _ _ 22 rfl _ _ rfl rfl _ _ hr1 ?_
                have kk : ∀ b, b < w.heap.size + 1 + 1 + 1 → b < wr.heap.size → wa.heap[b]? = wr.heap[b]? := fun b hb hb2 => (hg1.block b (by simp; omega) (fun e => by have := ownB_ge2 HO2.out e.symm; omega)).trans (Below.heap_alloc wr _ b hb2)
                have FA : Hid (FrS (fun k => w.heap.size + 1 + 1 ≤ k) wr wa) := ⟨hg1.os, hg1.tape, hg1.output, Nat.le_trans (by simp) hg1.size, fun k hk hn => kk k (by omega) hk⟩
                have L0 := K0.out.lt
                have L1 := K1.out.lt
                have L2 := K2.out.lt
                have K0 : Hid (Blk3 wa w.heap.size 26 (.int .i64 R) (.int .i64 C) (.slice (some ⟨ga, oa, none⟩) n m)) := (kk _ (by omega) L0).trans K0.out
                have K1 : Hid (Blk3 wa (w.heap.size + 1) 26 (.int .i64 0) (.int .i64 0) (.slice none 0 0)) := (kk _ (by omega) L1).trans K1.out
                have K2 : Hid (Blk3 wa (w.heap.size + 1 + 1) 26 (.int .i64 ((R : Int) - 1)) (.int .i64 ((C : Int) - 1)) (.slice va vm vc)) := (kk _ (by omega) L2).trans K2.out
                have O3 : Hid (wa.ownsRow (w.heap.size + 1 + 1 + 1) 3 1 (.slice ua um uc) (zs ++ [z]).length ((zs ++ [z]).map (Value.int .i64))) := by
                  refine Lib.hid ?_
                  rw [List.length_append, List.map_append]
                  exact ho1
                have B3 : Hid (Below w.heap.size w wa) := Lib.hid (B2.out.grown hg1 B2.out.size (fun k hk => by have := ownB_ge2 HO2.out hk; omega))
                clear ho1 hg1 kk
                try dsimp only
                refine hKK.out _ _ ?_ (fun hH2 => ?_)
                · exact FA.out
                clear hKK KK
                have hO := hH
                clear hH
                have hH := hH2
                clear hH2
                try simp only [Act.put, List.setIfInBounds_toArray, List.set_cons_zero, List.set_cons_succ]
                refine wpAnyH_take (i := 14) (v := ?_) (by simp only [List.getElem?_toArray, List.getElem?_cons_succ, List.getElem?_cons_zero]; rfl) (by kernel_rfl) (by kernel_rfl) (by kernel_rfl) (by exact fun _ _ _ h => h) (Or.inl ⟨by rfl, ?_⟩) hH ?_
                rotate_left
                · (intro wS hS; clear hS; go_simp; try rfl)
                try simp only [Act.put, List.setIfInBounds_toArray, List.set_cons_zero, List.set_cons_succ]
                clear d0 d1 d2 e0 e1 e2 ef0 ef1 ef2
                obtain ⟨e0, e1, e2, ef0, ef1, ef2⟩ := K2.out.all
                refine wpAnyH_ready (rs := [15]) (by kernel_rfl) (by simp) ?_
                refine AllReadyH.cons (by simp only [List.getElem?_toArray, List.getElem?_cons_succ, List.getElem?_cons_zero]; rfl) (fun KK hKK => ?_) AllReadyH.nil
                go_simp
                try dsimp only
                refine hKK.out _ _ ?_ (fun hH2 => ?_)
                · exact FA.out.set (a := ⟨w.heap.size + 1 + 1, 2, none⟩) (.inl (Nat.le_refl _)) _
                clear hKK KK
                have hO := hH
                clear hH
                have hH := hH2
                clear hH2
                try simp only [Act.put, List.setIfInBounds_toArray, List.set_cons_zero, List.set_cons_succ]
                refine wpAnyH_done (by kernel_rfl) ?_ _
                go_wp2_with fail
                go_roundw
                case rel =>
                  refine ⟨J + 1, by go_num, by omega, ?_⟩
                  rw [WS.out]
                  exact ⟨ua, um, uc, K0.out.far (by show w.heap.size ≠ w.heap.size + 1 + 1; omega) _, K1.out.far (by show w.heap.size + 1 ≠ w.heap.size + 1 + 1; omega) _, K2.out.set2 _, rows_far O3.out (by simp) _, B3.out.setCell (by show w.heap.size ≤ w.heap.size + 1 + 1; omega) _⟩
                case measure => simp [intOf]; omega
        · have ej : J = C := by omega
          subst ej
          have e1' : (I + 1) * J = I * J + J := Nat.succ_mul I J
          go_wp2_with fail
          go_roundw
          case rel => exact ⟨I + 1, by go_num, by omega, by rw [e1']; exact ⟨va, vm, vc, K0.out, K1.out, K2.out, HO.out, B.out⟩⟩
          case measure => simp [intOf]; omega
    · have ei : I = R := by omega
      subst ei
      obtain ⟨va, vm, vc, k0, k1, k2, ho, hb⟩ := ST.out
      have hl : (woL C row col xs (I * C)).length ≤ 16777216 := Nat.le_trans (woL_length _ _ _ _ _) (by omega)
      have OW := Lib.hid (Own.of_row ho hl)
      have K1 := Lib.hid k1
      have K2 := Lib.hid k2
      have B := Lib.hid hb
      clear a0 a1 a2 b0 b1 b2 bf0 bf1 bf2 c0 c1 c2
      obtain ⟨a0, a1, a2, -, -, -⟩ := k0.all
      obtain ⟨b0, b1, b2, bf0, bf1, bf2⟩ := k1.all
      obtain ⟨c0, c1, c2, -, -, -⟩ := k2.all
      clear k0 k1 k2 ho hb hl
      go_wp2_with fail
      obtain ⟨E0, E1, E2, -, -, -⟩ := (K1.out.set3 (.int .i64 ((I : Int) - 1)) (.int .i64 ((C : Int) - 1)) (.slice va vm vc)).all
      refine bodyPost_ret (v := .agg #[.int .i64 ((I : Int) - 1), .int .i64 ((C : Int) - 1), .slice va vm vc]) (by simp [results, Try.results122, go_sem, E0, E1, E2]) rfl ⟨_, rfl, ?_, ((B.out.setCell (by show w.heap.size ≤ w.heap.size + 1; omega) _).setCell (by show w.heap.size ≤ w.heap.size + 1; omega) _).setCell (by show w.heap.size ≤ w.heap.size + 1; omega) _⟩
      exact (((OW.out.far (by show w.heap.size + 1 < w.heap.size + 1 + 1 + 1; omega) _).far (by show w.heap.size + 1 < w.heap.size + 1 + 1 + 1; omega) _).far (by show w.heap.size + 1 < w.heap.size + 1 + 1 + 1; omega) _).le (by omega)
end Go.Proofs.Ytpelnfenfeoeeaa
end

section
/-
  Chapter 6, in the model: l6Det.
-/
namespace Go.Proofs.Ytpelnfenfeoeeaa
set_option maxRecDepth 100000
open Go.RowKit
theorem Own.rdq {B n c : Nat} {w : World} {a : Option Addr} {zs : List Int} (h : Own B w (.slice a n c) zs) : Rd w a zs := by
  rcases h with ⟨hv, rfl⟩ | ⟨g, cap, hv, _, hi, _⟩
  · exact Rd.nil _ _
  · simp only [Value.slice.injEq] at hv
    obtain ⟨rfl, -, -⟩ := hv
    exact hi.rd
set_option maxRecDepth 100000 in
set_option maxHeartbeats 1000000 in
theorem sDet (n : Nat) : ∀ (a : Option Addr) (m : Nat) (xs : List Int) (w : World), Rd w a xs → xs.length = n * n → n ≤ 6 → nums xs = true →
    Calls Try.prog 72 #[.agg #[.int .i64 n, .int .i64 n, .slice a (n * n) m]] w (Gives (.int .i64 (detB n xs)) w) := by
  induction n with
  | zero =>
    intro a m xs w h hx hn nx
    go_enter Try.func72, Try.ntmps72
    go_wp2_with fail
    go_ret
    exact ⟨rfl, (Below.refl _ _).alloc (Nat.le_refl _) _⟩
  | succ n ih =>
    intro a m xs w h hx hn nx
    obtain ⟨ga, oa, rfl⟩ := h.addr (by rw [hx]; exact Nat.mul_pos (by omega) (by omega))
    have H := Lib.hid h
    have NX := Lib.hid nx
    have IH := Lib.hid ih
    have D0 : Hid (∀ j, detAcc (fun j => xs.getD j 0) (mnB n xs) j = none → j ≤ n + 1 → detB (n + 1) xs = badN) := fun j h1 h2 => detB_none (detAcc_none h1 h2)
    have D1 : Hid (∀ s, detAcc (fun j => xs.getD j 0) (mnB n xs) (n + 1) = some s → detB (n + 1) xs = fitB s) := fun s h1 => detB_some h1
    have WL : Hid (∀ j, j < n + 1 → (woL (n + 1) (0 : Int) (j : Int) xs ((n + 1) * (n + 1))).length = n * n ∧ nums (woL (n + 1) (0 : Int) (j : Int) xs ((n + 1) * (n + 1))) = true) := fun j hj => ⟨woL_sq (i := 0) (by omega) hj, woL_nums (i := 0) (by omega) hj nx⟩
    have BD : Hid (∀ j s, j ≤ n + 1 → detAcc (fun j => xs.getD j 0) (mnB n xs) j = some s → -((j : Int) * 160000000000000000) ≤ s ∧ s ≤ (j : Int) * 160000000000000000) := fun j s hj h1 => detAcc_bd (fun i hi => nums_at nx (by rw [hx]; have := Nat.mul_le_mul_left (n + 1) (show 1 ≤ n + 1 by omega); omega)) (fun i _ => detB_or _ _) h1
    have ND : Hid (∀ j, j < n + 1 → NumP (xs.getD j 0)) := fun j hj => nums_at nx (by rw [hx]; have := Nat.mul_le_mul_left (n + 1) (show 1 ≤ n + 1 by omega); omega)
    have CL : Hid (∀ w', Below w.heap.size w w' → ∀ j, j < n + 1 → w'.cell? ⟨ga, oa + j, none⟩ = some (.int .i64 (xs.getD j 0))) := fun w' hb j hj => (H.out.below hb).cells j (by rw [hx]; have := Nat.mul_le_mul_left (n + 1) (show 1 ≤ n + 1 by omega); omega)
    have JL : Hid (n + 1 ≤ (n + 1) * (n + 1)) := Nat.le_mul_of_pos_left _ (by omega)
    have FD : Hid (∀ j, mnB n xs j = detB n (woL (n + 1) (0 : Int) (j : Int) xs ((n + 1) * (n + 1)))) := fun j => rfl
    obtain ⟨N, hN⟩ : ∃ N, (n + 1) * (n + 1) = N := ⟨_, rfl⟩
    have WO : Hid (∀ (j : Nat) (w' : World), Below w.heap.size w w' → Calls Try.prog 122 #[.agg #[.int .i64 ((n + 1 : Nat) : Int), .int .i64 ((n + 1 : Nat) : Int), .slice (some ⟨ga, oa, none⟩) N m], .int .i64 0, .int .i64 j] w' (fun e w2 => ∃ v, e = .returned (.agg #[.int .i64 n, .int .i64 n, v]) ∧ Own w'.heap.size w2 v (woL (n + 1) 0 j xs N) ∧ Below w'.heap.size w' w2)) := fun j w' hb => by
      have := sWo (n + 1) (n + 1) ga oa m 0 j xs w' (H.out.below hb) hx (by omega) (by omega)
      rw [hx, hN, show ((n + 1 : Nat) : Int) - 1 = (n : Int) by omega] at this
      exact this
    rw [hN] at hx JL WL FD ⊢
    generalize mnB n xs = f at D0 D1 BD FD
    obtain ⟨r, hr⟩ : ∃ r, n + 1 = r := ⟨_, rfl⟩
    rw [hr] at hn D0 D1 BD ND CL JL WO FD WL ⊢
    clear h nx ih hN hx
    have B0 : Hid (∀ o, Below w.heap.size w (w.alloc o)) := fun o => (Below.refl _ _).alloc (Nat.le_refl _) _
    have K0 : Hid (Blk3 (w.alloc (.cells #[.int .i64 r, .int .i64 r, .slice (some ⟨ga, oa, none⟩) N m] 26)) w.heap.size 26 (.int .i64 r) (.int .i64 r) (.slice (some ⟨ga, oa, none⟩) N m)) := Blk3.at_ _ _ _ _ rfl
    obtain ⟨W, hW⟩ : ∃ W, w.alloc (.cells #[.int .i64 r, .int .i64 r, .slice (some ⟨ga, oa, none⟩) N m] 26) = W := ⟨_, rfl⟩
    have B1 : Hid (Below w.heap.size w W) := by rw [← hW]; exact B0.out _
    have NZ : ((r : Int) == 0) = false := by simp; omega
    rw [hW] at K0
    obtain ⟨a0, a1, a2, -, -, -⟩ := K0.out.all
    go_enter Try.func72, Try.ntmps72
    go_wp2_with fail
    clear a0 a1 a2 hW B0
    go_loopw [2, 3, 4, 5, 6] (fun _ v3 v4 v5 _ wr => ∃ (j : Nat) (s : Int), v5 = .int .i64 j ∧ j ≤ r ∧ v3 = .int .i64 s ∧ v4 = .int .i64 (sg j) ∧ detAcc (fun j => xs.getD j 0) f j = some s ∧ Below W.heap.size W wr) (fun _ _ _ v5 _ _ => r - (intOf v5).toNat)
    case atStart => exact ⟨0, 0, rfl, by omega, rfl, rfl, rfl, Below.refl _ _⟩
    case round =>
      obtain ⟨j, s, rfl, hj, rfl, rfl, hs, hb⟩ := hrel
      have E := Lib.hid hs
      have B := Lib.hid hb
      have BW : Hid (Below w.heap.size w wr) := B1.out.trans (hb.mono B1.out.size)
      have R0 := Lib.hid (K0.out.keep hb K0.out.lt)
      clear hs hb
      obtain ⟨a0, a1, a2, -, -, -⟩ := R0.out.all
      by_cases hlt : j < r
      · have hc := CL.out wr BW.out j hlt
        have hx := ND.out j hlt
        obtain ⟨x, hxx⟩ : ∃ x, xs.getD j 0 = x := ⟨_, rfl⟩
        have X := Lib.hid hxx
        rw [hxx] at hc hx
        clear hxx
        have jl := JL.out
        obtain ⟨sn, hsn⟩ : ∃ z, sg j = z := ⟨_, rfl⟩
        have S := Lib.hid hsn
        have s1 : sn = 1 ∨ sn = -1 := by rw [← hsn]; exact sg_or j
        have vn : IntKind.i64.wrap (-sn) = -sn := IntWalk.i64_in _ (by omega)
        have SS : Hid (sg (j + 1) = -sn) := by show _ = _; rw [sg_succ, hsn]
        rw [hsn]
        clear hsn
        by_cases h0 : x = 0
        · have n1 : (x != 0) = false := by simp [h0]
          have E2 : Hid (detAcc (fun j => xs.getD j 0) f (j + 1) = some s) := detAcc_skip E.out (by show xs.getD j 0 = 0; rw [X.out, h0])
          clear h0 s1
          go_wp2_with fail
          go_roundw
          case rel => exact ⟨j + 1, s, by go_num, by omega, rfl, by rw [SS.out], E2.out, B.out⟩
          case measure => simp [intOf]; omega
        · have n1 : (x != 0) = true := by simp [h0]
          have h00 : Hid (xs.getD j 0 ≠ 0) := by show _ ≠ _; rw [X.out]; exact h0
          clear h0
          go_wp2_with fail
          refine (WO.out j _ BW.out).mono ?_
          rintro e w1 ⟨v, rfl, own, hb1⟩
          obtain ⟨w1l, w1n⟩ := WL.out j hlt
          obtain ⟨q, qc, rfl, -, -⟩ := own.form
          rw [w1l]
          have RQ := Lib.hid own.rdq
          have B2 := Lib.hid (B.out.trans (hb1.mono B.out.size))
          have BW2 := Lib.hid (BW.out.trans (hb1.mono BW.out.size))
          have LL := Lib.hid w1l
          have LN := Lib.hid w1n
          clear own hb1 w1l w1n
          go_wp2_with fail
          refine (IH.out q qc _ w1 RQ.out LL.out (by omega) LN.out).mono ?_
          rintro e w2 ⟨rfl, hb2⟩
          have B3 := Lib.hid (B2.out.trans (hb2.mono B2.out.size))
          have BW3 := Lib.hid (BW2.out.trans (hb2.mono BW2.out.size))
          have R1 := Lib.hid (K0.out.keep B3.out K0.out.lt)
          have FJ := FD.out j
          obtain ⟨y, hy⟩ : ∃ y, detB n (woL r 0 j xs N) = y := ⟨_, rfl⟩
          rw [hy] at FJ ⊢
          have Y := Lib.hid FJ
          have hyb : y = badN ∨ NumP y := by rw [← hy]; exact detB_or _ _
          clear hy FJ hb2 a0 a1 a2
          by_cases h1 : y = badN
          · have n2 : (y == -4611686018427387904) = true := by simp [h1, badN]
            have V : Hid (detB r xs = -4611686018427387904) := D0.out (j + 1) (detAcc_bad E.out h00.out (by rw [Y.out]; exact h1)) (by omega)
            clear h1 hyb s1
            go_wp2_with fail
            go_ret
            exact ⟨by rw [V.out]; rfl, BW3.out⟩
          · have n2 : (y == -4611686018427387904) = false := by simpa [badN] using h1
            have E2 : Hid (detAcc (fun j => xs.getD j 0) f (j + 1) = some (s + sn * x * y)) := by
              have := detAcc_add E.out h00.out (by rw [Y.out]; exact h1)
              rw [S.out, Y.out] at this
              show _ = _
              rw [this, X.out]
            have bd := BD.out (j + 1) _ (by omega) E2.out
            have mx : NumP (sn * x) := by unfold NumP at *; rcases s1 with rfl | rfl <;> omega
            have my := mul_num _ _ mx (hyb.resolve_left h1)
            unfold NumP at mx
            have v1 : IntKind.i64.wrap (sn * x) = sn * x := IntWalk.i64_in _ (by omega)
            have v2 : IntKind.i64.wrap (sn * x * y) = sn * x * y := IntWalk.i64_in _ (by omega)
            have v3 : IntKind.i64.wrap (s + sn * x * y) = s + sn * x * y := IntWalk.i64_in _ (by omega)
            have hc := CL.out w2 BW3.out j hlt
            rw [X.out] at hc
            obtain ⟨a0, a1, a2, -, -, -⟩ := R1.out.all
            clear h1 hyb s1 bd mx my
            go_wp2_with fail
            go_roundw
            case rel => exact ⟨j + 1, s + sn * x * y, by go_num, by omega, rfl, by rw [SS.out], E2.out, B3.out⟩
            case measure => simp [intOf]; omega
      · obtain rfl : j = r := by omega
        have V : Hid (detB j xs = fitB s) := D1.out s E.out
        clear hlt
        go_wp2_with fail
        refine (sFit s _).mono ?_
        rintro e w2 ⟨rfl, rfl⟩
        go_wp2_with fail
        go_ret
        exact ⟨by rw [V.out]; rfl, BW.out⟩
end Go.Proofs.Ytpelnfenfeoeeaa
end

section
/-
  Chapter 6, in the model: IsSquare.
-/
namespace Go.Proofs.Ytpelnfenfeoeeaa
open Go.RowKit
def isSq (r c : Int) (xs : List Int) : Bool := isMat r c xs && decide (r = c) && decide (r ≤ 6)
set_option maxHeartbeats 1000000 in
theorem sIsSq (r c : Int) (a : Option Addr) (m : Nat) (xs : List Int) (w : World) (h : Rd w a xs) (hn : xs.length ≤ 16777216) :
    Calls Try.prog 97 #[.agg #[.int .i64 r, .int .i64 c, .slice a xs.length m]] w (Gives (.bool (isSq r c xs)) w) := by
  have H := Lib.hid h
  obtain ⟨n, hx⟩ : ∃ n, xs.length = n := ⟨_, rfl⟩
  have HX := Lib.hid hx
  rw [hx] at hn ⊢
  clear hx h
  have B0 : ∀ o1, Below w.heap.size w (w.alloc o1) := fun o1 => (Below.refl _ _).alloc (Nat.le_refl _) _
  have BH := Lib.hid B0
  clear B0
  have fin : ∀ b (w' : World), isSq r c xs = b → Below w.heap.size w w' → Gives (.bool (isSq r c xs)) w (.returned (.bool b)) w' := fun b w' h1 h2 => ⟨by rw [h1], h2⟩
  have FIN := Lib.hid fin
  clear fin
  go_enter Try.func97, Try.ntmps97
  go_wp2_with fail
  have ST := sIsMat r c a m xs _ (H.out.below (BH.out (.cells #[.int .i64 r, .int .i64 c, .slice a n m] 26))) (by rw [HX.out]; omega)
  rw [HX.out] at ST
  refine ST.mono ?_
  clear ST
  rintro e w1 ⟨rfl, hb⟩
  have K0 : Hid (Blk3 w1 w.heap.size 26 (.int .i64 r) (.int .i64 c) (.slice a n m)) := (Blk3.at_ _ _ _ _ rfl).keep hb (by simp)
  have B : Hid (Below w.heap.size w w1) := (BH.out _).trans (hb.mono (by simp))
  clear hb
  obtain ⟨ca0, ca1, ca2, -, -, -⟩ := K0.out.all
  obtain ⟨bm, hbm⟩ : ∃ b, isMat r c xs = b := ⟨_, rfl⟩
  rw [hbm]
  cases bm with
  | false =>
    have V : Hid (isSq r c xs = false) := by show isSq r c xs = false; unfold isSq; rw [hbm]; rfl
    clear hbm
    go_wp2_with fail
    go_ret
    exact FIN.out _ _ V.out B.out
  | true =>
    by_cases h1 : r = c
    · by_cases h2 : r ≤ 6
      · have V : Hid (isSq r c xs = true) := by show isSq r c xs = true; unfold isSq; rw [hbm, decide_eq_true h1, decide_eq_true h2]; rfl
        clear hbm
        subst h1
        go_wp2_with fail
        go_ret
        exact FIN.out _ _ V.out B.out
      · have V : Hid (isSq r c xs = false) := by show isSq r c xs = false; unfold isSq; rw [hbm, decide_eq_false h2]; simp
        clear hbm
        subst h1
        go_wp2_with fail
        go_ret
        exact FIN.out _ _ (by rw [V.out]; exact (decide_eq_false (by omega)).symm) B.out
    · have V : Hid (isSq r c xs = false) := by show isSq r c xs = false; unfold isSq; rw [hbm, decide_eq_false h1]; simp
      have n1 : (r == c) = false := by simpa using h1
      clear hbm
      go_wp2_with fail
      go_ret
      exact FIN.out _ _ V.out B.out
end Go.Proofs.Ytpelnfenfeoeeaa
end

section
/-
  Chapter 6, in the model: DeterminantOf, IsUnimodular.
-/
namespace Go.Proofs.Ytpelnfenfeoeeaa
open Go.RowKit
def detOf (r c : Int) (xs : List Int) : Int × Bool := if isSq r c xs = true then detM r.toNat xs else (0, false)
theorem isSq_says {r c : Int} {xs : List Int} (h : isSq r c xs = true) : ∃ n : Nat, r = n ∧ c = n ∧ n ≤ 6 ∧ xs.length = n * n ∧ nums xs = true := by
  unfold isSq at h
  simp only [Bool.and_eq_true, decide_eq_true_eq] at h
  obtain ⟨⟨h1, h2⟩, h3⟩ := h
  obtain ⟨⟨r1, r2⟩, -, l, nx⟩ := isMat_says h1
  obtain ⟨n, rfl⟩ := Int.eq_ofNat_of_zero_le r1
  subst h2
  exact ⟨n, rfl, rfl, by omega, by rw [← Int.natCast_mul] at l; omega, nx⟩
set_option maxRecDepth 100000 in
set_option maxHeartbeats 1000000 in
theorem sDetOf (r c : Int) (a : Option Addr) (m : Nat) (xs : List Int) (w : World) (h : Rd w a xs) (hn : xs.length ≤ 16777216) :
    Calls Try.prog 45 #[.agg #[.int .i64 r, .int .i64 c, .slice a xs.length m]] w (Gives (.tuple #[.int .i64 (detOf r c xs).1, .bool (detOf r c xs).2]) w) := by
  have H := Lib.hid h
  obtain ⟨l, hx⟩ : ∃ n, xs.length = n := ⟨_, rfl⟩
  have HX := Lib.hid hx
  rw [hx] at hn ⊢
  clear hx h
  have B0 : Hid (∀ o1, Below w.heap.size w (w.alloc o1)) := fun o1 => (Below.refl _ _).alloc (Nat.le_refl _) _
  have SQ : Hid (∀ w', Below w.heap.size w w' → Calls Try.prog 97 #[.agg #[.int .i64 r, .int .i64 c, .slice a l m]] w' (Gives (.bool (isSq r c xs)) w')) := fun w' hb => by
    have := sIsSq r c a m xs w' (H.out.below hb) (by rw [HX.out]; exact hn)
    rw [HX.out] at this
    exact this
  rcases Bool.eq_false_or_eq_true (isSq r c xs) with hs | hs
  · obtain ⟨n, rfl, rfl, h6, hl, nx⟩ := isSq_says hs
    have V : Hid (detOf n n xs = detM n xs) := by show detOf n n xs = _; unfold detOf; rw [if_pos hs]; rfl
    have DT : Hid (∀ w', Below w.heap.size w w' → Calls Try.prog 72 #[.agg #[.int .i64 n, .int .i64 n, .slice a l m]] w' (Gives (.int .i64 (detB n xs)) w')) := fun w' hb => by
      have := sDet n a m xs w' (H.out.below hb) hl h6 nx
      rw [← hl, HX.out] at this
      exact this
    rw [hs] at SQ
    obtain ⟨y, hy⟩ : ∃ y, detB n xs = y := ⟨_, rfl⟩
    rw [hy] at DT
    rw [V.out]
    have M1 : Hid (y = badN → detM n xs = (0, false)) := fun e => by unfold detM; rw [hy, if_pos e]
    have M2 : Hid (y ≠ badN → detM n xs = (y, true)) := fun e => by unfold detM; rw [hy, if_neg e]
    clear hs hl nx hy V
    go_enter Try.func45, Try.ntmps45
    go_wp2_with fail
    refine (SQ.out _ (B0.out _)).mono ?_
    rintro e w1 ⟨rfl, hb⟩
    have K0 : Hid (Blk3 w1 w.heap.size 26 (.int .i64 n) (.int .i64 n) (.slice a l m)) := (Blk3.at_ _ _ _ _ rfl).keep hb (by simp)
    have B : Hid (Below w.heap.size w w1) := (B0.out _).trans (hb.mono (by simp))
    clear hb
    obtain ⟨a0, a1, a2, -, -, -⟩ := K0.out.all
    go_wp2_with fail
    refine (DT.out _ B.out).mono ?_
    rintro e w2 ⟨rfl, hb⟩
    have B2 : Hid (Below w.heap.size w w2) := stepB B.out hb
    clear hb a0 a1 a2
    by_cases h1 : y = badN
    · have n2 : (y == -4611686018427387904) = true := by simp [h1, badN]
      have MM := Lib.hid (M1.out h1)
      clear h1
      go_wp2_with fail
      exact bodyPost_ret (v := .tuple #[.int .i64 0, .bool false]) (by simp [results, Try.results45, go_sem]) rfl ⟨by rw [MM.out], B2.out⟩
    · have n2 : (y == -4611686018427387904) = false := by simpa [badN] using h1
      have MM := Lib.hid (M2.out h1)
      clear h1
      go_wp2_with fail
      exact bodyPost_ret (v := .tuple #[.int .i64 y, .bool true]) (by simp [results, Try.results45, go_sem]) rfl ⟨by rw [MM.out], B2.out⟩
  · have V : Hid (detOf r c xs = (0, false)) := by show detOf r c xs = _; unfold detOf; rw [if_neg (by rw [hs]; decide)]
    rw [hs] at SQ
    clear hs
    rw [V.out]
    go_enter Try.func45, Try.ntmps45
    go_wp2_with fail
    refine (SQ.out _ (B0.out _)).mono ?_
    rintro e w1 ⟨rfl, hb⟩
    have B : Hid (Below w.heap.size w w1) := (B0.out _).trans (hb.mono (by simp))
    clear hb
    go_wp2_with fail
    exact bodyPost_ret (v := .tuple #[.int .i64 0, .bool false]) (by simp [results, Try.results45, go_sem]) rfl ⟨rfl, B.out⟩
def uniB (r c : Int) (xs : List Int) : Bool := (detOf r c xs).2 && decide ((detOf r c xs).1 = 1 ∨ (detOf r c xs).1 = -1)
theorem detOf_num (r c : Int) (xs : List Int) : NumP (detOf r c xs).1 := by
  unfold detOf
  split
  · unfold detM
    split
    · exact ⟨by decide, by decide⟩
    · rename_i h
      exact (detB_or _ _).resolve_left h
  · exact ⟨by decide, by decide⟩
end Go.Proofs.Ytpelnfenfeoeeaa
end

section
/-
  Plain mathematics of chapter 6: elimination without fractions over lists of cells ends in the determinant. Nothing of a program is used.
-/
namespace Go.Proofs.Ytpelnfenfeoeeaa
end Go.Proofs.Ytpelnfenfeoeeaa
end

section
/-
  Plain mathematics of chapter 6: what the laws say. Nothing of a program is used.
-/
namespace Go.Proofs.Ytpelnfenfeoeeaa
theorem detOf_says {r c d : Int} {xs : List Int} (h1 : (detOf r c xs).1 = d) (h2 : (detOf r c xs).2 = true) : ∃ n : Nat, r = n ∧ c = n ∧ n ≤ 6 ∧ xs.length = n * n ∧ nums xs = true ∧ detB n xs = d ∧ NumP d ∧ d = det n (mxL n xs) := by
  have hn := detOf_num r c xs
  rw [h1] at hn
  unfold detOf at h1 h2
  by_cases hs : isSq r c xs = true
  · rw [if_pos hs] at h1 h2
    obtain ⟨n, rfl, rfl, h6, hl, nx⟩ := isSq_says hs
    have e : (n : Int).toNat = n := rfl
    rw [e] at h1 h2
    unfold detM at h1 h2
    by_cases hb : detB n xs = badN
    · rw [if_pos hb] at h2; exact absurd h2 (by decide)
    · rw [if_neg hb] at h1
      have h1 : detB n xs = d := h1
      exact ⟨n, rfl, rfl, h6, hl, nx, h1, hn, by rw [← h1]; exact detB_det n xs hb⟩
  · rw [if_neg hs] at h2; exact absurd h2 (by decide)
theorem mulM_says {r c r' c' : Int} {xs ys : List Int} (h : (mulM r c xs r' c' ys).ok = true) : ∃ R K C : Nat, r = R ∧ c = K ∧ r' = K ∧ c' = C ∧ isMat r c xs = true ∧ isMat r' c' ys = true ∧ mulM r c xs r' c' ys = ⟨true, r, c', mulL R K C xs ys⟩ := by
  unfold mulM at h ⊢
  by_cases h1 : (isMat r c xs && isMat r' c' ys && decide (c = r')) = true
  · rw [if_pos h1] at h ⊢
    simp only [Bool.and_eq_true, decide_eq_true_eq] at h1
    obtain ⟨⟨hm, hm'⟩, rfl⟩ := h1
    obtain ⟨⟨r1, -⟩, ⟨c1, -⟩, -, -⟩ := isMat_says hm
    obtain ⟨-, ⟨c2, -⟩, -, -⟩ := isMat_says hm'
    obtain ⟨R, rfl⟩ := Int.eq_ofNat_of_zero_le r1
    obtain ⟨K, rfl⟩ := Int.eq_ofNat_of_zero_le c1
    obtain ⟨C, rfl⟩ := Int.eq_ofNat_of_zero_le c2
    unfold MR.done at h ⊢
    by_cases h2 : isMat R C (mulL R K C xs ys) = true
    · exact ⟨R, K, C, rfl, rfl, rfl, rfl, hm, hm', if_pos h2⟩
    · rw [show (if isMat R C (mulL (R : Int).toNat (K : Int).toNat (C : Int).toNat xs ys) = true then _ else MR.no) = MR.no from if_neg h2] at h
      exact absurd h (by simp [MR.no])
  · rw [if_neg h1] at h; exact absurd h (by simp [MR.no])
end Go.Proofs.Ytpelnfenfeoeeaa
end

section
/-
  Chapter 1, in the model: GcdOf.
-/
namespace Go.Proofs.Ytpelnfenfeoeeaa
open Go.RowKit
end Go.Proofs.Ytpelnfenfeoeeaa
end

section
/-
  Chapter 7, in the model: a row made primitive.
-/
namespace Go.Proofs.Ytpelnfenfeoeeaa
set_option maxRecDepth 100000
open Go.RowKit
end Go.Proofs.Ytpelnfenfeoeeaa
end

section
/-
  A row of ints of a call's own, that append may go on with.
-/
namespace Go.Proofs.Ytpelnfenfeoeeaa
open Go.RowKit
end Go.Proofs.Ytpelnfenfeoeeaa
end

section
/-
  Chapter 7, in the model: the elimination.
-/
namespace Go.Proofs.Ytpelnfenfeoeeaa
set_option maxRecDepth 100000
open Go.RowKit
end Go.Proofs.Ytpelnfenfeoeeaa
end

section
/-
  Chapter 7, in the model: EchelonOf, RankOf.
-/
namespace Go.Proofs.Ytpelnfenfeoeeaa
set_option maxRecDepth 100000
open Go.RowKit
end Go.Proofs.Ytpelnfenfeoeeaa
end

section
/-
  Chapter 7, in the model: SameSpace.
-/
namespace Go.Proofs.Ytpelnfenfeoeeaa
set_option maxRecDepth 100000
open Go.RowKit
end Go.Proofs.Ytpelnfenfeoeeaa
end

section
/-
  Chapter 7, in the model: IsEchelon.
-/
namespace Go.Proofs.Ytpelnfenfeoeeaa
set_option maxRecDepth 100000
open Go.RowKit
structure IsSt (w : World) (r c : Nat) (a : Option Addr) (N m : Nat) (xs : List Int) (wr : World) : Prop where
  blk : Blk3 wr w.heap.size 26 (.int .i64 r) (.int .i64 c) (.slice a N m)
  rd : Rd wr a xs
  bel : Below w.heap.size w wr
theorem IsSt.step {w : World} {r c : Nat} {a : Option Addr} {N m : Nat} {xs : List Int} {wr w' : World} (h : IsSt w r c a N m xs wr) (hb : Below wr.heap.size wr w') : IsSt w r c a N m xs w' := ⟨h.blk.step hb, h.rd.below hb, h.bel.trans (hb.mono h.bel.size)⟩
end Go.Proofs.Ytpelnfenfeoeeaa
end

section
/-
  Chapter 7, in the model: IsEchelon of what is no matrix, and of all.
-/
namespace Go.Proofs.Ytpelnfenfeoeeaa
set_option maxRecDepth 100000
open Go.RowKit
end Go.Proofs.Ytpelnfenfeoeeaa
end

section
/-
  Plain mathematics of chapter 7: what FnEchelon asks. Nothing of a program is used.
-/
namespace Go.Proofs.Ytpelnfenfeoeeaa
open Go.RowKit
theorem isMat_mk {r c : Nat} {zs : List Int} (hr : r ≤ 24) (hc : c ≤ 24) (hl : zs.length = r * c) (hn : nums zs = true) : isMat r c zs = true := by
  have h1 : (zs.length : Int) = (r : Int) * (c : Int) := by rw [← Int.natCast_mul]; omega
  unfold isMat
  simp only [Bool.and_eq_true, decide_eq_true_eq]
  exact ⟨⟨⟨⟨by omega, by omega⟩, ⟨by omega, by omega⟩⟩, h1⟩, hn⟩
end Go.Proofs.Ytpelnfenfeoeeaa
end

section
/-
  The mathematics of the law on Hermite forms: they come with their matrices, and unimodular multiples share them.
-/
namespace Go.Proofs.Ytpelnfenfeoeeaa
open Go.RowKit
theorem her_ok {r c : Int} {xs : List Int} (h : (herR r c xs).ok = true) : ∃ (R C : Nat) (s : HSt), r = R ∧ c = C ∧ R ≤ 24 ∧ C ≤ 24 ∧ xs.length = R * C ∧ nums xs = true ∧ herX R C xs = some s ∧ herR r c xs = ⟨true, R, C, s.1, R, R, s.2⟩ := by
  cases hm : isMat r c xs with
  | false =>
    unfold herR at h
    rw [if_neg (by rw [hm]; decide)] at h
    cases h
  | true =>
    obtain ⟨⟨r0, r1⟩, ⟨c0, c1⟩, hl, nx⟩ := isMat_says hm
    obtain ⟨R, rfl⟩ := Int.eq_ofNat_of_zero_le r0
    obtain ⟨C, rfl⟩ := Int.eq_ofNat_of_zero_le c0
    have hl : xs.length = R * C := by rw [← Int.natCast_mul] at hl; omega
    have e : herR R C xs = HR.of R C (herX R C xs) := by unfold herR; rw [if_pos hm]; rfl
    rw [e] at h ⊢
    cases hx : herX R C xs with
    | none => rw [hx] at h; cases h
    | some s => exact ⟨R, C, s, rfl, rfl, by omega, by omega, hl, nx, hx, rfl⟩
theorem herR_of {R C : Nat} {xs : List Int} {s : HSt} (hR : R ≤ 24) (hC : C ≤ 24) (hl : xs.length = R * C) (hn : nums xs = true) (h : herX R C xs = some s) : herR R C xs = ⟨true, R, C, s.1, R, R, s.2⟩ := by
  unfold herR
  rw [if_pos (isMat_mk hR hC hl hn)]
  show HR.of R C (herX R C xs) = _
  rw [h]; rfl
theorem her_fix {r c : Int} {xs : List Int} {A : HR} (h : herR r c xs = A) (ho : A.ok = true) : (herR A.r1 A.c1 A.zs).ok = true ∧ (herR A.r1 A.c1 A.zs).r1 = A.r1 ∧ (herR A.r1 A.c1 A.zs).c1 = A.c1 ∧ (herR A.r1 A.c1 A.zs).zs = A.zs ∧ herIs A.r1 A.c1 A.zs = true ∧ 0 ≤ r ∧ r ≤ 24 := by
  subst h
  obtain ⟨R, C, s, rfl, rfl, hR, hC, hl, hn, hx, e⟩ := her_ok ho
  obtain ⟨f, q, t, hP⟩ := herX_says hl hn hx
  have n2 := okS_and f.ok
  have g := herR_of hR hC f.siz.l1 n2.1 (herX_fix n2.1 hP)
  rw [e]
  have hI : herIs R C s.1 = true := (herIs_iff (isMat_mk hR hC f.siz.l1 n2.1)).mp (HmB_iff.mpr ⟨q, t, hP⟩)
  refine ⟨by rw [g], by rw [g], by rw [g], by rw [g], hI, by omega, by omega⟩
theorem her_prod {r c : Int} {xs : List Int} {A : HR} {m : MR} (h : herR r c xs = A) (ho : A.ok = true) (hm : mulM A.r2 A.c2 A.us r c xs = m) (hk : m.ok = true) : m.r = A.r1 ∧ m.c = A.c1 ∧ m.zs = A.zs := by
  subst h
  obtain ⟨R, C, s, rfl, rfl, hR, hC, hl, hn, hx, e⟩ := her_ok ho
  rw [e] at hm ⊢
  obtain ⟨R', K, C', e1, e2, e3, e4, -, -, e5⟩ := mulM_says (by rw [hm]; exact hk)
  have e1 : (R : Int) = R' := e1
  have e2 : (R : Int) = K := e2
  obtain rfl : R = R' := by omega
  obtain rfl : R = K := by omega
  obtain rfl : C = C' := by omega
  rw [hm] at e5
  subst e5
  exact ⟨rfl, rfl, herX_prod hl hn hx⟩
theorem her_mix {r c rM cM : Int} {xs zM : List Int} {A : HR} {m : MR} (h : herR r c xs = A) (ho : A.ok = true) (hp : MixP r rM cM zM) (hm : mulM rM cM zM r c xs = m) (hk : m.ok = true) (h2 : (herR m.r m.c m.zs).ok = true) : (herR m.r m.c m.zs).r1 = A.r1 ∧ (herR m.r m.c m.zs).c1 = A.c1 ∧ (herR m.r m.c m.zs).zs = A.zs := by
  subst h
  obtain ⟨R, C, s, rfl, rfl, hR, hC, hl, hn, hx, e⟩ := her_ok ho
  obtain ⟨R', K, C', e1, e2, e3, e4, m1, -, e5⟩ := mulM_says (by rw [hm]; exact hk)
  obtain rfl : R = K := by omega
  obtain rfl : C = C' := by omega
  rcases hp with ⟨p1, p2, -, p4, -, pd⟩ | ⟨p1, p2, -, p3⟩
  · obtain rfl : R = R' := by omega
    rw [hm] at e5
    subst e5
    obtain ⟨R2, C2, s2, q1, q2, -, -, hl2, hn2, hx2, e6⟩ := her_ok h2
    have q1 : rM = (R2 : Int) := q1
    have q2 : (C : Int) = (C2 : Int) := q2
    obtain rfl : R = R2 := by omega
    obtain rfl : C = C2 := by omega
    have hn2 : nums (mulL R R C zM xs) = true := hn2
    have hx2 : herX R C (mulL R R C zM xs) = some s2 := hx2
    have pd : det R (mxC R zM) = 1 := pd
    have hs := herX_mix hl hn hx (.inl pd) hn2 hx2
    rw [e, e6]
    exact ⟨rfl, rfl, hs⟩
  · omega
theorem her_uni {r c : Int} {xs : List Int} {A : HR} (h : herR r c xs = A) (ho : A.ok = true) (hk : (detOf A.r2 A.c2 A.us).2 = true) : (detOf A.r2 A.c2 A.us).1 = 1 ∨ (detOf A.r2 A.c2 A.us).1 = -1 := by
  subst h
  obtain ⟨R, C, s, rfl, rfl, hR, hC, hl, hn, hx, e⟩ := her_ok ho
  obtain ⟨f, -⟩ := herX_says hl hn hx
  rw [e] at hk ⊢
  obtain ⟨n, e1, -, -, -, -, -, -, e6⟩ := detOf_says (d := (detOf R R s.2).1) rfl hk
  have e1 : (R : Int) = n := e1
  obtain rfl : R = n := by omega
  have hu : det R (mxL R s.2) = 1 ∨ det R (mxL R s.2) = -1 := f.acc.uni
  rw [← e6] at hu
  exact hu
end Go.Proofs.Ytpelnfenfeoeeaa
end

section
/-
  Plain mathematics of chapter 6: a step of the elimination, cell by cell. Nothing of a program is used.
-/
namespace Go.Proofs.Ytpelnfenfeoeeaa
end Go.Proofs.Ytpelnfenfeoeeaa
end

section
/-
  Plain mathematics of chapter 6: determinants of the last of some rows in a set of columns, the columns as the bits of a number. Nothing of a program is used.
-/
namespace Go.Proofs.Ytpelnfenfeoeeaa
def colsL (n S : Nat) : List Nat := (List.range n).filter fun c => S.testBit c
def lessS (S c : Nat) : Nat := S &&& (18446744073709551615 - 2 ^ c)
def rowsD (xs : List Int) (n : Nat) (rows cs : List Nat) : List Int := tab cs.length cs.length fun i j => xs.getD (rows.getD (rows.length - cs.length + i) 0 * n + cs.getD j 0) 0
def setD (n : Nat) (xs : List Int) (rows : List Nat) (S : Nat) : Int := detB (colsL n S).length (rowsD xs n rows (colsL n S))
theorem colsL_succ (c S : Nat) : colsL (c + 1) S = if S.testBit c then colsL c S ++ [c] else colsL c S := by
  unfold colsL
  rw [List.range_succ, List.filter_append]
  by_cases h : S.testBit c = true
  · rw [if_pos h]; simp [h]
  · rw [if_neg h]; simp [h]
theorem colsL_in {c S : Nat} (h : S.testBit c = true) : (colsL (c + 1) S).length = (colsL c S).length + 1 := by rw [colsL_succ, if_pos h]; simp
theorem colsL_out {c S : Nat} (h : S.testBit c = false) : colsL (c + 1) S = colsL c S := by rw [colsL_succ, if_neg (by rw [h]; decide)]
theorem colsL_pre {c n S : Nat} (h : c ≤ n) : ∃ r, colsL n S = colsL c S ++ r := by
  obtain ⟨k, rfl⟩ := Nat.exists_eq_add_of_le h
  unfold colsL
  rw [List.range_add, List.filter_append]
  exact ⟨_, rfl⟩
theorem colsL_at {c n S : Nat} (hc : c < n) (h : S.testBit c = true) : (colsL c S).length < (colsL n S).length ∧ (colsL n S).getD (colsL c S).length 0 = c := by
  obtain ⟨r, e⟩ := colsL_pre (S := S) (show c + 1 ≤ n from hc)
  rw [e, colsL_succ, if_pos h]
  refine ⟨by simp, ?_⟩
  simp [List.getD]
theorem colsL_le {c n S : Nat} (h : c ≤ n) : (colsL c S).length ≤ (colsL n S).length := by
  obtain ⟨r, e⟩ := colsL_pre (S := S) h
  rw [e, List.length_append]; omega
theorem colsL_less : ∀ n, n ≤ 6 → ∀ S, S < 64 → ∀ c, c < n → S.testBit c = true → colsL n (lessS S c) = (colsL n S).eraseIdx (colsL c S).length ∧ lessS S c < 64 := by
  decide +kernel
theorem lessS_lt : ∀ n, n ≤ 6 → ∀ S, S < 2 ^ n → ∀ c, c < n → lessS S c < 2 ^ n := by
  decide +kernel
theorem colsL_none : ∀ n, n ≤ 6 → ∀ S, S < 2 ^ n → (colsL n S).length = 0 → S = 0 := by
  decide +kernel
theorem colsL_full : ∀ n, n ≤ 6 → colsL n (2 ^ n - 1) = List.range n := by decide +kernel
theorem colsL_zero (n : Nat) : colsL n 0 = [] := by unfold colsL; simp
theorem erase_getD (cs : List Nat) (t j : Nat) : (cs.eraseIdx t).getD j 0 = cs.getD (skp t j) 0 := by
  unfold skp
  rw [List.getD, List.getD, List.getElem?_eraseIdx]
  split <;> rfl
theorem rowsD_minor (xs : List Int) (n : Nat) (rows cs : List Nat) (k t : Nat) (hc : cs.length = k + 1) (hr : k + 1 ≤ rows.length) (ht : t < k + 1) :
    woL (k + 1) 0 (t : Int) (rowsD xs n rows cs) ((k + 1) * (k + 1)) = rowsD xs n rows (cs.eraseIdx t) := by
  have hl : (cs.eraseIdx t).length = k := by rw [List.length_eraseIdx, hc, if_pos ht]; omega
  have e := woL_tab k 0 t (rowsD xs n rows cs) (by omega) ht
  rw [show ((0 : Nat) : Int) = 0 from rfl] at e
  rw [e]
  unfold rowsD
  rw [hl, hc]
  have hl2 : (tab k k fun i j => xs.getD (rows.getD (rows.length - k + i) 0 * n + (cs.eraseIdx t).getD j 0) 0).length = k * k := tab_length _ _ _
  refine (tab_ext hl2 fun i j hi hj => ?_).symm
  rw [tab_at k k _ hi hj, tab_at (k + 1) (k + 1) _ (skp_lt hi) (skp_lt hj), erase_getD, skp_zero]
  rw [show rows.length - (k + 1) + (i + 1) = rows.length - k + i by omega]
theorem setD_first {xs : List Int} {n : Nat} {rows cs : List Nat} {k : Nat} (hc : cs.length = k + 1) (j : Nat) (hj : j < k + 1) : (rowsD xs n rows cs).getD j 0 = xs.getD (rows.getD (rows.length - (k + 1)) 0 * n + cs.getD j 0) 0 := by
  have := tab_at (k + 1) (k + 1) (fun i j => xs.getD (rows.getD (rows.length - (k + 1) + i) 0 * n + cs.getD j 0) 0) (show 0 < k + 1 by omega) hj
  rw [Nat.zero_mul, Nat.zero_add, Nat.add_zero] at this
  unfold rowsD
  rw [hc]
  exact this
theorem setD_zero (n : Nat) (xs : List Int) (rows : List Nat) : setD n xs rows 0 = 1 := by unfold setD; rw [colsL_zero]; rfl
theorem setD_or (n : Nat) (xs : List Int) (rows : List Nat) (S : Nat) : setD n xs rows S = badN ∨ NumP (setD n xs rows S) := detB_or _ _
theorem mnB_less {n S c k : Nat} {xs : List Int} {rows : List Nat} (h6 : n ≤ 6) (hS : S < 64) (hc : c < n) (hb : S.testBit c = true) (hk : (colsL n S).length = k + 1) (hr : k + 1 ≤ rows.length) :
    mnB k (rowsD xs n rows (colsL n S)) (colsL c S).length = setD n xs rows (lessS S c) := by
  obtain ⟨e, -⟩ := colsL_less n h6 S hS c hc hb
  have hp := (colsL_at hc hb).1
  unfold mnB setD
  rw [e, List.length_eraseIdx, hk, if_pos (by omega), Nat.add_sub_cancel, rowsD_minor xs n rows _ k _ hk hr (by omega)]
theorem less_card {n S c k : Nat} (h6 : n ≤ 6) (hS : S < 64) (hc : c < n) (hb : S.testBit c = true) (hk : (colsL n S).length = k + 1) : (colsL n (lessS S c)).length = k := by
  obtain ⟨e, -⟩ := colsL_less n h6 S hS c hc hb
  have hp := (colsL_at hc hb).1
  rw [e, List.length_eraseIdx, hk, if_pos (by omega)]; omega
theorem setD_all {n : Nat} {xs : List Int} (h6 : n ≤ 6) (hx : xs.length = n * n) : setD n xs (List.range n) (2 ^ n - 1) = detB n xs := by
  unfold setD
  rw [colsL_full n h6]
  unfold rowsD
  simp only [List.length_range, Nat.sub_self, Nat.zero_add]
  congr 1
  refine (tab_ext hx fun i j hi hj => ?_).symm
  simp [List.getD, hi, hj]
end Go.Proofs.Ytpelnfenfeoeeaa
end

section
/-
  Chapter 6, in the program: a block of five cells, a map of determinants, clear. No function of the program is named.
-/
namespace Go.Proofs.Ytpelnfenfeoeeaa
open Go.RowKit Go.Maps
def Blk5 (w : World) (b : Nat) (t : TypeId) (p q r s u : Value) : Prop := w.heap[b]? = some (.cells #[p, q, r, s, u] t (0, 0))
theorem Blk5.all {w : World} {b : Nat} {t : TypeId} {p q r s u : Value} (h : Blk5 w b t p q r s u) : w.cell? ⟨b, 0, none⟩ = some p ∧ w.cell? ⟨b, 1, none⟩ = some q ∧ w.cell? ⟨b, 2, none⟩ = some r ∧ w.cell? ⟨b, 3, none⟩ = some s ∧ w.cell? ⟨b, 4, none⟩ = some u := by
  unfold Blk5 at h
  simp [World.cell?, h]
theorem Blk5.free {w : World} {b : Nat} {t : TypeId} {p q r s u : Value} (h : Blk5 w b t p q r s u) (o : Nat) : w.frozen? ⟨b, o, none⟩ = false := by unfold Blk5 at h; simp [World.frozen?, h]
theorem Blk5.lt {w : World} {b : Nat} {t : TypeId} {p q r s u : Value} (h : Blk5 w b t p q r s u) : b < w.heap.size := lt_of_block h
theorem Blk5.move {w w' : World} {b : Nat} {t : TypeId} {p q r s u : Value} (h : Blk5 w b t p q r s u) (e : w'.heap[b]? = w.heap[b]?) : Blk5 w' b t p q r s u := e.trans h
theorem Blk5.old {w : World} {b : Nat} {t : TypeId} {p q r s u : Value} (h : Blk5 w b t p q r s u) (o : Obj) : Blk5 (w.alloc o) b t p q r s u := h.move (Below.heap_alloc w o b h.lt)
theorem Blk5.one {w w' : World} {b c : Nat} {t : TypeId} {p q r s u : Value} (h : Blk5 w b t p q r s u) (hg : w.grownBy w' (some c)) (hne : b ≠ c) : Blk5 w' b t p q r s u := h.move (hg.block b h.lt (by simpa using hne))
theorem Blk5.grown {w w' : World} {b : Nat} {row : Option Nat} {t : TypeId} {p q r s u : Value} (h : Blk5 w b t p q r s u) (hg : w.grownBy w' row) (hne : some b ≠ row) : Blk5 w' b t p q r s u := h.move (hg.block b h.lt hne)
theorem Blk5.at_ {w : World} {b : Nat} (t : TypeId) (p q r s u : Value) (hb : b = w.heap.size) : Blk5 (w.alloc (.cells #[p, q, r, s, u] t)) b t p q r s u := by
  subst hb; unfold Blk5; show (w.heap.push _)[w.heap.size]? = _
  rw [Array.getElem?_push, if_pos rfl]
theorem Blk5.set3 {w : World} {b : Nat} {t : TypeId} {p q r s u : Value} (h : Blk5 w b t p q r s u) (v : Value) : Blk5 (w.setCell ⟨b, 3, none⟩ v) b t p q r v u := by
  have hlt := h.lt
  unfold Blk5 at h ⊢
  have h' : w.heap[b] = .cells #[p, q, r, s, u] t (0, 0) := by simpa [Array.getElem?_eq_getElem hlt] using h
  show (w.heap.modify b _)[b]? = _
  rw [Array.getElem?_eq_getElem (by simpa using hlt), Array.getElem_modify_self, h']
  rfl
def Mp (w : World) (bm c : Nat) (D : DataW Unit) : Prop := w.ownsMap Try.prog 79 (plainElem Try.prog 3) bm c D
theorem keyed_cols : Keyed Try.prog 79 := int_keyed (q := .u64) (by kernel_rfl)
theorem und_cols : Try.prog.underlying 79 = some (.int .u64) := by kernel_rfl
theorem und_map : Try.prog.underlying 112 = some (.map 79 3) := by kernel_rfl
theorem und_int : Try.prog.underlying 3 = some (.int .i64) := by kernel_rfl
theorem zero_int (w : World) : (zeroValue 3).run Try.prog w = .ok (.int .i64 0) w := by kernel_rfl
theorem Mp.lt {w : World} {bm c : Nat} {D : DataW Unit} (h : Mp w bm c D) : bm < w.heap.size := World.ownsMap.lt h
theorem Mp.made (w : World) : Mp (w.alloc (.map #[] 0)) w.heap.size 0 (.map []) := World.ownsMap_made w _ _ _
theorem Mp.kept {w w' : World} {bm c : Nat} {D : DataW Unit} {row : Option Nat} (h : Mp w bm c D) (hg : w.grownBy w' row) (hne : some bm ≠ row) : Mp w' bm c D := World.ownsMap.kept h hg hne
theorem Mp.move {w w' : World} {bm c : Nat} {D : DataW Unit} (h : Mp w bm c D) (e : w'.heap[bm]? = w.heap[bm]?) : Mp w' bm c D := by
  obtain ⟨es, clock, hb, r⟩ := h
  exact ⟨es, clock, e.trans hb, r⟩
theorem Mp.mono {w : World} {bm c c' : Nat} {D : DataW Unit} (h : Mp w bm c D) (hc : c ≤ c') : Mp w bm c' D := World.ownsMap.mono h hc
theorem Mp.ne5 {w : World} {bm c b : Nat} {D : DataW Unit} {t : TypeId} {p q r s u : Value} (h : Mp w bm c D) (k : Blk5 w b t p q r s u) : b ≠ bm := by
  obtain ⟨es, clock, hb, -⟩ := h
  rintro rfl
  unfold Blk5 at k
  rw [hb] at k
  cases k
theorem Mp.neCell {w : World} {bm c b : Nat} {D : DataW Unit} {o : Nat} {v : Value} (h : Mp w bm c D) (k : w.cell? ⟨b, o, none⟩ = some v) : b ≠ bm := by
  obtain ⟨es, clock, hb, -⟩ := h
  rintro rfl
  simp [World.cell?, hb] at k
theorem Rd.map {w w' : World} {bm c : Nat} {D : DataW Unit} {a : Option Addr} {zs : List Int} (h : Rd w a zs) (hm : Mp w bm c D) (hg : w.grownBy w' (some bm)) : Rd w' a zs := fun i hi => by
  obtain ⟨b, o, ha, hc⟩ := h i hi
  exact ⟨b, o, ha, hg.cell hc (by simpa using hm.neCell hc)⟩
theorem Mp.clear {w : World} {bm c : Nat} {D : DataW Unit} (h : Mp w bm c D) (ty : TypeId) :
    ∃ w', (Builtin.clear_ #[112] ty #[.map (some bm)]).run Try.prog w = .ok (.tuple #[]) w' ∧ Mp w' bm 0 (.map []) ∧ w.grownBy w' (some bm) := by
  obtain ⟨es, clock, hb, -⟩ := h
  refine ⟨ChangeMaps.setBlock w bm (.map #[] clock), ?_, ⟨#[], clock, ChangeMaps.heap_setBlock_same hb _, ⟨by simp, MapKept.stamped_empty clock, by simp⟩, Nat.le_refl _, rfl⟩, ⟨rfl, rfl, rfl, by simp [ChangeMaps.setBlock], fun i _ hi => ChangeMaps.heap_setBlock_other hb _ (fun e => hi (by rw [e]))⟩⟩
  simp [Builtin.clear_, run_underlying und_map, MapKept.run_getObj_map hb, MapKept.run_setObj_map _ hb, Result.andThen, ChangeMaps.setBlock]
def Memo (n : Nat) (xs : List Int) (rows : List Nat) (D : DataW Unit) : Prop := ∀ S : Nat, Maps.has D (.int .u64 (S : Int)) = true → setD n xs rows S ≠ badN ∧ D.atKey (.int .u64 (S : Int)) (.lit (.int .i64 0)) = .lit (.int .i64 (setD n xs rows S))
theorem Memo.none (n : Nat) (xs : List Int) (rows : List Nat) : Memo n xs rows (.map []) := fun S h => by
  unfold Maps.has at h
  simp at h
theorem Memo.put {n : Nat} {xs : List Int} {rows : List Nat} {D : DataW Unit} (h : Memo n xs rows D) (hD : IsMap D) (S : Nat) (hb : setD n xs rows S ≠ badN) : Memo n xs rows (D.put (.int .u64 (S : Int)) (.lit (.int .i64 (setD n xs rows S)))) := fun S' hS => by
  by_cases e : S' = S
  · subst e
    exact ⟨hb, Maps.atKey_put_same hD (by trivial) _ _⟩
  · have ne : Lit.int .u64 (S' : Int) ≠ Lit.int .u64 (S : Int) := fun he => e (by injection he with _ he; omega)
    rw [Maps.has_put_other ne] at hS
    rw [Maps.atKey_put_other ne]
    exact h S' hS
structure MnSt (R n : Nat) (a : Option Addr) (m : Nat) (xs : List Int) (rows : List Nat) (q : Option Addr) (qc px bm c : Nat) (w : World) : Prop where
  blk : Blk5 w px 114 (.int .i64 R) (.int .i64 n) (.slice a (R * n) m) (.slice q rows.length qc) (.map (some bm))
  cells : Rd w a xs
  rws : Rd w q (rows.map fun (r : Nat) => (r : Int))
  memo : ∃ D, Mp w bm c D ∧ Memo n xs rows D
theorem MnSt.ne {R n : Nat} {a : Option Addr} {m : Nat} {xs : List Int} {rows : List Nat} {q : Option Addr} {qc px bm c : Nat} {w : World} (h : MnSt R n a m xs rows q qc px bm c w) : px ≠ bm := by
  obtain ⟨D, hD, -⟩ := h.memo
  exact hD.ne5 h.blk
theorem MnSt.turn {R n : Nat} {a : Option Addr} {m : Nat} {xs : List Int} {rows : List Nat} {q : Option Addr} {qc px bm c c' : Nat} {w w' : World} (h : MnSt R n a m xs rows q qc px bm c w) (hg : w.grownBy w' (some bm)) {D : DataW Unit} (hD : Mp w' bm c' D) (hM : Memo n xs rows D) : MnSt R n a m xs rows q qc px bm c' w' := by
  obtain ⟨D0, h0, -⟩ := h.memo
  exact ⟨h.blk.one hg h.ne, h.cells.map h0 hg, h.rws.map h0 hg, D, hD, hM⟩
theorem MnSt.mono {R n : Nat} {a : Option Addr} {m : Nat} {xs : List Int} {rows : List Nat} {q : Option Addr} {qc px bm c c' : Nat} {w : World} (h : MnSt R n a m xs rows q qc px bm c w) (hc : c ≤ c') : MnSt R n a m xs rows q qc px bm c' w := by
  obtain ⟨D, hD, hM⟩ := h.memo
  exact ⟨h.blk, h.cells, h.rws, D, hD.mono hc, hM⟩
theorem MnSt.drewN {R n : Nat} {a : Option Addr} {m : Nat} {xs : List Int} {rows : List Nat} {q : Option Addr} {qc px bm c : Nat} {w : World} (h : MnSt R n a m xs rows q qc px bm c w) (k : Nat) : MnSt R n a m xs rows q qc px bm c (w.drewN k) := ⟨h.blk, h.cells, h.rws, h.memo⟩
end Go.Proofs.Ytpelnfenfeoeeaa
end

section
/-
  Chapter 6, in the program: sets of lines as bits.
-/
namespace Go.Proofs.Ytpelnfenfeoeeaa
set_option maxRecDepth 100000
open Go.RowKit
theorem iOnes64 (S : Nat) (h : S < 64) (w : World) : Calls Try.prog 165 #[.int .u64 S] w fun e w' => e = .returned (.int .i64 ((colsL 6 S).length : Int)) ∧ w' = w := by
  go_enter Try.func165, Try.ntmps165
  go_wp2
  go_ret
  refine ⟨congrArg Ending.returned (congrArg (Value.int .i64) ?_), rfl⟩
  revert S
  decide +kernel
theorem iOnes (S : Nat) (h : S < 64) (w : World) : Calls Try.prog 155 #[.int .u64 S] w fun e w' => e = .returned (.int .i64 ((colsL 6 S).length : Int)) ∧ w' = w := by
  go_enter Try.func155, Try.ntmps155
  go_wp2_with fail
  refine (iOnes64 S h _).mono ?_
  rintro e w' ⟨rfl, rfl⟩
  go_wp2_with fail
  go_ret
  exact ⟨rfl, rfl⟩
theorem iCount (S : Nat) (h : S < 64) (w : World) : Calls Try.prog 125 #[.int .u64 S] w fun e w' => e = .returned (.int .i64 ((colsL 6 S).length : Int)) ∧ w' = w := by
  go_enter Try.func125, Try.ntmps125
  go_wp2_with fail
  refine (iOnes S h _).mono ?_
  rintro e w' ⟨rfl, rfl⟩
  go_wp2_with fail
  go_ret
  exact ⟨rfl, rfl⟩
theorem iHas (S c : Nat) (h : S < 64) (hc : c < 6) (w : World) : Calls Try.prog 126 #[.int .u64 S, .int .i64 c] w fun e w' => e = .returned (.bool (S.testBit c)) ∧ w' = w := by
  have c0 : (0 : Int) ≤ (c : Int) := by omega
  have c1 : (c : Int) ≤ 64 := by omega
  go_enter Try.func126, Try.ntmps126
  go_wp2
  go_ret
  refine ⟨congrArg Ending.returned (congrArg Value.bool ?_), rfl⟩
  clear c0 c1
  revert c
  revert S
  decide +kernel
theorem iWithout (S c : Nat) (h : S < 64) (hc : c < 6) (w : World) : Calls Try.prog 156 #[.int .u64 S, .int .i64 c] w fun e w' => e = .returned (.int .u64 (lessS S c)) ∧ w' = w := by
  have c0 : (0 : Int) ≤ (c : Int) := by omega
  have c1 : (c : Int) ≤ 64 := by omega
  go_enter Try.func156, Try.ntmps156
  go_wp2
  go_ret
  refine ⟨congrArg Ending.returned (congrArg (Value.int .u64) ?_), rfl⟩
  clear c0 c1
  revert c
  revert S
  decide +kernel
theorem iFirst (n : Nat) (h : n ≤ 6) (w : World) : Calls Try.prog 99 #[.int .i64 n] w fun e w' => e = .returned (.int .u64 ((2 ^ n - 1 : Nat) : Int)) ∧ w' = w := by
  have c0 : (0 : Int) ≤ (n : Int) := by omega
  have c1 : (n : Int) ≤ 64 := by omega
  go_enter Try.func99, Try.ntmps99
  go_wp2
  go_ret
  refine ⟨congrArg Ending.returned (congrArg (Value.int .u64) ?_), rfl⟩
  clear c0 c1
  revert n
  decide +kernel
end Go.Proofs.Ytpelnfenfeoeeaa
end

section
/-
  Chapter 6, in the program: over to the rows of a set.
-/
namespace Go.Proofs.Ytpelnfenfeoeeaa
set_option maxRecDepth 100000
open Go.RowKit Go.Maps
theorem own_ne5 {w : World} {B n b k : Nat} {v : Value} {us : List Value} {p q r s u : Value} (h : w.ownsRow B 3 1 v n us) (hk : v.ownBlock = some k) (h5 : Blk5 w b 114 p q r s u) : b ≠ k := by
  rcases h.2 with ⟨rfl, -⟩ | ⟨g, cap, cur, rfl, -, hg, -⟩
  · cases hk
  · injection hk with hk
    subst hk
    rintro rfl
    unfold Blk5 at h5
    change w.heap[b]? = _ at hg
    rw [hg] at h5
    injection h5 with h5
    injection h5 with _ h5 _
    exact absurd h5 (by decide)
theorem own_neM {w : World} {B n bm c k : Nat} {D : DataW Unit} {v : Value} {us : List Value} (h : w.ownsRow B 3 1 v n us) (hk : v.ownBlock = some k) (hm : Mp w bm c D) : bm ≠ k := by
  obtain ⟨es, clock, hb, -⟩ := hm
  rcases h.2 with ⟨rfl, -⟩ | ⟨g, cap, cur, rfl, -, hg, -⟩
  · cases hk
  · injection hk with hk
    subst hk
    rintro rfl
    change w.heap[bm]? = _ at hg
    rw [hg] at hb
    cases hb
theorem FrS.of_row {w w' : World} {row : Option Nat} (h : w.grownBy w' row) : FrS (fun k => row = some k) w w' := ⟨h.os, h.tape, h.output, h.size, fun k hk hn => h.block k hk (fun e => hn e.symm)⟩
theorem Blk5.ne_map {w : World} {b bm c : Nat} {D : DataW Unit} {t : TypeId} {p q r s u : Value} (h : Blk5 w b t p q r s u) (hm : Mp w bm c D) (e : bm = b) : False := hm.ne5 h e.symm
theorem take5 {w w1 : World} {B n b : Nat} {v : Value} {us : List Value} {p q r s u : Value} {o : Obj} (h5 : Blk5 w b 114 p q r s u) (h : w.ownsRow B 3 1 v n us) (hg : (w.alloc o).grownBy w1 v.ownBlock) : Blk5 w1 b 114 p q r s u :=
  (h5.old o).grown hg (fun e => own_ne5 h e.symm h5 rfl)
theorem colsL_len (k S : Nat) : (colsL k S).length ≤ k := by
  unfold colsL
  have := List.length_filter_le (fun c => S.testBit c) (List.range k)
  simpa using this
def TkSt (R n : Nat) (A : Value) (px bm c B : Nat) (D : DataW Unit) (V : Value) (RS : Nat) (w : World) (k : Nat) (wr : World) : Prop := ∃ V', Blk5 wr px 114 (.int .i64 R) (.int .i64 n) A V' (.map (some bm)) ∧ wr.ownsRow B 3 1 V' (colsL k RS).length ((colsL k RS).map fun (r : Nat) => Value.int .i64 (r : Int)) ∧ (∀ g, V'.ownBlock = some g → V.ownBlock = some g ∨ w.heap.size ≤ g) ∧ Mp wr bm c D ∧ FrS (fun k => k = px ∨ k = bm ∨ V.ownBlock = some k) w wr
set_option maxHeartbeats 1000000 in
theorem iTake (R n N m : Nat) (a : Option Addr) (RS : Nat) (px bm c B l : Nat) (D : DataW Unit) (V : Value) (us : List Value) (w : World) (h6 : R ≤ 6) (hS : RS < 64) (h5 : Blk5 w px 114 (.int .i64 R) (.int .i64 n) (.slice a N m) V (.map (some bm))) (ho : w.ownsRow B 3 1 V l us) (hm : Mp w bm c D) (hB : B ≤ w.heap.size) :
    Calls Try.prog 77 #[.pointer (some ⟨px, 0, none⟩), .int .u64 RS] w (fun r w' => Void r ∧ ∃ V', Blk5 w' px 114 (.int .i64 R) (.int .i64 n) (.slice a N m) V' (.map (some bm)) ∧ w'.ownsRow B 3 1 V' (colsL R RS).length ((colsL R RS).map fun (r : Nat) => Value.int .i64 (r : Int)) ∧ (∀ g, V'.ownBlock = some g → V.ownBlock = some g ∨ w.heap.size ≤ g) ∧ Mp w' bm 0 (.map []) ∧ FrS (fun k => k = px ∨ k = bm ∨ V.ownBlock = some k) w w') := by
  have HA : Hid (∀ j (w' : World), j < R → Calls Try.prog 126 #[.int .u64 RS, .int .i64 j] w' fun e w2 => e = .returned (.bool (RS.testBit j)) ∧ w2 = w') := fun j w' hj => iHas RS j hS (by omega) w'
  have H5 := Lib.hid h5
  have MM := Lib.hid hm
  have HB := Lib.hid hB
  have OO := Lib.hid ho
  obtain ⟨b0, b1, b2, b3, b4⟩ := h5.all
  have bf := h5.free 3
  have PN : Hid (∀ g, V.ownBlock = some g → px ≠ g) := fun g hg => own_ne5 ho hg h5
  obtain ⟨fi, hfi, hz0, hz1, hz2⟩ := facts_int
  rcases ho.2 with ⟨rfl, -⟩ | ⟨g, cap, cur, rfl, hg1, hg2, hg3, hg4, hg5, hg6⟩
  · have S0 : Hid (TkSt R n (.slice a N m) px bm c B D (.slice none 0 0) RS w 0 (w.setCell ⟨px, 3, none⟩ (.slice none 0 0))) :=
      ⟨_, H5.out.set3 _, World.ownsRow_nil _ _ _ _, fun g hg => .inl hg, MM.out.move (Below.heap_setCell _ _ _ _ (Ne.symm (MM.out.ne5 H5.out))), (FrS.refl _ w).set (.inl (.inl rfl)) _⟩
    clear h5 hm hB ho
    go_enter Try.func77, Try.ntmps77
    go_wp2_with fail
    clear b0 b1 b2 b3 b4 bf PN OO
    generalize w.setCell ⟨px, 3, none⟩ (.slice none 0 0) = W at S0
    go_loopw [4, 18] (fun _ i wr => ∃ k : Nat, i = .int .i64 k ∧ k ≤ R ∧ TkSt R n (.slice a N m) px bm c B D (.slice none 0 0) RS w k wr) (fun _ i _ => R - (intOf i).toNat)
    case atStart => exact ⟨0, rfl, by omega, S0.out⟩
    case round =>
      obtain ⟨k, rfl, hk, hst⟩ := hrel
      have ST := Lib.hid hst
      obtain ⟨V', k5, ko, kn, km, kf⟩ := hst
      obtain ⟨b0, b1, b2, b3, b4⟩ := k5.all
      by_cases hlt : k < R
      · have HK := Lib.hid (fun w' => HA.out k w' hlt)
        by_cases hr : RS.testBit k = false
        · have RE : Hid (colsL (k + 1) RS = colsL k RS) := colsL_out hr
          rw [hr] at HK
          clear k5 ko kn km kf hr
          go_wp2_with fail
          refine (HK.out _).mono ?_
          rintro e w2 ⟨rfl, hw2⟩
          rw [hw2]
          clear hw2
          go_wp2_with fail
          go_roundw
          case rel => exact ⟨k + 1, by go_num, by omega, by have := ST.out; unfold TkSt at this ⊢; rw [RE.out]; exact this⟩
          case measure => simp [intOf]; omega
        · have hr : RS.testBit k = true := by simpa using hr
          have RE : Hid (colsL (k + 1) RS = colsL k RS ++ [k]) := by show _ = _; rw [colsL_succ, if_pos hr]
          rw [hr] at HK
          have LB : (colsL k RS).length ≤ 6 := Nat.le_trans (colsL_len k RS) (by omega)
          have hBw : B ≤ wr.heap.size := Nat.le_trans HB.out kf.size
          have K5 := Lib.hid k5
          have KO := Lib.hid ko
          have KN := Lib.hid kn
          have KM := Lib.hid km
          have KF := Lib.hid kf
          have bf := k5.free 3
          clear k5 ko kn km kf hr ST
          have KOA : Hid ((wr.alloc (.cells #[.int .i64 (k : Int)] 3)).ownsRow B 3 1 V' (colsL k RS).length ((colsL k RS).map fun (r : Nat) => Value.int .i64 (r : Int))) := KO.out.alloc _
          have G1 : Hid (wr.grownBy (wr.alloc (.cells #[.int .i64 (k : Int)] 3)) V'.ownBlock) := World.grownBy_alloc _ _ _
          obtain ⟨L, hL⟩ : ∃ L, (colsL k RS).length = L := ⟨_, rfl⟩
          have HL := Lib.hid hL
          rw [hL] at KOA LB
          clear hL
          go_wp2_with fail
          refine (HK.out _).mono ?_
          rintro e w2 ⟨rfl, hw2⟩
          rw [hw2]
          clear hw2 HK
          go_wp2_with (first
            | (at_builtin; refine wpList_append_own_at _ rfl _ _ 22 rfl B 3 fi (.int .i64 0) 1 8 underlying_ints hfi hz0 hz1 hz2 rfl (by decide) _ _ _ rfl KOA.out ⟨wr.heap.size, 0, none⟩ 1 1 [.int .i64 (k : Int)] rfl rfl (cell_one_new _ _ _) (ints_oneCell .i64 [(k : Int)]) (by unfold maxLen; omega) (by omega) (by simp; omega) ?_; intro v' w1 hown' hgrow hnil hloc; obtain ⟨va, vm, vc, rfl⟩ := rows_form hown'; have K51 := take5 K5.out KO.out hgrow; have bf1 := K51.free 3; obtain ⟨-, -, -, q3, -⟩ := K51.all; replace K51 := Lib.hid K51)
            | fail)
          have PK : V'.ownBlock ≠ some px := fun e => own_ne5 KO.out e K5.out rfl
          have PM : V'.ownBlock ≠ some bm := fun e => own_neM KO.out e KM.out rfl
          have NV : ∀ g, (Value.slice va vm vc).ownBlock = some g → (Value.slice none 0 0).ownBlock = some g ∨ w.heap.size ≤ g := fun g hg => by
            rcases hloc with hl | hl
            · exact KN.out g (hl ▸ hg)
            · rw [hl] at hg
              injection hg with hg
              have := KF.out.size
              exact .inr (by rw [← hg]; simp; omega)
          have F1 : FrS (fun k => k = px ∨ V'.ownBlock = some k) wr (w1.setCell ⟨px, 3, none⟩ (.slice va vm vc)) := ((((FrS.refl _ wr).alloc _).trans ((FrS.of_row hgrow).mono (fun k hk => .inr hk)))).set (.inl (.inl rfl)) _
          go_roundw
          case rel =>
            refine ⟨k + 1, by go_num, by omega, _, K51.out.set3 _, ?_, NV, KM.out.move (F1.block bm KM.out.lt ?_), KF.out.transR F1 ?_⟩
            · have : w1.ownsRow B 3 1 (.slice va vm vc) (colsL (k + 1) RS).length ((colsL (k + 1) RS).map fun (r : Nat) => Value.int .i64 (r : Int)) := by
                rw [RE.out, List.length_append, List.map_append, HL.out]
                exact hown'
              refine this.kept (row := some px) (grown_set_one (World.grownBy.refl _ _) rfl _) (.inr fun hv => ?_)
              exact own_ne5 this hv K51.out rfl
            · rintro (e1 | e1)
              · exact K5.out.ne_map KM.out e1
              · exact PM e1
            · rintro k0 hk0 (rfl | e1)
              · exact .inl rfl
              · rcases KN.out k0 e1 with h | h
                · exact .inr (.inr h)
                · omega
          case measure => simp [intOf]; omega
      · obtain rfl : k = R := by omega
        have K5 := Lib.hid k5
        have KO := Lib.hid ko
        have KN := Lib.hid kn
        have KM := Lib.hid km
        have KF := Lib.hid kf
        clear k5 ko kn km kf hlt
        obtain ⟨w1, hcl, hm1, hg1⟩ := KM.out.clear 0
        go_wp2_with fail
        go_end0
        refine ⟨rfl, V', K5.out.one hg1 (KM.out.ne5 K5.out), KO.out.kept hg1 ?_, KN.out, hm1, KF.out.transR (FrS.of_row hg1) (fun k _ hk => .inr (.inl (by injection hk with hk; exact hk.symm)))⟩
        cases hv : V'.ownBlock with
        | none => exact .inl rfl
        | some g0 => exact .inr (fun e => own_neM KO.out hv KM.out (by injection e with e; exact e.symm))
  · have S0 : Hid (TkSt R n (.slice a N m) px bm c B D (.slice (some ⟨g, 0, none⟩) l cap) RS w 0 (w.setCell ⟨px, 3, none⟩ (.slice (some ⟨g, 0, none⟩) 0 cap))) :=
      ⟨_, H5.out.set3 _, ⟨rfl, .inr ⟨g, cap, cur, rfl, hg1, (Below.heap_setCell w ⟨px, 3, none⟩ _ g (Ne.symm (PN.out g rfl))).trans hg2, Nat.zero_le _, hg4, hg5, by simp [colsL]⟩⟩, fun g hg => .inl hg, MM.out.move (Below.heap_setCell _ _ _ _ (Ne.symm (MM.out.ne5 H5.out))), (FrS.refl _ w).set (.inl (.inl rfl)) _⟩
    clear h5 hm hB ho hg2 hg3 hg4 hg5 hg6
    go_enter Try.func77, Try.ntmps77
    go_wp2_with fail
    clear b0 b1 b2 b3 b4 bf PN OO
    generalize w.setCell ⟨px, 3, none⟩ (.slice (some ⟨g, 0, none⟩) 0 cap) = W at S0
    go_loopw [4, 18] (fun _ i wr => ∃ k : Nat, i = .int .i64 k ∧ k ≤ R ∧ TkSt R n (.slice a N m) px bm c B D (.slice (some ⟨g, 0, none⟩) l cap) RS w k wr) (fun _ i _ => R - (intOf i).toNat)
    case atStart => exact ⟨0, rfl, by omega, S0.out⟩
    case round =>
      obtain ⟨k, rfl, hk, hst⟩ := hrel
      have ST := Lib.hid hst
      obtain ⟨V', k5, ko, kn, km, kf⟩ := hst
      obtain ⟨b0, b1, b2, b3, b4⟩ := k5.all
      by_cases hlt : k < R
      · have HK := Lib.hid (fun w' => HA.out k w' hlt)
        by_cases hr : RS.testBit k = false
        · have RE : Hid (colsL (k + 1) RS = colsL k RS) := colsL_out hr
          rw [hr] at HK
          clear k5 ko kn km kf hr
          go_wp2_with fail
          refine (HK.out _).mono ?_
          rintro e w2 ⟨rfl, hw2⟩
          rw [hw2]
          clear hw2
          go_wp2_with fail
          go_roundw
          case rel => exact ⟨k + 1, by go_num, by omega, by have := ST.out; unfold TkSt at this ⊢; rw [RE.out]; exact this⟩
          case measure => simp [intOf]; omega
        · have hr : RS.testBit k = true := by simpa using hr
          have RE : Hid (colsL (k + 1) RS = colsL k RS ++ [k]) := by show _ = _; rw [colsL_succ, if_pos hr]
          rw [hr] at HK
          have LB : (colsL k RS).length ≤ 6 := Nat.le_trans (colsL_len k RS) (by omega)
          have hBw : B ≤ wr.heap.size := Nat.le_trans HB.out kf.size
          have K5 := Lib.hid k5
          have KO := Lib.hid ko
          have KN := Lib.hid kn
          have KM := Lib.hid km
          have KF := Lib.hid kf
          have bf := k5.free 3
          clear k5 ko kn km kf hr ST
          have KOA : Hid ((wr.alloc (.cells #[.int .i64 (k : Int)] 3)).ownsRow B 3 1 V' (colsL k RS).length ((colsL k RS).map fun (r : Nat) => Value.int .i64 (r : Int))) := KO.out.alloc _
          have G1 : Hid (wr.grownBy (wr.alloc (.cells #[.int .i64 (k : Int)] 3)) V'.ownBlock) := World.grownBy_alloc _ _ _
          obtain ⟨L, hL⟩ : ∃ L, (colsL k RS).length = L := ⟨_, rfl⟩
          have HL := Lib.hid hL
          rw [hL] at KOA LB
          clear hL
          go_wp2_with fail
          refine (HK.out _).mono ?_
          rintro e w2 ⟨rfl, hw2⟩
          rw [hw2]
          clear hw2 HK
          go_wp2_with (first
            | (at_builtin; refine wpList_append_own_at _ rfl _ _ 22 rfl B 3 fi (.int .i64 0) 1 8 underlying_ints hfi hz0 hz1 hz2 rfl (by decide) _ _ _ rfl KOA.out ⟨wr.heap.size, 0, none⟩ 1 1 [.int .i64 (k : Int)] rfl rfl (cell_one_new _ _ _) (ints_oneCell .i64 [(k : Int)]) (by unfold maxLen; omega) (by omega) (by simp; omega) ?_; intro v' w1 hown' hgrow hnil hloc; obtain ⟨va, vm, vc, rfl⟩ := rows_form hown'; have K51 := take5 K5.out KO.out hgrow; have bf1 := K51.free 3; obtain ⟨-, -, -, q3, -⟩ := K51.all; replace K51 := Lib.hid K51)
            | fail)
          have PK : V'.ownBlock ≠ some px := fun e => own_ne5 KO.out e K5.out rfl
          have PM : V'.ownBlock ≠ some bm := fun e => own_neM KO.out e KM.out rfl
          have NV : ∀ g', (Value.slice va vm vc).ownBlock = some g' → (Value.slice (some ⟨g, 0, none⟩) l cap).ownBlock = some g' ∨ w.heap.size ≤ g' := fun g' hg => by
            rcases hloc with hl | hl
            · exact KN.out g' (hl ▸ hg)
            · rw [hl] at hg
              injection hg with hg
              have := KF.out.size
              exact .inr (by rw [← hg]; simp; omega)
          have F1 : FrS (fun k => k = px ∨ V'.ownBlock = some k) wr (w1.setCell ⟨px, 3, none⟩ (.slice va vm vc)) := ((((FrS.refl _ wr).alloc _).trans ((FrS.of_row hgrow).mono (fun k hk => .inr hk)))).set (.inl (.inl rfl)) _
          go_roundw
          case rel =>
            refine ⟨k + 1, by go_num, by omega, _, K51.out.set3 _, ?_, NV, KM.out.move (F1.block bm KM.out.lt ?_), KF.out.transR F1 ?_⟩
            · have : w1.ownsRow B 3 1 (.slice va vm vc) (colsL (k + 1) RS).length ((colsL (k + 1) RS).map fun (r : Nat) => Value.int .i64 (r : Int)) := by
                rw [RE.out, List.length_append, List.map_append, HL.out]
                exact hown'
              refine this.kept (row := some px) (grown_set_one (World.grownBy.refl _ _) rfl _) (.inr fun hv => ?_)
              exact own_ne5 this hv K51.out rfl
            · rintro (e1 | e1)
              · exact K5.out.ne_map KM.out e1
              · exact PM e1
            · rintro k0 hk0 (rfl | e1)
              · exact .inl rfl
              · rcases KN.out k0 e1 with h | h
                · exact .inr (.inr h)
                · omega
          case measure => simp [intOf]; omega
      · obtain rfl : k = R := by omega
        have K5 := Lib.hid k5
        have KO := Lib.hid ko
        have KN := Lib.hid kn
        have KM := Lib.hid km
        have KF := Lib.hid kf
        clear k5 ko kn km kf hlt
        obtain ⟨w1, hcl, hm1, hg1⟩ := KM.out.clear 0
        go_wp2_with fail
        go_end0
        refine ⟨rfl, V', K5.out.one hg1 (KM.out.ne5 K5.out), KO.out.kept hg1 ?_, KN.out, hm1, KF.out.transR (FrS.of_row hg1) (fun k _ hk => .inr (.inl (by injection hk with hk; exact hk.symm)))⟩
        cases hv : V'.ownBlock with
        | none => exact .inl rfl
        | some g0 => exact .inr (fun e => own_neM KO.out hv KM.out (by injection e with e; exact e.symm))
end Go.Proofs.Ytpelnfenfeoeeaa
end

section
/-
  Plain mathematics of chapter 6: the expansion of a set of columns, column by column. Nothing of a program is used.
-/
namespace Go.Proofs.Ytpelnfenfeoeeaa
def accD (n : Nat) (xs : List Int) (rows : List Nat) (S p : Nat) : Option Int := detAcc (fun j => (rowsD xs n rows (colsL n S)).getD j 0) (mnB ((colsL n S).length - 1) (rowsD xs n rows (colsL n S))) p
def detR (d : Int) : Int × Bool := if d = badN then (0, false) else (d, true)
def exR : Option Int → Int × Bool
  | none => (0, false)
  | some s => (s, true)
theorem detR_bad {d : Int} (h : d = badN) : detR d = (0, false) := if_pos h
theorem detR_num {d : Int} (h : d ≠ badN) : detR d = (d, true) := if_neg h
theorem NumP.ne_bad {d : Int} (h : NumP d) : d ≠ badN := by
  unfold NumP at h
  unfold badN
  omega
theorem setD_acc {n S k : Nat} {xs : List Int} {rows : List Nat} (hk : (colsL n S).length = k + 1) : setD n xs rows S = match accD n xs rows S (k + 1) with
    | none => badN
    | some s => fitB s := by
  unfold setD accD
  rw [hk]
  rfl
theorem setD_none {n S k : Nat} {xs : List Int} {rows : List Nat} (hk : (colsL n S).length = k + 1) (h : accD n xs rows S (k + 1) = none) : setD n xs rows S = badN := by rw [setD_acc hk, h]
theorem setD_bad {n S k : Nat} {xs : List Int} {rows : List Nat} {s : Int} (hk : (colsL n S).length = k + 1) (h : accD n xs rows S (k + 1) = some s) (hs : ¬ NumP s) : setD n xs rows S = badN := by
  rw [setD_acc hk, h]
  exact if_neg hs
theorem setD_num {n S k : Nat} {xs : List Int} {rows : List Nat} {s : Int} (hk : (colsL n S).length = k + 1) (h : accD n xs rows S (k + 1) = some s) (hs : NumP s) : setD n xs rows S = s := by
  rw [setD_acc hk, h]
  exact if_pos hs
theorem acc_cell {n S c k : Nat} {xs : List Int} {rows : List Nat} (hc : c < n) (hb : S.testBit c = true) (hk : (colsL n S).length = k + 1) :
    (rowsD xs n rows (colsL n S)).getD (colsL c S).length 0 = xs.getD (rows.getD (rows.length - (k + 1)) 0 * n + c) 0 := by
  obtain ⟨h1, h2⟩ := colsL_at hc hb
  rw [setD_first hk _ (by omega), h2]
section
variable {n S c k : Nat} {xs : List Int} {rows : List Nat} {s : Int}
theorem acc_skip (hc : c < n) (hb : S.testBit c = true) (hk : (colsL n S).length = k + 1) (h : accD n xs rows S (colsL c S).length = some s) (h0 : xs.getD (rows.getD (rows.length - (k + 1)) 0 * n + c) 0 = 0) :
    accD n xs rows S (colsL (c + 1) S).length = some s := by
  rw [colsL_in hb]
  exact detAcc_skip h (by show (rowsD xs n rows (colsL n S)).getD _ 0 = 0; rw [acc_cell hc hb hk]; exact h0)
theorem acc_bad (h6 : n ≤ 6) (hS : S < 64) (hr : k + 1 ≤ rows.length) (hc : c < n) (hb : S.testBit c = true) (hk : (colsL n S).length = k + 1) (h : accD n xs rows S (colsL c S).length = some s) (h0 : xs.getD (rows.getD (rows.length - (k + 1)) 0 * n + c) 0 ≠ 0) (h1 : setD n xs rows (lessS S c) = badN) :
    accD n xs rows S (k + 1) = none := by
  refine detAcc_none (detAcc_bad h (by rw [acc_cell hc hb hk]; exact h0) ?_) (by have := (colsL_at hc hb).1; omega)
  rw [hk, Nat.add_sub_cancel, mnB_less h6 hS hc hb hk hr]
  exact h1
theorem acc_add (h6 : n ≤ 6) (hS : S < 64) (hr : k + 1 ≤ rows.length) (hc : c < n) (hb : S.testBit c = true) (hk : (colsL n S).length = k + 1) (h : accD n xs rows S (colsL c S).length = some s) (h0 : xs.getD (rows.getD (rows.length - (k + 1)) 0 * n + c) 0 ≠ 0) (h1 : setD n xs rows (lessS S c) ≠ badN) :
    accD n xs rows S (colsL (c + 1) S).length = some (s + sg (colsL c S).length * xs.getD (rows.getD (rows.length - (k + 1)) 0 * n + c) 0 * setD n xs rows (lessS S c)) := by
  have e : mnB ((colsL n S).length - 1) (rowsD xs n rows (colsL n S)) (colsL c S).length = setD n xs rows (lessS S c) := by rw [hk, Nat.add_sub_cancel, mnB_less h6 hS hc hb hk hr]
  have := detAcc_add h (by show (rowsD xs n rows (colsL n S)).getD _ 0 ≠ 0; rw [acc_cell hc hb hk]; exact h0) (by rw [e]; exact h1)
  rw [acc_cell hc hb hk, e] at this
  rw [colsL_in hb]
  exact this
end
theorem rowsD_nums {n k : Nat} {xs : List Int} {rows cs : List Nat} (nx : nums xs = true) (hc : cs.length = k + 1) (j : Nat) (hj : j < k + 1) : NumP ((rowsD xs n rows cs).getD j 0) := by
  rw [setD_first hc j hj]
  obtain ⟨p, hp⟩ : ∃ p, rows.getD (rows.length - (k + 1)) 0 * n + cs.getD j 0 = p := ⟨_, rfl⟩
  rw [hp]
  rcases Nat.lt_or_ge p xs.length with h1 | h1
  · exact nums_at nx h1
  · rw [List.getD, List.getElem?_eq_none h1]; exact ⟨by decide, by decide⟩
theorem acc_bd {n S k p : Nat} {xs : List Int} {rows : List Nat} {s : Int} (nx : nums xs = true) (hk : (colsL n S).length = k + 1) (hp : p ≤ k + 1) (h : accD n xs rows S p = some s) : -((p : Int) * 160000000000000000) ≤ s ∧ s ≤ (p : Int) * 160000000000000000 :=
  detAcc_bd (fun j hj => rowsD_nums nx hk j (by omega)) (fun j _ => detB_or _ _) h
theorem cols_card : ∀ n, n ≤ 6 → ∀ S, S < 2 ^ n → (colsL 6 S).length = (colsL n S).length := by decide +kernel
theorem pow_64 : ∀ n, n ≤ 6 → 2 ^ n ≤ 64 := by decide
end Go.Proofs.Ytpelnfenfeoeeaa
end

section
/-
  Chapter 6, in the program: the determinants' block is made.
-/
namespace Go.Proofs.Ytpelnfenfeoeeaa
set_option maxRecDepth 100000
open Go.RowKit Go.Maps
def MnNewR (R n N m : Nat) (a : Option Addr) (w : World) (e : Ending) (w' : World) : Prop := ∃ px bm V, e = .returned (.pointer (some ⟨px, 0, none⟩)) ∧ w.heap.size ≤ px ∧ w.heap.size ≤ bm ∧ Blk5 w' px 114 (.int .i64 R) (.int .i64 n) (.slice a N m) V (.map (some bm)) ∧ w'.ownsRow w.heap.size 3 1 V (List.range R).length ((List.range R).map fun (r : Nat) => Value.int .i64 (r : Int)) ∧ Mp w' bm 0 (.map []) ∧ Below w.heap.size w w'
set_option maxHeartbeats 1000000 in
theorem iMinorsOf (R n N m : Nat) (a : Option Addr) (w : World) (h6 : R ≤ 6) : Calls Try.prog 75 #[.agg #[.int .i64 R, .int .i64 n, .slice a N m]] w (MnNewR R n N m a w) := by
  have hmm := @run_makeMap Try.prog
  have FC : Hid (∀ w', Calls Try.prog 99 #[.int .i64 R] w' fun e w2 => e = .returned (.int .u64 ((2 ^ R - 1 : Nat) : Int)) ∧ w2 = w') := fun w' => iFirst R h6 w'
  have P64 : 2 ^ R - 1 < 64 := by have := pow_64 R h6; have := Nat.two_pow_pos R; omega
  have FU : Hid (colsL R (2 ^ R - 1) = List.range R) := colsL_full R h6
  obtain ⟨F, hF⟩ : ∃ F, 2 ^ R - 1 = F := ⟨_, rfl⟩
  rw [hF] at FC P64 FU
  clear hF
  go_enter Try.func75, Try.ntmps75
  go_wp2_with fail
  obtain ⟨W, hW⟩ : ∃ W, ((w.alloc (.cells #[.int .i64 R, .int .i64 n, .slice a N m] 26)).alloc (.map #[] 0)).alloc (.cells #[.int .i64 R, .int .i64 n, .slice a N m, .slice none 0 0, .map (some (w.heap.size + 1))] 114) = W := ⟨_, rfl⟩
  have B5 : Hid (Blk5 W (w.heap.size + 1 + 1) 114 (.int .i64 R) (.int .i64 n) (.slice a N m) (.slice none 0 0) (.map (some (w.heap.size + 1)))) := by
    show Blk5 W _ _ _ _ _ _ _
    rw [← hW]
    exact Blk5.at_ _ _ _ _ _ _ (by simp)
  have KW : Hid (Blk3 W w.heap.size 26 (.int .i64 R) (.int .i64 n) (.slice a N m)) := by
    show Blk3 W _ _ _ _ _
    rw [← hW]
    exact ((Blk3.at_ _ _ _ _ rfl).old _).old _
  have MM : Hid (Mp W (w.heap.size + 1) 0 (.map [])) := by
    show Mp W (w.heap.size + 1) 0 (.map [])
    have := Mp.made (w.alloc (.cells #[.int .i64 R, .int .i64 n, .slice a N m] 26))
    have h2 := this.kept (World.grownBy_alloc _ (.cells #[.int .i64 R, .int .i64 n, .slice a N m, .slice none 0 0, .map (some (w.heap.size + 1))] 114) none) (by simp)
    rw [hW] at h2
    simpa using h2
  have BW : Hid (Below w.heap.size w W) := by
    show Below w.heap.size w W
    rw [← hW]
    exact (((Below.refl _ _).alloc (Nat.le_refl _) _).alloc (by simp) _).alloc (by simp <;> omega) _
  rw [hW]
  clear hW
  obtain ⟨p0, p1, p2, -, -, -⟩ := KW.out.all
  go_wp2_with fail
  refine (FC.out _).mono ?_
  rintro e w2 ⟨rfl, hw2⟩
  rw [hw2]
  clear hw2 p0 p1 p2
  go_wp2_with fail
  refine (iTake R n N m a F (w.heap.size + 1 + 1) (w.heap.size + 1) 0 w.heap.size 0 (.map []) (.slice none 0 0) [] W h6 P64 B5.out (World.ownsRow_nil _ _ _ _) MM.out BW.out.size).mono ?_
  rintro e w' ⟨rfl, V, h5, ho, hn, hm, hf⟩
  rw [FU.out] at ho
  have H : Hid (Below w.heap.size w w') := BW.out.trans (hf.below (fun k hk => by rcases hk with h | h | h; omega; omega; cases h) BW.out.size)
  have R : MnNewR R n N m a w (.returned (.pointer (some ⟨w.heap.size + 1 + 1, 0, none⟩))) w' := ⟨_, _, V, rfl, by omega, by omega, h5, ho, hm, H.out⟩
  clear h5 ho hn hm hf
  have RR := Lib.hid R
  clear R
  go_wp2_with fail
  go_ret
  exact RR.out
end Go.Proofs.Ytpelnfenfeoeeaa
end

section
/-
  Chapter 3, in the program: IsMatrix.
-/
namespace Go.Proofs.Ytpelnfenfeoeeaa
open Go.RowKit
theorem iSize_t (n : Int) (w : World) (h1 : 0 ≤ n) (h2 : n ≤ 24) :
    Calls Try.prog 112 #[.int .i64 n] w fun e w' => e = .returned (.bool true) ∧ w = w' := by
  go_enter Try.func112, Try.ntmps112
  go_wp2
  go_ret
  exact ⟨rfl, rfl⟩
theorem iSize_f (n : Int) (w : World) (h : n < 0 ∨ 24 < n) :
    Calls Try.prog 112 #[.int .i64 n] w fun e w' => e = .returned (.bool false) ∧ w = w' := by
  by_cases h1 : 0 ≤ n
  · have h2 : decide (n ≤ 24) = false := by simp; omega
    go_enter Try.func112, Try.ntmps112
    go_wp2
    go_ret
    exact ⟨rfl, rfl⟩
  · go_enter Try.func112, Try.ntmps112
    go_wp2
    go_ret
    exact ⟨rfl, rfl⟩
theorem iIsNum (n : Int) (w : World) :
    Calls Try.prog 114 #[.int .i64 n] w fun e w' => e = .returned (.bool (decide (NumP n))) ∧ w = w' := by
  by_cases h : NumP n
  · rw [decide_eq_true h]; exact iIsNum_t n w h.1 h.2
  · rw [decide_eq_false h]; exact iIsNum_f n w (by unfold NumP at h; omega)
theorem iStep (b : Bool) (i j z : Int) (w : World) :
    Calls Try.prog 113 #[.bool b, .int .i64 i, .int .i64 j, .int .i64 z] w fun e w' => e = .returned (.bool (b && decide (NumP z))) ∧ w = w' := by
  cases b
  · go_enter Try.func113, Try.ntmps113
    go_wp2_with fail
    go_ret
    exact ⟨rfl, rfl⟩
  · go_enter Try.func113, Try.ntmps113
    go_wp2_with fail
    refine (iIsNum z _).mono ?_
    rintro e w' ⟨rfl, rfl⟩
    go_wp2_with fail
    go_ret
    exact ⟨rfl, rfl⟩
theorem take_nums (zs : List Int) (k : Nat) (hk : k < zs.length) : nums (zs.take (k + 1)) = (nums (zs.take k) && decide (NumP (zs.getD k 0))) := by
  unfold nums
  rw [List.take_succ_eq_append_getElem hk, List.all_append]
  simp only [List.all_cons, List.all_nil, Bool.and_true, List.getD, List.getElem?_eq_getElem hk, Option.getD_some]
set_option maxHeartbeats 400000 in
theorem iFoldB (r c : Int) (a : Option Addr) (cap : Nat) (zs : List Int) (w : World) (h : Rd w a zs) (hn : zs.length ≤ 16777216) (hc : zs.length = 0 ∨ 0 < c) :
    Calls Try.prog 66 #[.agg #[.int .i64 r, .int .i64 c, .slice a zs.length cap], .bool true, .func (.func 113) #[] #[]] w (Gives (.bool (nums zs)) w) := by
  have B0 : ∀ o, Below w.heap.size w (w.alloc o) := fun o => (Below.refl _ _).alloc (Nat.le_refl _) o
  have BH := Lib.hid B0
  have H := Lib.hid h
  obtain ⟨n, hnn⟩ : ∃ n, zs.length = n := ⟨_, rfl⟩
  have HN := Lib.hid hnn
  rw [hnn] at hn hc ⊢
  clear h B0 hnn
  go_enter Try.func66, Try.ntmps66
  go_wp2_with fail
  go_loopw [7, 8, 9, 14] (fun b _ _ i wr => ∃ k : Nat, i = .int .i64 k ∧ k ≤ n ∧ b = .bool (nums (zs.take k)) ∧ ∃ q, wr = (w.alloc (.cells #[.int .i64 r, .int .i64 c, .slice a n cap] 26)).drewN q) (fun _ _ _ i _ => n - (intOf i).toNat)
  case atStart => exact ⟨0, rfl, by omega, rfl, 0, rfl⟩
  case round =>
    obtain ⟨k, rfl, hk, rfl, q, rfl⟩ := hrel
    by_cases hlt : k < n
    · have c0 : (c == 0) = false := by simp; omega
      obtain ⟨b, o, rfl, hcell⟩ := (H.out.below (BH.out (.cells #[.int .i64 r, .int .i64 c, .slice a n cap] 26))) k (by rw [HN.out]; exact hlt)
      obtain ⟨z, hz⟩ : ∃ z, zs.getD k 0 = z := ⟨_, rfl⟩
      obtain ⟨bb, hbb⟩ : ∃ bb, nums (zs.take k) = bb := ⟨_, rfl⟩
      rw [hz] at hcell
      have Z := Lib.hid hz
      have BB := Lib.hid hbb
      rw [hbb]
      clear hz hbb
      go_wp2_with fail
      go_quiet ((refine (iStep _ _ _ _ _).mono ?_; rintro e w' ⟨rfl, rfl⟩; exact ⟨rfl, _, rfl⟩))
      go_wp2_with fail
      go_roundw
      case rel => exact ⟨k + 1, by go_num, by omega, by rw [take_nums zs k (by rw [HN.out]; exact hlt), BB.out, Z.out], _, rfl⟩
      case measure => simp [intOf]; omega
    · have hkn : k = n := by omega
      subst hkn
      have E : Hid (nums (zs.take k) = nums zs) := by show nums (zs.take k) = nums zs; rw [← HN.out, List.take_length]
      go_wp2_with fail
      go_ret
      exact ⟨by rw [E.out]; rfl, below_drewN (BH.out _) q⟩
set_option maxHeartbeats 400000 in
theorem iIsMat (r c : Int) (a : Option Addr) (cap : Nat) (zs : List Int) (w : World) (h : Rd w a zs) (hn : zs.length ≤ 16777216) :
    Calls Try.prog 58 #[.agg #[.int .i64 r, .int .i64 c, .slice a zs.length cap]] w (Gives (.bool (isMat r c zs)) w) := by
  have B0 : ∀ o, Below w.heap.size w (w.alloc o) := fun o => (Below.refl _ _).alloc (Nat.le_refl _) o
  have BH := Lib.hid B0
  have H := Lib.hid h
  clear h B0
  obtain ⟨n, hnn⟩ : ∃ n, zs.length = n := ⟨_, rfl⟩
  have HN := Lib.hid hnn
  have ED : isMat r c zs = (decide (SizeP r) && decide (SizeP c) && decide ((n : Int) = r * c) && nums zs) := by unfold isMat; rw [hnn]
  have E := Lib.hid ED
  rw [hnn] at hn ⊢
  clear hnn ED
  by_cases hr : 0 ≤ r ∧ r ≤ 24
  · by_cases hc : 0 ≤ c ∧ c ≤ 24
    · obtain ⟨m1, m2⟩ := mul_size r c hr hc
      by_cases hl : (n : Int) = r * c
      · have l1 : ((n : Int) != r * c) = false := by simpa using hl
        have l2 : ((n : Int) == r * c) = true := by simpa using hl
        have E2 : Hid (isMat r c zs = nums zs) := by
          show isMat r c zs = nums zs
          rw [E.out, show decide (SizeP r) = true from decide_eq_true hr, show decide (SizeP c) = true from decide_eq_true hc, show decide ((n : Int) = r * c) = true from decide_eq_true hl]; rfl
        have hz : zs.length = 0 ∨ 0 < c := by
          rw [HN.out]
          rcases Nat.eq_zero_or_pos n with e | e
          · exact .inl e
          · right
            rcases Int.lt_or_lt_of_ne (a := c) (b := 0) (fun e0 => by rw [e0, Int.mul_zero] at hl; omega) with h | h <;> omega
        have HZ := Lib.hid hz
        clear hl hz
        obtain ⟨r1, r2⟩ := hr
        obtain ⟨c1, c2⟩ := hc
        go_enter Try.func58, Try.ntmps58
        go_wp2_with (go_at_call 112; refine (iSize_t _ _ (by omega) (by omega)).mono ?_; rintro e w' ⟨rfl, rfl⟩)
        have ST := iFoldB r c a cap zs _ (H.out.below (BH.out (.cells #[.int .i64 r, .int .i64 c, .slice a n cap] 26))) (by rw [HN.out]; exact hn) HZ.out
        rw [HN.out] at ST
        refine ST.mono ?_
        clear ST
        rintro e w' ⟨rfl, hb⟩
        have HB := Lib.hid ((BH.out _).trans (hb.mono (BH.out (.cells #[.int .i64 r, .int .i64 c, .slice a n cap] 26)).size))
        clear hb
        go_wp2_with fail
        go_ret
        exact ⟨by rw [E2.out]; rfl, HB.out⟩
      · have l1 : ((n : Int) != r * c) = true := by simpa using hl
        have l2 : ((n : Int) == r * c) = false := by simpa using hl
        have E2 : Hid (isMat r c zs = false) := by
          show isMat r c zs = false
          rw [E.out, show decide ((n : Int) = r * c) = false from decide_eq_false hl]; simp
        clear hl
        obtain ⟨r1, r2⟩ := hr
        obtain ⟨c1, c2⟩ := hc
        go_enter Try.func58, Try.ntmps58
        go_wp2_with (go_at_call 112; refine (iSize_t _ _ (by omega) (by omega)).mono ?_; rintro e w' ⟨rfl, rfl⟩)
        go_ret
        exact ⟨by rw [E2.out]; rfl, BH.out _⟩
    · have E2 : Hid (isMat r c zs = false) := by
        show isMat r c zs = false
        rw [E.out, show decide (SizeP c) = false from decide_eq_false hc]; simp
      have hc' : c < 0 ∨ 24 < c := by omega
      clear hc
      go_enter Try.func58, Try.ntmps58
      go_wp2_with fail
      refine (iSize_t r _ hr.1 hr.2).mono ?_
      rintro e w' ⟨rfl, rfl⟩
      go_wp2_with fail
      refine (iSize_f c _ hc').mono ?_
      rintro e w' ⟨rfl, rfl⟩
      go_wp2_with fail
      go_ret
      exact ⟨by rw [E2.out]; rfl, BH.out _⟩
  · have E2 : Hid (isMat r c zs = false) := by
      show isMat r c zs = false
      rw [E.out, show decide (SizeP r) = false from decide_eq_false hr]; simp
    have hr' : r < 0 ∨ 24 < r := by omega
    clear hr
    go_enter Try.func58, Try.ntmps58
    go_wp2_with fail
    refine (iSize_f r _ hr').mono ?_
    rintro e w' ⟨rfl, rfl⟩
    go_wp2_with fail
    go_ret
    exact ⟨by rw [E2.out]; rfl, BH.out _⟩
end Go.Proofs.Ytpelnfenfeoeeaa
end
