/-
  Chapter 6, in the program: a matrix without a row and a column.
-/
import Derived.Test.YtdnajkoeojlnbaaHasI
import Derived.Test.YtdnajkoeojlnbaaCross
import Derived.Test.YtdnajkoeojlnbaaFoldM
import Derived.Test.YtdnajkoeojlnbaaRowsOwn
import Derived.Test.YtdnajkoeojlnbaaStp
import Derived.Maps.AppendAt
namespace Go.Proofs.Ytdnajkoeojlnbaa
set_option maxRecDepth 100000
open Go.RowKit

theorem own_blk {w w' : World} {B n b : Nat} {v : Value} {us : List Value} {p q r : Value} (h : w.ownsRow B 3 1 v n us) (h3 : Blk3 w b 27 p q r) (G : w.grownBy w' v.ownBlock) : Blk3 w' b 27 p q r := by
  refine (G.block b h3.lt fun e => ?_).trans h3
  rcases h.2 with ⟨rfl, -⟩ | ⟨g, cap, cur, rfl, -, hg, -⟩
  · cases e
  · injection e with e
    subst e
    unfold Blk3 at h3
    change w.heap[b]? = _ at hg
    rw [hg] at h3
    injection h3 with h3
    injection h3 with _ h3 _
    exact absurd h3 (by decide)
theorem iLeave (V : Value) (i j z row col : Int) (pr pc : Nat) (w : World) (hr : w.cell? ⟨pr, 0, none⟩ = some (.int .i64 row)) (hc : w.cell? ⟨pc, 0, none⟩ = some (.int .i64 col)) (h : i = row ∨ j = col) :
    Calls Try.prog 63 #[V, .int .i64 i, .int .i64 j, .int .i64 z, .pointer (some ⟨pr, 0, none⟩), .pointer (some ⟨pc, 0, none⟩)] w (fun e w' => e = .returned V ∧ w' = w) := by
  by_cases h1 : i = row
  · have n1 : (i == row) = true := by simpa using h1
    clear h h1
    go_enter Try.func63, Try.ntmps63
    go_wp2_with fail
    go_ret
    exact ⟨rfl, rfl⟩
  · have n1 : (i == row) = false := by simpa using h1
    have n2 : (j == col) = true := by simpa using h.resolve_left h1
    clear h h1
    go_enter Try.func63, Try.ntmps63
    go_wp2_with fail
    go_ret
    exact ⟨rfl, rfl⟩
theorem iPut (B n : Nat) (V : Value) (us : List Value) (i j z row col : Int) (pr pc : Nat) (w : World) (hr : w.cell? ⟨pr, 0, none⟩ = some (.int .i64 row)) (hc : w.cell? ⟨pc, 0, none⟩ = some (.int .i64 col)) (h1 : i ≠ row) (h2 : j ≠ col) (ho : w.ownsRow B 3 1 V n us) (hB : B ≤ w.heap.size) (hn : n ≤ 576) :
    Calls Try.prog 63 #[V, .int .i64 i, .int .i64 j, .int .i64 z, .pointer (some ⟨pr, 0, none⟩), .pointer (some ⟨pc, 0, none⟩)] w (fun e w' => ∃ V', e = .returned V' ∧ w'.ownsRow B 3 1 V' (n + 1) (us ++ [.int .i64 z]) ∧ Below B w w' ∧ w.grownBy w' V.ownBlock) := by
  have n1 : (i == row) = false := by simpa using h1
  have n2 : (j == col) = false := by simpa using h2
  obtain ⟨fi, hfi, hz0, hz1, hz2⟩ := facts_int
  have OA : Hid ((w.alloc (.cells #[.int .i64 z] 3)).ownsRow B 3 1 V n us) := ho.alloc _
  have HB := Lib.hid hB
  clear h1 h2 ho
  go_enter Try.func63, Try.ntmps63
  go_wp2_with (first
    | (at_builtin; refine wpList_append_own_at _ rfl _ _ 22 rfl B 3 fi (.int .i64 0) 1 8 underlying_ints hfi hz0 hz1 hz2 rfl (by decide) _ _ _ rfl OA.out ⟨w.heap.size, 0, none⟩ 1 1 [.int .i64 z] rfl rfl (cell_one_new _ _ _) (ints_oneCell .i64 [z]) (by unfold maxLen; omega) (by omega) (by simp; omega) ?_; intro v' w1 hown' hgrow hnil hloc; obtain ⟨va, vm, vc, rfl⟩ := rows_form hown')
    | fail)
  have BB : Below B w w1 := by
    have b1 : Below B w (w.alloc (.cells #[.int .i64 z] 3)) := (Below.refl B w).alloc HB.out _
    refine b1.trans ⟨hgrow.os, hgrow.tape, hgrow.output, hgrow.size, fun k hk => hgrow.block k (by simp; have := HB.out; omega) fun e => ?_⟩
    have := (OA.out.lt k e.symm).1
    omega
  go_ret
  exact ⟨_, rfl, hown', BB, (World.grownBy_alloc w _ _).trans hgrow⟩
set_option maxHeartbeats 1000000 in
theorem iFoldX (pr pc R C n B : Nat) (row col : Int) (a : Option Addr) (cap : Nat) (zs : List Int) (V0 : Value) (w : World) (hx : zs.length = n) (h : Rd w a zs) (hn : n = R * C) (hR : R ≤ 24) (hC : C ≤ 24) (ho : w.ownsRow B 3 1 V0 0 []) (hB : B ≤ w.heap.size)
    (hr : w.cell? ⟨pr, 0, none⟩ = some (.int .i64 row)) (hc : w.cell? ⟨pc, 0, none⟩ = some (.int .i64 col)) (hpr : pr < B) (hpc : pc < B) (hz : ∀ b o : Nat, a = some ⟨b, o, none⟩ → 0 < n → b < B) :
    Calls Try.prog 62 #[.agg #[.int .i64 R, .int .i64 C, .slice a n cap], V0, .func (.func 63) #[] #[.pointer (some ⟨pr, 0, none⟩), .pointer (some ⟨pc, 0, none⟩)]] w
      (fun e w' => ∃ V, e = .returned V ∧ w'.ownsRow B 3 1 V (woL C row col zs n).length ((woL C row col zs n).map (Value.int .i64)) ∧ Below B w w') := by
  have H := Lib.hid h
  have HZ := Lib.hid hz
  have hle : R * C ≤ 24 * 24 := Nat.mul_le_mul hR hC
  have HN := Lib.hid hx
  rw [← hn] at hle
  have HM := Lib.hid hn
  have HB := Lib.hid hB
  have B0 : Hid (Below B w (w.alloc (.cells #[.int .i64 R, .int .i64 C, .slice a n cap] 27))) := (Below.refl B w).alloc hB _
  have K0 : Hid (Blk3 (w.alloc (.cells #[.int .i64 R, .int .i64 C, .slice a n cap] 27)) w.heap.size 27 (.int .i64 R) (.int .i64 C) (.slice a n cap)) := Blk3.at_ _ _ _ _ rfl
  have O0 : Hid ((w.alloc (.cells #[.int .i64 R, .int .i64 C, .slice a n cap] 27)).ownsRow B 3 1 V0 0 []) := ho.alloc _
  have PR : Hid (∀ w', Below B w w' → w'.cell? ⟨pr, 0, none⟩ = some (.int .i64 row) ∧ w'.cell? ⟨pc, 0, none⟩ = some (.int .i64 col)) := fun w' hb => ⟨(hb.cell (p := ⟨pr, 0, none⟩) hpr).trans hr, (hb.cell (p := ⟨pc, 0, none⟩) hpc).trans hc⟩
  have lw : w.heap.size < (w.alloc (.cells #[.int .i64 R, .int .i64 C, .slice a n cap] 27)).heap.size := by simp
  clear h hz hx hn ho hB hr hc
  go_enter Try.func62, Try.ntmps62
  go_wp2_with fail
  generalize w.alloc (.cells #[.int .i64 R, .int .i64 C, .slice a n cap] 27) = W at B0 K0 O0 lw
  obtain ⟨c0, c1, c2, -, -, -⟩ := K0.out.all
  go_loopw [7, 8, 9, 14] (fun v _ _ i wr => ∃ k : Nat, i = .int .i64 k ∧ k ≤ n ∧ wr.ownsRow B 3 1 v (woL C row col zs k).length ((woL C row col zs k).map (Value.int .i64)) ∧ Below B w wr ∧ Blk3 wr w.heap.size 27 (.int .i64 R) (.int .i64 C) (.slice a n cap)) (fun _ _ _ i _ => n - (intOf i).toNat)
  case atStart => exact ⟨0, rfl, by omega, O0.out, B0.out, K0.out⟩
  case round =>
    obtain ⟨k, rfl, hk, ho, hb, hk3⟩ := hrel
    have O := Lib.hid ho
    have BB := Lib.hid hb
    have R0 := Lib.hid hk3
    have sw := hb.size
    clear c0 c1 c2 ho hb hk3
    obtain ⟨r0, r1, r2, -, -, -⟩ := R0.out.all
    by_cases hlt : k < n
    · have hC0 : 0 < C := by
        rcases Nat.eq_zero_or_pos C with e | e
        · have := HM.out; rw [e, Nat.mul_zero] at this; omega
        · exact e
      have cz : ((C : Int) == 0) = false := by simp; omega
      obtain ⟨b, o, rfl, hcell⟩ := H.out k (by rw [HN.out]; exact hlt)
      have hb2 : b < B := HZ.out b o rfl (by omega)
      have hcell := (BB.out.cell (p := ⟨b, o + k, none⟩) hb2).trans hcell
      have d1 : (k : Int) / (C : Int) = ((k / C : Nat) : Int) := (Int.natCast_ediv k C).symm
      have d2 : (k : Int) % (C : Int) = ((k % C : Nat) : Int) := (Int.natCast_emod k C).symm
      have d3 : k / C ≤ k := Nat.div_le_self k C
      have d4 : k % C ≤ k := Nat.mod_le k C
      have d5 : 0 ≤ (k : Int) / (C : Int) := by rw [d1]; exact Int.natCast_nonneg _
      have d6 : (k : Int) / (C : Int) ≤ 600 := by rw [d1]; exact Int.ofNat_le.mpr (show k / C ≤ 600 by omega)
      have c1 : ¬ C = 0 := by omega
      have w1 : IntKind.i64.wrap ((k : Int) / (C : Int)) = (k : Int) / (C : Int) := IntWalk.i64_in _ (by omega)
      have e2 : Int.tmod (k : Int) (C : Int) = (k : Int) % (C : Int) := Int.tmod_eq_emod_of_nonneg (by omega)
      have e3 : Int.tdiv (k : Int) (C : Int) = (k : Int) / (C : Int) := Int.tdiv_eq_ediv_of_nonneg (by omega)
      obtain ⟨z, hz⟩ : ∃ z, zs.getD k 0 = z := ⟨_, rfl⟩
      rw [hz] at hcell
      have LB : (woL C row col zs k).length ≤ 576 := Nat.le_trans (woL_length _ _ _ _ _) (by have := HM.out; omega)
      have WI : Hid ((k : Int) / (C : Int) ≠ row ∧ (k : Int) % (C : Int) ≠ col → woL C row col zs (k + 1) = woL C row col zs k ++ [z]) := fun h => by rw [d1, d2] at h; rw [← hz]; exact woL_in h
      have WO : Hid (¬ ((k : Int) / (C : Int) ≠ row ∧ (k : Int) % (C : Int) ≠ col) → woL C row col zs (k + 1) = woL C row col zs k) := fun h => by rw [d1, d2] at h; exact woL_out h
      clear hz d1 d2
      obtain ⟨pr1, pc1⟩ := PR.out _ BB.out.drew
      have hBw : B ≤ wr.heap.size := Nat.le_trans HB.out sw
      clear sw
      by_cases hin : (k : Int) / (C : Int) ≠ row ∧ (k : Int) % (C : Int) ≠ col
      · have E := Lib.hid (WI.out hin)
        obtain ⟨i1, i2⟩ := hin
        go_wp2_with fail
        go_still_tail 11, (by kernel_rfl)
        go_wp2_with fail
        refine (iPut B _ _ _ _ _ z row col pr pc _ pr1 pc1 i1 i2 (show wr.drew.ownsRow B 3 1 _ _ _ from O.out) hBw LB).mono ?_
        rintro e w2 ⟨V', rfl, ho2, hb2, hg2⟩
        have R2 : Hid (Blk3 w2 w.heap.size 27 (.int .i64 R) (.int .i64 C) (.slice (some ⟨b, o, none⟩) n cap)) := own_blk (w := wr.drew) O.out R0.out hg2
        have B2 : Hid (Below B w w2) := BB.out.drew.trans hb2
        have O2 : Hid (w2.ownsRow B 3 1 V' (woL C row col zs (k + 1)).length ((woL C row col zs (k + 1)).map (Value.int .i64))) := by
          show w2.ownsRow _ _ _ _ _ _
          rw [E.out, List.length_append, List.map_append]
          exact ho2
        clear ho2 hb2 hg2
        go_wp2_with fail
        go_roundw
        case rel => exact ⟨k + 1, by go_num, by omega, O2.out, B2.out, R2.out⟩
        case measure => simp [intOf]; omega
      · have E := Lib.hid (WO.out hin)
        have hin : (k : Int) / (C : Int) = row ∨ (k : Int) % (C : Int) = col := by omega
        go_wp2_with fail
        go_still_tail 11, (by kernel_rfl)
        go_wp2_with fail
        refine (iLeave _ _ _ z row col pr pc _ pr1 pc1 hin).mono ?_
        rintro e w2 ⟨rfl, rfl⟩
        go_wp2_with fail
        go_roundw
        case rel => exact ⟨k + 1, by go_num, by omega, by rw [E.out]; exact O.out, BB.out.drew, R0.out⟩
        case measure => simp [intOf]; omega
    · obtain rfl : k = n := by omega
      go_wp2_with fail
      go_ret
      exact ⟨_, rfl, O.out, BB.out⟩
end Go.Proofs.Ytdnajkoeojlnbaa
