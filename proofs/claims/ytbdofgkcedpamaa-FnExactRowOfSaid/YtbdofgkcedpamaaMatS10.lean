/-
  Chapter 3, in the model: RowOf.
-/
import Derived.Test.YtbdofgkcedpamaaMulMath
import Derived.Test.YtbdofgkcedpamaaMatS9
import Derived.Maps.AppendAt
import Derived.OwnWalk
import Derived.Test.YtbdofgkcedpamaaStp
namespace Go.Proofs.Ytbdofgkcedpamaa
set_option maxRecDepth 100000
open Go.RowKit

theorem cut_at (xs : List Int) (d n k : Nat) (hk : k < n) : ((xs.drop d).take n).getD k 0 = xs.getD (d + k) 0 := by
  simp [List.getD, hk]
theorem BH1 (w : World) (o1 : Obj) : Below w.heap.size w (w.alloc o1) := (Below.refl _ _).alloc (Nat.le_refl _) _

set_option maxHeartbeats 1000000 in
theorem sRow_t (R C r : Nat) (g o m : Nat) (xs : List Int) (w : World) (h : Rd w (some ⟨g, o, none⟩) xs) (hn : xs.length ≤ 16777216) (hm : isMat R C xs = true) (hr : r < R) (hcap : xs.length ≤ m) (hc16 : m ≤ 16777216) :
    Calls Try.prog 37 #[.agg #[.int .i64 R, .int .i64 C, .slice (some ⟨g, o, none⟩) xs.length m], .int .i64 r] w (fun e w' => ∃ v, e = .returned (.tuple #[v, .bool true]) ∧ Own w.heap.size w' v ((xs.drop (r * C)).take C) ∧ Below w.heap.size w w') := by
  obtain ⟨⟨r1, r2⟩, ⟨c1, c2⟩, l1, -⟩ := isMat_says hm
  rw [← Int.natCast_mul] at l1
  have hl1 : xs.length = R * C := by omega
  have q1 : r * C + C ≤ R * C := by
    rw [← Nat.succ_mul]; exact Nat.mul_le_mul_right _ hr
  have q2 : R * C ≤ 24 * 24 := Nat.mul_le_mul (by omega) (by omega)
  have hd : ((xs.drop (r * C)).take C).length = C := by simp; omega
  obtain ⟨D, hD⟩ : ∃ D, r * C = D := ⟨_, rfl⟩
  have u1 : (r : Int) * (C : Int) = (D : Int) := by rw [← hD]; exact (Int.natCast_mul _ _).symm
  have u2 : ((r : Int) + 1) * (C : Int) = ((D + C : Nat) : Int) := by rw [Int.add_mul, Int.one_mul, u1]; rfl
  have v1 : IntKind.i64.wrap ((r : Int) * (C : Int)) = (D : Int) := by rw [u1]; exact IntWalk.i64_in _ (by omega)
  have v2 : IntKind.i64.wrap (((r : Int) + 1) * (C : Int)) = ((D + C : Nat) : Int) := by rw [u2]; exact IntWalk.i64_in _ (by omega)
  rw [hD] at hd q1 ⊢
  obtain ⟨ys, hys⟩ : ∃ l, (xs.drop D).take C = l := ⟨_, rfl⟩
  rw [hys] at hd ⊢
  have YS := Lib.hid hys
  have HL1 := Lib.hid hl1
  have M := Lib.hid hm
  have HD := Lib.hid hd
  have Dm : D + C ≤ m := by omega
  have Dx : D + C ≤ xs.length := by omega
  have C24 : C ≤ 24 := by omega
  have D600 : D ≤ 600 := by omega
  clear l1 hl1 hm hd hD hys u1 u2 q1 q2
  have B0 : ∀ o1, Below w.heap.size w (w.alloc o1) := fun o1 => (Below.refl _ _).alloc (Nat.le_refl _) _
  have BH := Lib.hid B0
  have H := Lib.hid h
  clear B0 h
  go_enter Try.func37, Try.ntmps37
  go_wp2_with fail
  refine (sIsMat R C (some ⟨g, o, none⟩) m xs _ (H.out.below (BH.out (.cells #[.int .i64 R, .int .i64 C, .slice (some ⟨g, o, none⟩) xs.length m] 26))) hn).mono ?_
  rintro e w1 ⟨rfl, hb⟩
  have K0 : Hid (Blk3 w1 w.heap.size 26 (.int .i64 R) (.int .i64 C) (.slice (some ⟨g, o, none⟩) xs.length m)) := (Blk3.at_ _ _ _ _ rfl).keep hb (by simp)
  have B : Hid (Below w.heap.size w w1) := (BH.out _).trans (hb.mono (by simp))
  clear hb
  obtain ⟨c0, c1', c2', -, -, -⟩ := K0.out.all
  obtain ⟨d0, d1, d2, -, -, -⟩ := (K0.out.old (.cells #[] 3)).all
  rw [M.out]
  go_wp2_with fail
  refine (sIn_t r 0 ((R : Int) - 1) _ (by omega) (by omega)).mono ?_
  rintro e w2 ⟨rfl, rfl⟩
  obtain ⟨fi, hfi, hz0, hz1, hz2⟩ := facts_int
  have own0 : (w1.alloc (.cells #[] 3)).ownsRow w1.heap.size 3 1 (.slice (some ⟨w1.heap.size, 0, none⟩) 0 0) 0 [] :=
    ⟨rfl, .inr ⟨w1.heap.size, 0, #[], rfl, Nat.le_refl _, heap_alloc_new w1 _, Nat.le_refl _, by decide, rfl, rfl⟩⟩
  have news : ∀ (A : Addr), (D < m → A = ⟨g, o + D, none⟩) → ∀ (j : Nat) u, (ys.map (Value.int .i64))[j]? = some u → (w1.alloc (.cells #[] 3)).cell? (A.add j) = some u := by
    intro A hA j u hu
    obtain ⟨hj, rfl⟩ := news_ints _ j u hu
    rw [HD.out] at hj
    obtain ⟨b1, o1, e1, hc⟩ := H.out (D + j) (by omega)
    injection e1 with e1
    injection e1 with e1 e2
    subst e1 e2
    rw [← YS.out, cut_at xs D C j hj, hA (by omega)]
    have hw1 := (B.out.cell (World.block_lt_of_cell? w _ hc)).trans hc
    have := ((BH1 w1 (.cells #[] 3)).cell (World.block_lt_of_cell? w1 _ hw1)).trans hw1
    rw [← Nat.add_assoc] at this
    rw [show (⟨g, o + D, none⟩ : Addr).add j = ⟨g, o + D + j, none⟩ by simp only [Addr.add]; split <;> simp_all]
    exact this
  have n1 : ∀ u ∈ ys.map (Value.int .i64), u.oneCell' = true := by
    intro u hu
    obtain ⟨z, -, rfl⟩ := List.mem_map.mp hu
    rfl
  have ln : (ys.map (Value.int .i64)).length = C := by rw [List.length_map, HD.out]
  obtain ⟨NW, hNW⟩ : ∃ l, ys.map (Value.int .i64) = l := ⟨_, rfl⟩
  rw [hNW] at news n1 ln
  have EN := Lib.hid hNW
  have N1 := Lib.hid n1
  have LN := Lib.hid ln
  clear hNW n1 ln
  rcases Nat.lt_or_ge D m with hlt | hge
  · have NN := news ⟨g, o + D, none⟩ (fun _ => rfl)
    clear news
    go_wp2_with (at_builtin; refine wpList_append_own_at _ rfl _ _ 22 rfl w1.heap.size 3 fi (.int .i64 0) 1 8 underlying_ints hfi hz0 hz1 hz2 rfl (by decide) _ _ _ rfl own0 ⟨g, o + D, none⟩ C (m - D) NW ?hx ?hl ?hnews ?h1 ?h63 ?hbytes ?hbase ?hnext)
    case hx => show Value.slice _ (D + C - D) _ = _; rw [Nat.add_sub_cancel_left]
    case hl => rw [LN.out, Nat.mul_one]
    case hnews => exact NN
    case h1 => exact N1.out
    case h63 => simp [maxLen]; omega
    case hbytes => omega
    case hbase => simp
    case hnext =>
      rintro v' w4 ho hg - hb
      have B4 : Hid (Below w.heap.size w w4) := by
        have z := B.out.size
        exact Lib.hid ((B.out.alloc z _).trans (below_of_one hg z (by simp; omega)))
      have O4 : Hid (Own w.heap.size w4 v' ys) := by
        have z := B.out.size
        have e : ys.length = C := HD.out
        refine Lib.hid ((Own.of_row ?_ (by omega)).le z)
        rw [e, EN.out]
        simpa using ho
      clear ho hg hb
      go_wp2_with fail
      exact bodyPost_ret (v := .tuple #[v', .bool true]) (by simp [results, Try.results37, go_sem]) rfl ⟨_, rfl, O4.out, B4.out⟩
  · have NN := news ⟨g, o, none⟩ (fun h => absurd h (by omega))
    clear news
    obtain rfl : C = 0 := by omega
    obtain rfl : D = m := by omega
    go_wp2_with (at_builtin; refine wpList_append_own_at _ rfl _ _ 22 rfl w1.heap.size 3 fi (.int .i64 0) 1 8 underlying_ints hfi hz0 hz1 hz2 rfl (by decide) _ _ _ rfl own0 ⟨g, o, none⟩ 0 D NW ?hx ?hl ?hnews ?h1 ?h63 ?hbytes ?hbase ?hnext)
    case hx => rfl
    case hl => rw [LN.out, Nat.mul_one]
    case hnews => exact NN
    case h1 => exact N1.out
    case h63 => simp [maxLen]
    case hbytes => omega
    case hbase => simp
    case hnext =>
      rintro v' w4 ho hg - hb
      have B4 : Hid (Below w.heap.size w w4) := by
        have z := B.out.size
        exact Lib.hid ((B.out.alloc z _).trans (below_of_one hg z (by simp; omega)))
      have O4 : Hid (Own w.heap.size w4 v' ys) := by
        have z := B.out.size
        have e : ys.length = 0 := HD.out
        refine Lib.hid ((Own.of_row ?_ (by omega)).le z)
        rw [e, EN.out]
        simpa using ho
      clear ho hg hb
      go_wp2_with fail
      exact bodyPost_ret (v := .tuple #[v', .bool true]) (by simp [results, Try.results37, go_sem]) rfl ⟨_, rfl, O4.out, B4.out⟩

/-- A row of a matrix, and whether it is there. -/
def rowOf (r c : Int) (xs : List Int) (k : Int) : List Int := if (isMat r c xs && decide (0 ≤ k ∧ k ≤ r - 1)) = true then (xs.drop (k.toNat * c.toNat)).take c.toNat else []
def rowOk (r c : Int) (xs : List Int) (k : Int) : Bool := isMat r c xs && decide (0 ≤ k ∧ k ≤ r - 1)
def RowRes (r c : Int) (xs : List Int) (k : Int) (w : World) (e : Ending) (w' : World) : Prop :=
  ∃ v, e = .returned (.tuple #[v, .bool (rowOk r c xs k)]) ∧ Own w.heap.size w' v (rowOf r c xs k) ∧ Below w.heap.size w w'

set_option maxHeartbeats 400000 in
theorem sRow (r c : Int) (g o m : Nat) (xs : List Int) (k : Int) (w : World) (h : Rd w (some ⟨g, o, none⟩) xs) (hn : xs.length ≤ 16777216) (hcap : xs.length ≤ m) (hc16 : m ≤ 16777216) :
    Calls Try.prog 37 #[.agg #[.int .i64 r, .int .i64 c, .slice (some ⟨g, o, none⟩) xs.length m], .int .i64 k] w (RowRes r c xs k w) := by
  by_cases hall : isMat r c xs = true ∧ 0 ≤ k ∧ k ≤ r - 1
  · obtain ⟨hm, hk1, hk2⟩ := hall
    obtain ⟨⟨r1, r2⟩, ⟨c1, c2⟩, -, -⟩ := isMat_says hm
    obtain ⟨R, rfl⟩ := Int.eq_ofNat_of_zero_le r1
    obtain ⟨C, rfl⟩ := Int.eq_ofNat_of_zero_le c1
    obtain ⟨K, rfl⟩ := Int.eq_ofNat_of_zero_le hk1
    have E1 : rowOk R C xs K = true := by unfold rowOk; rw [hm, decide_eq_true ⟨hk1, hk2⟩]; rfl
    have E2 : rowOf R C xs K = (xs.drop (K * C)).take C := by unfold rowOf; rw [hm, decide_eq_true ⟨hk1, hk2⟩]; rfl
    unfold RowRes
    rw [E1, E2]
    exact sRow_t R C K g o m xs w h hn hm (by omega) hcap hc16
  · have E1 : Hid (rowOk r c xs k = false) := by
      show rowOk r c xs k = false
      unfold rowOk
      rcases Bool.eq_false_or_eq_true (isMat r c xs) with hm | hm
      · rw [hm, decide_eq_false (fun h => hall ⟨hm, h⟩)]; rfl
      · rw [hm]; rfl
    have E2 : Hid (rowOf r c xs k = []) := by
      show rowOf r c xs k = []
      have := E1.out
      unfold rowOk at this
      unfold rowOf
      rw [this]; rfl
    have HALL := Lib.hid hall
    clear hall
    have B0 : ∀ o1, Below w.heap.size w (w.alloc o1) := fun o1 => (Below.refl _ _).alloc (Nat.le_refl _) _
    have BH := Lib.hid B0
    have H := Lib.hid h
    clear B0 h
    have F : ∀ w1 : World, Below w.heap.size w w1 → RowRes r c xs k w (.returned (.tuple #[.slice (some ⟨w1.heap.size, 0, none⟩) 0 0, .bool false])) (w1.alloc (.cells #[] 3)) := fun w1 hb =>
      ⟨_, by rw [E1.out], by rw [E2.out]; exact .inr ⟨w1.heap.size, 0, rfl, hb.size, ⟨[], heap_alloc_new w1 _⟩, Nat.le_refl _, by simp⟩, hb.alloc hb.size _⟩
    have FH := Lib.hid F
    clear F
    go_enter Try.func37, Try.ntmps37
    go_wp2_with fail
    refine (sIsMat r c (some ⟨g, o, none⟩) m xs _ (H.out.below (BH.out (.cells #[.int .i64 r, .int .i64 c, .slice (some ⟨g, o, none⟩) xs.length m] 26))) hn).mono ?_
    rintro e w1 ⟨rfl, hb⟩
    have K0 : Hid (Blk3 w1 w.heap.size 26 (.int .i64 r) (.int .i64 c) (.slice (some ⟨g, o, none⟩) xs.length m)) := (Blk3.at_ _ _ _ _ rfl).keep hb (by simp)
    have B : Hid (Below w.heap.size w w1) := (BH.out _).trans (hb.mono (by simp))
    clear hb
    obtain ⟨c0, c1', c2', -, -, -⟩ := K0.out.all
    rcases Bool.eq_false_or_eq_true (isMat r c xs) with hm | hm
    · have hk : k < 0 ∨ r - 1 < k := by
        have := HALL.out
        by_cases h1 : 0 ≤ k
        · by_cases h2 : k ≤ r - 1
          · exact absurd ⟨hm, h1, h2⟩ this
          · omega
        · omega
      have s1 := (isMat_says hm).1
      obtain ⟨s11, s12⟩ := s1
      rw [hm]
      clear hm
      go_wp2_with fail
      refine (sIn_f k 0 (r - 1) _ hk).mono ?_
      rintro e w2 ⟨rfl, rfl⟩
      go_wp2_with fail
      exact bodyPost_ret (v := .tuple #[.slice (some ⟨w1.heap.size, 0, none⟩) 0 0, .bool false]) (by simp [results, Try.results37, go_sem]) rfl (FH.out w1 B.out)
    · rw [hm]
      clear hm
      go_wp2_with fail
      exact bodyPost_ret (v := .tuple #[.slice (some ⟨w1.heap.size, 0, none⟩) 0 0, .bool false]) (by simp [results, Try.results37, go_sem]) rfl (FH.out w1 B.out)
end Go.Proofs.Ytbdofgkcedpamaa
