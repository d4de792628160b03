/-
  Chapter 3, in the program: RowOf.
-/
import Derived.Test.YtbdofgkcedpamaaCopyI
import Derived.Test.YtbdofgkcedpamaaDoneI
import Derived.Test.YtbdofgkcedpamaaMulMath
import Derived.Test.YtbdofgkcedpamaaMem
import Derived.Test.YtbdofgkcedpamaaMatS10
import Derived.Test.YtbdofgkcedpamaaRwI
namespace Go.Proofs.Ytbdofgkcedpamaa
set_option maxRecDepth 100000
open Go.RowKit

set_option maxHeartbeats 1000000 in
theorem iRow_t (R C r : Nat) (g o m : Nat) (xs : List Int) (w : World) (h : Rd w (some ⟨g, o, none⟩) xs) (hn : xs.length ≤ 16777216) (hm : isMat R C xs = true) (hr : r < R) (hcap : xs.length ≤ m) :
    Calls Try.prog 38 #[.agg #[.int .i64 R, .int .i64 C, .slice (some ⟨g, o, none⟩) xs.length m], .int .i64 r] w (fun e w' => ∃ v, e = .returned (.tuple #[v, .bool true]) ∧ Own w.heap.size w' v ((xs.drop (r * C)).take C) ∧ Below w.heap.size w w') := by
  obtain ⟨⟨r1, r2⟩, ⟨c1, c2⟩, l1, -⟩ := isMat_says hm
  rw [← Int.natCast_mul] at l1
  have hl1 : xs.length = R * C := by omega
  have q1 : r * C + C ≤ R * C := by
    rw [← Nat.succ_mul]; exact Nat.mul_le_mul_right _ hr
  have q2 : R * C ≤ 24 * 24 := Nat.mul_le_mul (by omega) (by omega)
  have hd : ((xs.drop (r * C)).take C).length = C := by simp; omega
  obtain ⟨D, hD⟩ : ∃ D, r * C = D := ⟨_, rfl⟩
  have RI : Hid (∀ w', Calls Try.prog 52 #[.agg #[.int .i64 R, .int .i64 C, .slice (some ⟨g, o, none⟩) xs.length m], .int .i64 r] w' (RowAt (some ⟨g, o, none⟩) D C w')) := fun w' => iRowIn R C r D xs.length m _ w' (.inr ⟨g, o, rfl⟩) hD (by omega) hcap (fun h => by cases h) (by omega) (by omega)
  have u1 : (r : Int) * (C : Int) = (D : Int) := by rw [← hD]; exact (Int.natCast_mul _ _).symm
  have u2 : ((r : Int) + 1) * (C : Int) = ((D + C : Nat) : Int) := by rw [Int.add_mul, Int.one_mul, u1]; rfl
  have v1 : IntKind.i64.wrap ((r : Int) * (C : Int)) = (D : Int) := by rw [u1]; exact IntWalk.i64_in _ (by omega)
  have v2 : IntKind.i64.wrap (((r : Int) + 1) * (C : Int)) = ((D + C : Nat) : Int) := by rw [u2]; exact IntWalk.i64_in _ (by omega)
  rw [hD] at hd q1 ⊢
  obtain ⟨ys, hys⟩ : ∃ l, (xs.drop D).take C = l := ⟨_, rfl⟩
  rw [hys] at hd ⊢
  have YS := Lib.hid hys
  have HL1 := Lib.hid hl1
  have M := Lib.hid hm
  have HD := Lib.hid hd
  have Dm : D + C ≤ m := by omega
  have Dx : D + C ≤ xs.length := by omega
  have C24 : C ≤ 24 := by omega
  have D600 : D ≤ 600 := by omega
  clear l1 hl1 hm hd hD hys u1 u2 q1 q2
  have B0 : ∀ o1, Below w.heap.size w (w.alloc o1) := fun o1 => (Below.refl _ _).alloc (Nat.le_refl _) _
  have BH := Lib.hid B0
  have H := Lib.hid h
  clear B0 h
  go_enter Try.func38, Try.ntmps38
  go_wp2_with fail
  refine (iIsMat R C (some ⟨g, o, none⟩) m xs _ (H.out.below (BH.out (.cells #[.int .i64 R, .int .i64 C, .slice (some ⟨g, o, none⟩) xs.length m] 26))) hn).mono ?_
  rintro e w1 ⟨rfl, hb⟩
  have K0 : Hid (Blk3 w1 w.heap.size 26 (.int .i64 R) (.int .i64 C) (.slice (some ⟨g, o, none⟩) xs.length m)) := (Blk3.at_ _ _ _ _ rfl).keep hb (by simp)
  have B : Hid (Below w.heap.size w w1) := (BH.out _).trans (hb.mono (by simp))
  clear hb
  obtain ⟨c0, c1', c2', -, -, -⟩ := K0.out.all
  rw [M.out]
  have t1 : decide ((r : Int) < 0) = false := decide_eq_false (by omega)
  have t2 : decide ((R : Int) ≤ (r : Int)) = false := decide_eq_false (by omega)
  have RY : Hid (∀ w' q', Below w1.heap.size w1 w' → (∀ g' o' : Nat, some (⟨g, o, none⟩ : Addr) = some ⟨g', o', none⟩ → 0 < C → q' = some ⟨g', o' + D, none⟩) → Rd w' q' ys) := fun w' q' hb' hq' j hj => by
    rw [HD.out] at hj
    obtain rfl := hq' g o rfl (by omega)
    refine ⟨g, o + D, rfl, ?_⟩
    obtain ⟨b1, o1, e1, hc⟩ := ((H.out.below B.out).below hb') (D + j) (by omega)
    injection e1 with e1
    injection e1 with e1 e2
    subst e1 e2
    rw [← YS.out, cut_at xs D C j hj, ← hc, Nat.add_assoc]
  go_wp2_with fail
  refine (RI.out _).mono ?_
  rintro e w3 ⟨q1, m1, rfl, -, hq1, -, hb1⟩
  have R1 := Lib.hid (RY.out w3 q1 hb1 hq1)
  have B := Lib.hid (stepB B.out hb1)
  clear hb1 hq1 c0 c1' c2' RY
  go_wp2_with fail
  refine (iCloneN q1 m1 C ys HD.out w3 R1.out (by omega)).mono ?_
  rintro e w2 ⟨q, qc, rfl, own, hb⟩
  have OW := Lib.hid (own.le B.out.size)
  have B := Lib.hid (stepB B.out hb)
  clear own hb
  go_wp2_with fail
  exact bodyPost_ret (v := .tuple #[.slice q C qc, .bool true]) (by simp [results, Try.results38, go_sem]) rfl ⟨_, rfl, OW.out, B.out⟩

set_option maxHeartbeats 400000 in
theorem iRow (r c : Int) (g o m : Nat) (xs : List Int) (k : Int) (w : World) (h : Rd w (some ⟨g, o, none⟩) xs) (hn : xs.length ≤ 16777216) (hcap : xs.length ≤ m) :
    Calls Try.prog 38 #[.agg #[.int .i64 r, .int .i64 c, .slice (some ⟨g, o, none⟩) xs.length m], .int .i64 k] w (RowRes r c xs k w) := by
  by_cases hall : isMat r c xs = true ∧ 0 ≤ k ∧ k ≤ r - 1
  · obtain ⟨hm, hk1, hk2⟩ := hall
    obtain ⟨⟨r1, r2⟩, ⟨c1, c2⟩, -, -⟩ := isMat_says hm
    obtain ⟨R, rfl⟩ := Int.eq_ofNat_of_zero_le r1
    obtain ⟨C, rfl⟩ := Int.eq_ofNat_of_zero_le c1
    obtain ⟨K, rfl⟩ := Int.eq_ofNat_of_zero_le hk1
    have E1 : rowOk R C xs K = true := by unfold rowOk; rw [hm, decide_eq_true ⟨hk1, hk2⟩]; rfl
    have E2 : rowOf R C xs K = (xs.drop (K * C)).take C := by unfold rowOf; rw [hm, decide_eq_true ⟨hk1, hk2⟩]; rfl
    unfold RowRes
    rw [E1, E2]
    exact iRow_t R C K g o m xs w h hn hm (by omega) hcap
  · have E1 : Hid (rowOk r c xs k = false) := by
      show rowOk r c xs k = false
      unfold rowOk
      rcases Bool.eq_false_or_eq_true (isMat r c xs) with hm | hm
      · rw [hm, decide_eq_false (fun h => hall ⟨hm, h⟩)]; rfl
      · rw [hm]; rfl
    have E2 : Hid (rowOf r c xs k = []) := by
      show rowOf r c xs k = []
      have := E1.out
      unfold rowOk at this
      unfold rowOf
      rw [this]; rfl
    have HALL := Lib.hid hall
    clear hall
    have B0 : ∀ o1, Below w.heap.size w (w.alloc o1) := fun o1 => (Below.refl _ _).alloc (Nat.le_refl _) _
    have BH := Lib.hid B0
    have H := Lib.hid h
    clear B0 h
    go_enter Try.func38, Try.ntmps38
    go_wp2_with fail
    refine (iIsMat r c (some ⟨g, o, none⟩) m xs _ (H.out.below (BH.out (.cells #[.int .i64 r, .int .i64 c, .slice (some ⟨g, o, none⟩) xs.length m] 26))) hn).mono ?_
    rintro e w1 ⟨rfl, hb⟩
    have K0 : Hid (Blk3 w1 w.heap.size 26 (.int .i64 r) (.int .i64 c) (.slice (some ⟨g, o, none⟩) xs.length m)) := (Blk3.at_ _ _ _ _ rfl).keep hb (by simp)
    have B : Hid (Below w.heap.size w w1) := (BH.out _).trans (hb.mono (by simp))
    clear hb
    obtain ⟨c0, c1', c2', -, -, -⟩ := K0.out.all
    have F : RowRes r c xs k w (.returned (.tuple #[.slice none 0 0, .bool false])) w1 :=
      ⟨_, by rw [E1.out], by rw [E2.out]; exact .inl ⟨rfl, rfl⟩, B.out⟩
    have FH := Lib.hid F
    clear F
    rcases Bool.eq_false_or_eq_true (isMat r c xs) with hm | hm
    · have hk : k < 0 ∨ r ≤ k := by
        have := HALL.out
        by_cases h1 : 0 ≤ k
        · by_cases h2 : k ≤ r - 1
          · exact absurd ⟨hm, h1, h2⟩ this
          · omega
        · omega
      rw [hm]
      clear hm
      rcases Bool.eq_false_or_eq_true (decide (k < 0)) with t3 | t3
      · go_wp2_with fail
        exact bodyPost_ret (v := .tuple #[.slice none 0 0, .bool false]) (by simp [results, Try.results38, go_sem]) rfl FH.out
      · have t4 : decide (r ≤ k) = true := by simp; simp at t3; omega
        go_wp2_with fail
        exact bodyPost_ret (v := .tuple #[.slice none 0 0, .bool false]) (by simp [results, Try.results38, go_sem]) rfl FH.out
    · rw [hm]
      clear hm
      go_wp2_with fail
      exact bodyPost_ret (v := .tuple #[.slice none 0 0, .bool false]) (by simp [results, Try.results38, go_sem]) rfl FH.out
end Go.Proofs.Ytbdofgkcedpamaa
