/-
  Texts of this seat, joined: MatI12
-/
import Derived.Test.YtbdofgkcedpamaaPk13

section
/-
  Chapter 3, in the program: StackRows.
-/
namespace Go.Proofs.Ytbdofgkcedpamaa
set_option maxRecDepth 100000
open Go.RowKit

theorem iDone_t (r c : Int) (a : Option Addr) (cap n : Nat) (zs : List Int) (w : World) (hz : zs.length = n) (h : Rd w a zs) (hn : n ≤ 16777216) (hd : isMat r c zs = true) :
    Calls Try.prog 65 #[.agg #[.int .i64 r, .int .i64 c, .slice a n cap]] w (Gives (.tuple #[.agg #[.int .i64 r, .int .i64 c, .slice a n cap], .bool true]) w) := by
  subst hz
  have := iDone r c a cap zs w h hn
  rw [hd] at this
  exact this
theorem iDone_f (r c : Int) (a : Option Addr) (cap n : Nat) (zs : List Int) (w : World) (hz : zs.length = n) (h : Rd w a zs) (hn : n ≤ 16777216) (hd : isMat r c zs = false) :
    Calls Try.prog 65 #[.agg #[.int .i64 r, .int .i64 c, .slice a n cap]] w (Gives (.tuple #[.agg #[.int .i64 0, .int .i64 0, .slice none 0 0], .bool false]) w) := by
  subst hz
  have := iDone r c a cap zs w h hn
  rw [hd] at this
  exact this
theorem nums_append (xs ys : List Int) : nums (xs ++ ys) = (nums xs && nums ys) := by unfold nums; rw [List.all_append]
theorem stack_valid {R R' C : Nat} {xs ys : List Int} (hm : isMat R C xs = true) (hm' : isMat R' C ys = true) : isMat ((R : Int) + (R' : Int)) C (xs ++ ys) = decide ((R : Int) + (R' : Int) ≤ 24) := by
  obtain ⟨⟨r1, r2⟩, ⟨c1, c2⟩, l1, n1⟩ := isMat_says hm
  obtain ⟨⟨r3, r4⟩, -, l2, n2⟩ := isMat_says hm'
  unfold isMat
  rw [nums_append, n1, n2, decide_eq_true (show SizeP (C : Int) from ⟨c1, c2⟩), decide_eq_true (show (((xs ++ ys).length : Nat) : Int) = ((R : Int) + (R' : Int)) * (C : Int) by rw [List.length_append, Int.add_mul, ← l1, ← l2]; rfl)]
  by_cases e : (R : Int) + (R' : Int) ≤ 24
  · rw [decide_eq_true e, decide_eq_true (show SizeP ((R : Int) + (R' : Int)) from ⟨by omega, e⟩)]; rfl
  · rw [decide_eq_false e, decide_eq_false (fun h : SizeP ((R : Int) + (R' : Int)) => e h.2)]; rfl
set_option maxHeartbeats 1000000 in
theorem iStack_t (R R' C m n : Nat) (qa qb : Option Addr) (xs ys : List Int) (w : World) (h : Rd w qa xs) (h' : Rd w qb ys) (sa : Spot qa) (sb : Spot qb) (za : qa = none → m = 0) (zb : qb = none → n = 0) (hm : isMat R C xs = true) (hm' : isMat R' C ys = true) :
    Calls Try.prog 36 #[.agg #[.int .i64 R, .int .i64 C, .slice qa xs.length m], .agg #[.int .i64 R', .int .i64 C, .slice qb ys.length n]] w (MatRes (MR.done ((R : Int) + (R' : Int)) C (xs ++ ys)) w) := by
  obtain ⟨⟨r1, r2⟩, ⟨c1, c2⟩, l1, nx⟩ := isMat_says hm
  obtain ⟨⟨r3, r4⟩, -, l2, ny⟩ := isMat_says hm'
  rw [← Int.natCast_mul] at l1 l2
  have q1 : R * C ≤ 24 * 24 := Nat.mul_le_mul (by omega) (by omega)
  have q2 : R' * C ≤ 24 * 24 := Nat.mul_le_mul (by omega) (by omega)
  obtain ⟨na, hx⟩ : ∃ n, xs.length = n := ⟨_, rfl⟩
  obtain ⟨nb, hy⟩ : ∃ n, ys.length = n := ⟨_, rfl⟩
  have la : na ≤ 576 := by omega
  have lb : nb ≤ 576 := by omega
  have HX := Lib.hid hx
  have HY := Lib.hid hy
  have M := Lib.hid hm
  have M' := Lib.hid hm'
  rw [hx, hy]
  have B0 : ∀ o1 o2 o3, Below w.heap.size w (((w.alloc o1).alloc o2).alloc o3) := fun o1 o2 o3 => (((Below.refl _ _).alloc (Nat.le_refl _) _).alloc (by simp) _).alloc (by simp <;> omega) _
  have BH := Lib.hid B0
  have H := Lib.hid h
  have H' := Lib.hid h'
  have t3 : IntKind.i64.wrap ((R : Int) + (R' : Int)) = (R : Int) + (R' : Int) := IntWalk.i64_in _ (by omega)
  clear c1 c2 l1 l2 nx ny hm hm' hx hy h h' B0 q1 q2
  go_enter Try.func36, Try.ntmps36
  go_wp2_with fail
  have ST := iIsMat R C qa m xs _ (H.out.below (BH.out (.cells #[.int .i64 R, .int .i64 C, .slice qa na m] 26) (.cells #[.int .i64 R', .int .i64 C, .slice qb nb n] 26) (.cells #[.int .i64 0, .int .i64 0, .slice none 0 0] 26))) (by rw [HX.out]; omega)
  rw [HX.out] at ST
  refine ST.mono ?_
  clear ST
  rintro e w1 ⟨rfl, hb⟩
  have K0 : Hid (Blk3 w1 w.heap.size 26 (.int .i64 R) (.int .i64 C) (.slice qa na m)) := (((Blk3.at_ _ _ _ _ rfl).old _).old _).keep hb (by simp <;> omega)
  have K1 : Hid (Blk3 w1 (w.heap.size + 1) 26 (.int .i64 R') (.int .i64 C) (.slice qb nb n)) := ((Blk3.at_ _ _ _ _ (by simp)).old _).keep hb (by simp <;> omega)
  have K2 : Hid (Blk3 w1 (w.heap.size + 1 + 1) 26 (.int .i64 0) (.int .i64 0) (.slice none 0 0)) := (Blk3.at_ _ _ _ _ (by simp)).keep hb (by simp)
  have B : Hid (Below w.heap.size w w1) := (BH.out _ _ _).trans (hb.mono (by simp <;> omega))
  clear hb
  obtain ⟨c0, c1, c2, -, -, -⟩ := K0.out.all
  obtain ⟨d0, d1, d2, -, -, -⟩ := K1.out.all
  rw [M.out]
  go_wp2_with fail
  have ST := iIsMat R' C qb n ys _ (H'.out.below B.out) (by rw [HY.out]; omega)
  rw [HY.out] at ST
  refine ST.mono ?_
  clear ST
  rintro e w2 ⟨rfl, hb⟩
  have K0 := Lib.hid (K0.out.step hb)
  have K1 := Lib.hid (K1.out.step hb)
  have K2 := Lib.hid (K2.out.step hb)
  have B := Lib.hid (stepB B.out hb)
  clear hb
  obtain ⟨e0, e1, e2, -, -, -⟩ := K0.out.all
  obtain ⟨g0, g1, g2, -, -, -⟩ := K1.out.all
  rw [M'.out]
  go_upto_region 3 with fail
  rcases Bool.eq_false_or_eq_true (isMat ((R : Int) + (R' : Int)) C (xs ++ ys)) with hd | hd
  · have E : Hid (MR.done ((R : Int) + (R' : Int)) C (xs ++ ys) = ⟨true, (R : Int) + (R' : Int), C, xs ++ ys⟩) := by show MR.done _ _ _ = _; unfold MR.done; rw [hd]; rfl
    have HD := Lib.hid hd
    clear hd
    refine wp_region_held_drew (S := fun w' => w2.grownBy w' (some (w.heap.size + 1 + 1))) (by kernel_rfl) (grown_drew_one (World.grownBy.refl _ _)) (fun hH => ?_)
    refine wpAnyH_take (i := 0) (v := ?_) (by simp only [List.getElem?_toArray, List.getElem?_cons_zero]; rfl) (by kernel_rfl) (by kernel_rfl) (by kernel_rfl) (by exact fun _ _ _ h => h) (Or.inl ⟨by rfl, ?_⟩) hH ?_
    rotate_left
    · (intro wS hS; clear hS; go_simp; try rfl)
    try simp only [Act.put, List.setIfInBounds_toArray, List.set_cons_zero, List.set_cons_succ]
    refine wpAnyH_take (i := 1) (v := ?_) (by simp only [List.getElem?_toArray, List.getElem?_cons_succ, List.getElem?_cons_zero]; rfl) (by kernel_rfl) (by kernel_rfl) (by kernel_rfl) (by exact fun _ _ _ h => h) (Or.inl ⟨by rfl, ?_⟩) hH ?_
    rotate_left
    · (intro wS hS; (try dsimp only at hS); obtain ⟨k1, k2, k3, k4, k5, k6⟩ := sixG K0.out K1.out hS (g := w.heap.size + 1 + 1) (by omega) (by omega); go_simp; try rfl)
    try simp only [Act.put, List.setIfInBounds_toArray, List.set_cons_zero, List.set_cons_succ]
    refine wpAnyH_take (i := 2) (v := ?_) (by simp only [List.getElem?_toArray, List.getElem?_cons_succ, List.getElem?_cons_zero]; rfl) (by kernel_rfl) (by kernel_rfl) (by kernel_rfl) (by exact fun _ _ _ h => h) (Or.inl ⟨by rfl, ?_⟩) hH ?_
    rotate_left
    · (intro wS hS; clear hS; go_simp; try rfl)
    try simp only [Act.put, List.setIfInBounds_toArray, List.set_cons_zero, List.set_cons_succ]
    refine wpAnyH_take (i := 3) (v := ?_) (by simp only [List.getElem?_toArray, List.getElem?_cons_succ, List.getElem?_cons_zero]; rfl) (by kernel_rfl) (by kernel_rfl) (by kernel_rfl) (by exact fun _ _ _ h => h) (Or.inl ⟨by rfl, ?_⟩) hH ?_
    rotate_left
    · (intro wS hS; (try dsimp only at hS); obtain ⟨k1, k2, k3, k4, k5, k6⟩ := sixG K0.out K1.out hS (g := w.heap.size + 1 + 1) (by omega) (by omega); go_simp; try rfl)
    try simp only [Act.put, List.setIfInBounds_toArray, List.set_cons_zero, List.set_cons_succ]
    refine wpAnyH_take (i := 4) (v := ?_) (by simp only [List.getElem?_toArray, List.getElem?_cons_succ, List.getElem?_cons_zero]; rfl) (by kernel_rfl) (by kernel_rfl) (by kernel_rfl) (by exact fun _ _ _ h => h) (Or.inl ⟨by rfl, ?_⟩) hH ?_
    rotate_left
    · (intro wS hS; clear hS; go_simp; try rfl)
    try simp only [Act.put, List.setIfInBounds_toArray, List.set_cons_zero, List.set_cons_succ]
    refine wpAnyH_take (i := 5) (v := ?_) (by simp only [List.getElem?_toArray, List.getElem?_cons_succ, List.getElem?_cons_zero]; rfl) (by kernel_rfl) (by kernel_rfl) (by kernel_rfl) (by exact fun _ _ _ h => h) (Or.inl ⟨by rfl, ?_⟩) hH ?_
    rotate_left
    · (intro wS hS; clear hS; go_simp; try rfl)
    try simp only [Act.put, List.setIfInBounds_toArray, List.set_cons_zero, List.set_cons_succ]
    refine wpAnyH_take (i := 6) (v := ?_) (by simp only [List.getElem?_toArray, List.getElem?_cons_succ, List.getElem?_cons_zero]; rfl) (by kernel_rfl) (by kernel_rfl) (by kernel_rfl) (by exact fun _ _ _ h => h) (Or.inl ⟨by rfl, ?_⟩) hH ?_
    rotate_left
    · (intro wS hS; (try dsimp only at hS); obtain ⟨k1, k2, k3, k4, k5, k6⟩ := sixG K0.out K1.out hS (g := w.heap.size + 1 + 1) (by omega) (by omega); go_simp; try rfl)
    try simp only [Act.put, List.setIfInBounds_toArray, List.set_cons_zero, List.set_cons_succ]
    refine wpAnyH_take (i := 7) (v := ?_) (by simp only [List.getElem?_toArray, List.getElem?_cons_succ, List.getElem?_cons_zero]; rfl) (by kernel_rfl) (by kernel_rfl) (by kernel_rfl) (by exact fun _ _ _ h => h) (Or.inl ⟨by rfl, ?_⟩) hH ?_
    rotate_left
    · (intro wS hS; clear hS; go_simp; try rfl)
    try simp only [Act.put, List.setIfInBounds_toArray, List.set_cons_zero, List.set_cons_succ]
    refine wpAnyH_take (i := 8) (v := ?_) (by simp only [List.getElem?_toArray, List.getElem?_cons_succ, List.getElem?_cons_zero]; rfl) (by kernel_rfl) (by kernel_rfl) (by kernel_rfl) (by exact fun _ _ _ h => h) (Or.inl ⟨by rfl, ?_⟩) hH ?_
    rotate_left
    · (intro wS hS; (try dsimp only at hS); obtain ⟨k1, k2, k3, k4, k5, k6⟩ := sixG K0.out K1.out hS (g := w.heap.size + 1 + 1) (by omega) (by omega); go_simp; try rfl)
    try simp only [Act.put, List.setIfInBounds_toArray, List.set_cons_zero, List.set_cons_succ]
    refine wpAnyH_take (i := 9) (v := ?_) (by simp only [List.getElem?_toArray, List.getElem?_cons_succ, List.getElem?_cons_zero]; rfl) (by kernel_rfl) (by kernel_rfl) (by kernel_rfl) (by exact fun _ _ _ h => h) (Or.inl ⟨by rfl, ?_⟩) hH ?_
    rotate_left
    · (intro wS hS; clear hS; go_simp; try rfl)
    try simp only [Act.put, List.setIfInBounds_toArray, List.set_cons_zero, List.set_cons_succ]
    refine wpAnyH_take (i := 10) (v := ?_) (by simp only [List.getElem?_toArray, List.getElem?_cons_succ, List.getElem?_cons_zero]; rfl) (by kernel_rfl) (by kernel_rfl) (by kernel_rfl) (by exact fun _ _ _ h => h) (Or.inl ⟨by rfl, ?_⟩) hH ?_
    rotate_left
    · (intro wS hS; (try dsimp only at hS); obtain ⟨k1, k2, k3, k4, k5, k6⟩ := sixG K0.out K1.out hS (g := w.heap.size + 1 + 1) (by omega) (by omega); go_simp; try rfl)
    try simp only [Act.put, List.setIfInBounds_toArray, List.set_cons_zero, List.set_cons_succ]
    refine wpAnyH_ready (rs := [11]) (by kernel_rfl) (by simp) ?_
    refine AllReadyH.cons (by simp only [List.getElem?_toArray, List.getElem?_cons_succ, List.getElem?_cons_zero]; rfl) (fun KK hKK => ?_) AllReadyH.nil
    go_simp
    try dsimp only
    refine hKK.out _ _ ?_ (fun hH2 => ?_)
    · exact grown_drew_one (World.grownBy_alloc _ _ _)
    clear hKK KK
    have hO := hH
    clear hH
    have hH := hH2
    clear hH2
    try simp only [Act.put, List.setIfInBounds_toArray, List.set_cons_zero, List.set_cons_succ]
    have BA : Hid (Below w2.heap.size w2 ((w2.alloc (.cells #[.slice qa na m, .slice qb nb n] 22)).drew)) := ((Below.refl _ _).alloc (Nat.le_refl _) _).drew
    have pc : ∀ i : Nat, (((w2.alloc (.cells #[.slice qa na m, .slice qb nb n] 22)).drew)).cell? ⟨w2.heap.size, i, none⟩ = (#[Value.slice qa na m, .slice qb nb n] : Array Value)[i]? := fun i => by
      have := heap_alloc_new w2 (.cells #[Value.slice qa na m, .slice qb nb n] 22)
      show (w2.alloc (.cells #[Value.slice qa na m, .slice qb nb n] 22)).cell? ⟨w2.heap.size, i, none⟩ = _
      unfold World.cell?
      simp only [this]
      rfl
    have PC := Lib.hid pc
    clear pc
    refine wpAnyH_ready (rs := [12]) (by kernel_rfl) (by simp) ?_
    refine AllReadyH.cons (by simp only [List.getElem?_toArray, List.getElem?_cons_succ, List.getElem?_cons_zero]; rfl) (fun KK hKK => ?_) AllReadyH.nil
    go_simp
    refine (iCat w2.heap.size m na n nb qa qb xs ys _ HX.out HY.out ((PC.out 0).trans rfl) ((PC.out 1).trans rfl) (H.out.below (B.out.trans (BA.out.mono B.out.size))) (H'.out.below (B.out.trans (BA.out.mono B.out.size))) sa sb za zb (by omega) (by omega)).mono ?_
    rintro e w3 ⟨v, rfl, own, hb⟩
    obtain ⟨q2, qc2, rfl, -, -⟩ := own.form
    have BA1 : Hid (Below w2.heap.size w2 w3) := BA.out.trans (hb.mono BA.out.size)
    have O2 := Lib.hid (own.le BA.out.size)
    have EL : (xs ++ ys).length = xs.length + ys.length := List.length_append
    rw [EL] at O2 ⊢
    rw [HX.out, HY.out] at O2 ⊢
    have EL2 : Hid ((xs ++ ys).length = na + nb) := by show (xs ++ ys).length = na + nb; rw [EL, HX.out, HY.out]
    clear own hb EL
    try dsimp only
    refine hKK.out _ _ ?_ (fun hH2 => ?_)
    · exact grown_of_below BA1.out _
    clear hKK KK
    have hO := hH
    clear hH
    have hH := hH2
    clear hH2
    try simp only [Act.put, List.setIfInBounds_toArray, List.set_cons_zero, List.set_cons_succ]
    refine wpAnyH_take (i := 13) (v := ?_) (by simp only [List.getElem?_toArray, List.getElem?_cons_succ, List.getElem?_cons_zero]; rfl) (by kernel_rfl) (by kernel_rfl) (by kernel_rfl) (by exact fun _ _ _ h => h) (Or.inl ⟨by rfl, ?_⟩) hH ?_
    rotate_left
    · (intro wS hS; clear hS; go_simp; try rfl)
    try simp only [Act.put, List.setIfInBounds_toArray, List.set_cons_zero, List.set_cons_succ]
    refine wpAnyH_ready (rs := [14]) (by kernel_rfl) (by simp) ?_
    refine AllReadyH.cons (by simp only [List.getElem?_toArray, List.getElem?_cons_succ, List.getElem?_cons_zero]; rfl) (fun KK hKK => ?_) AllReadyH.nil
    go_simp
    refine (iDone_t ((R : Int) + (R' : Int)) C q2 qc2 (na + nb) (xs ++ ys) _ EL2.out (by obtain ⟨a', c', e', r', -⟩ := O2.out.form; injection e' with e1 e2 e3; rw [e1]; exact r') (by omega) HD.out).mono ?_
    rintro e w4 ⟨rfl, hb⟩
    have O2 := Lib.hid (O2.out.keep hb)
    have BA2 : Hid (Below w2.heap.size w2 w4) := BA1.out.trans (hb.mono BA1.out.size)
    clear hb
    try dsimp only
    refine hKK.out _ _ ?_ (fun hH2 => ?_)
    · exact grown_of_below BA2.out _
    clear hKK KK
    have hO := hH
    clear hH
    have hH := hH2
    clear hH2
    try simp only [Act.put, List.setIfInBounds_toArray, List.set_cons_zero, List.set_cons_succ]
    refine wpAnyH_take (i := 15) (v := ?_) (by simp only [List.getElem?_toArray, List.getElem?_cons_succ, List.getElem?_cons_zero]; rfl) (by kernel_rfl) (by kernel_rfl) (by kernel_rfl) (by exact fun _ _ _ h => h) (Or.inl ⟨by rfl, ?_⟩) hH ?_
    rotate_left
    · (intro wS hS; clear hS; go_simp; try rfl)
    try simp only [Act.put, List.setIfInBounds_toArray, List.set_cons_zero, List.set_cons_succ]
    refine wpAnyH_take (i := 16) (v := ?_) (by simp only [List.getElem?_toArray, List.getElem?_cons_succ, List.getElem?_cons_zero]; rfl) (by kernel_rfl) (by kernel_rfl) (by kernel_rfl) (by exact fun _ _ _ h => h) (Or.inl ⟨by rfl, ?_⟩) hH ?_
    rotate_left
    · (intro wS hS; clear hS; go_simp; try rfl)
    try simp only [Act.put, List.setIfInBounds_toArray, List.set_cons_zero, List.set_cons_succ]
    have lK2 := K2.out.lt
    have R2 := Lib.hid (K2.out.step BA2.out)
    obtain ⟨s0, s1, s2, f0, f1, f2⟩ := R2.out.all
    have gs : ∀ x y z, w2.grownBy (((w4.setCell ⟨w.heap.size + 1 + 1, 0, none⟩ x).setCell ⟨w.heap.size + 1 + 1, 1, none⟩ y).setCell ⟨w.heap.size + 1 + 1, 2, none⟩ z) (some (w.heap.size + 1 + 1)) := fun x y z => grown_set_one (a := ⟨w.heap.size + 1 + 1, 2, none⟩) (grown_set_one (a := ⟨w.heap.size + 1 + 1, 1, none⟩) (grown_set_one (a := ⟨w.heap.size + 1 + 1, 0, none⟩) (grown_of_below BA2.out _) rfl _) rfl _) rfl _
    have GS := Lib.hid gs
    clear gs
    refine wpAnyH_ready (rs := [17]) (by kernel_rfl) (by simp) ?_
    refine AllReadyH.cons (by simp only [List.getElem?_toArray, List.getElem?_cons_succ, List.getElem?_cons_zero]; rfl) (fun KK hKK => ?_) AllReadyH.nil
    go_simp
    try dsimp only
    refine hKK.out _ _ ?_ (fun hH2 => ?_)
    · exact GS.out _ _ _
    clear hKK KK
    have hO := hH
    clear hH
    have hH := hH2
    clear hH2
    try simp only [Act.put, List.setIfInBounds_toArray, List.set_cons_zero, List.set_cons_succ]
    refine wpAnyH_take (i := 18) (v := ?_) (by simp only [List.getElem?_toArray, List.getElem?_cons_succ, List.getElem?_cons_zero]; rfl) (by kernel_rfl) (by kernel_rfl) (by kernel_rfl) (by exact fun _ _ _ h => h) (Or.inl ⟨by rfl, ?_⟩) hH ?_
    rotate_left
    · (intro wS hS; clear hS; go_simp; try rfl)
    try simp only [Act.put, List.setIfInBounds_toArray, List.set_cons_zero, List.set_cons_succ]
    refine wpAnyH_done (by kernel_rfl) ?_ _
    go_wp2_with fail
    have B2 := Lib.hid (stepB B.out BA2.out)
    have zz := B.out.size
    obtain ⟨E0, E1, E2, -, -, -⟩ := (((R2.out.set0 (.int .i64 ((R : Int) + (R' : Int)))).set1 (.int .i64 C)).set2 (.slice q2 (na + nb) qc2)).all
    rw [E.out]
    refine bodyPost_ret (v := .tuple #[.agg #[.int .i64 ((R : Int) + (R' : Int)), .int .i64 C, .slice q2 (na + nb) qc2], .bool true]) (by simp [results, Try.results36, go_sem, E0, E1, E2]) rfl ⟨_, rfl, ?_, ?_⟩
    · exact (((O2.out.far (by exact lK2) _).far (by exact lK2) _).far (by exact lK2) _).le zz
    · exact (((B2.out.setCell (by show w.heap.size ≤ w.heap.size + 1 + 1; omega) _).setCell (by show w.heap.size ≤ w.heap.size + 1 + 1; omega) _).setCell (by show w.heap.size ≤ w.heap.size + 1 + 1; omega) _)
  · have E : Hid (MR.done ((R : Int) + (R' : Int)) C (xs ++ ys) = MR.no) := by show MR.done _ _ _ = _; unfold MR.done; rw [hd]; rfl
    have HD := Lib.hid hd
    clear hd
    refine wp_region_held_drew (S := fun w' => w2.grownBy w' (some (w.heap.size + 1 + 1))) (by kernel_rfl) (grown_drew_one (World.grownBy.refl _ _)) (fun hH => ?_)
    refine wpAnyH_take (i := 0) (v := ?_) (by simp only [List.getElem?_toArray, List.getElem?_cons_zero]; rfl) (by kernel_rfl) (by kernel_rfl) (by kernel_rfl) (by exact fun _ _ _ h => h) (Or.inl ⟨by rfl, ?_⟩) hH ?_
    rotate_left
    · (intro wS hS; clear hS; go_simp; try rfl)
    try simp only [Act.put, List.setIfInBounds_toArray, List.set_cons_zero, List.set_cons_succ]
    refine wpAnyH_take (i := 1) (v := ?_) (by simp only [List.getElem?_toArray, List.getElem?_cons_succ, List.getElem?_cons_zero]; rfl) (by kernel_rfl) (by kernel_rfl) (by kernel_rfl) (by exact fun _ _ _ h => h) (Or.inl ⟨by rfl, ?_⟩) hH ?_
    rotate_left
    · (intro wS hS; (try dsimp only at hS); obtain ⟨k1, k2, k3, k4, k5, k6⟩ := sixG K0.out K1.out hS (g := w.heap.size + 1 + 1) (by omega) (by omega); go_simp; try rfl)
    try simp only [Act.put, List.setIfInBounds_toArray, List.set_cons_zero, List.set_cons_succ]
    refine wpAnyH_take (i := 2) (v := ?_) (by simp only [List.getElem?_toArray, List.getElem?_cons_succ, List.getElem?_cons_zero]; rfl) (by kernel_rfl) (by kernel_rfl) (by kernel_rfl) (by exact fun _ _ _ h => h) (Or.inl ⟨by rfl, ?_⟩) hH ?_
    rotate_left
    · (intro wS hS; clear hS; go_simp; try rfl)
    try simp only [Act.put, List.setIfInBounds_toArray, List.set_cons_zero, List.set_cons_succ]
    refine wpAnyH_take (i := 3) (v := ?_) (by simp only [List.getElem?_toArray, List.getElem?_cons_succ, List.getElem?_cons_zero]; rfl) (by kernel_rfl) (by kernel_rfl) (by kernel_rfl) (by exact fun _ _ _ h => h) (Or.inl ⟨by rfl, ?_⟩) hH ?_
    rotate_left
    · (intro wS hS; (try dsimp only at hS); obtain ⟨k1, k2, k3, k4, k5, k6⟩ := sixG K0.out K1.out hS (g := w.heap.size + 1 + 1) (by omega) (by omega); go_simp; try rfl)
    try simp only [Act.put, List.setIfInBounds_toArray, List.set_cons_zero, List.set_cons_succ]
    refine wpAnyH_take (i := 4) (v := ?_) (by simp only [List.getElem?_toArray, List.getElem?_cons_succ, List.getElem?_cons_zero]; rfl) (by kernel_rfl) (by kernel_rfl) (by kernel_rfl) (by exact fun _ _ _ h => h) (Or.inl ⟨by rfl, ?_⟩) hH ?_
    rotate_left
    · (intro wS hS; clear hS; go_simp; try rfl)
    try simp only [Act.put, List.setIfInBounds_toArray, List.set_cons_zero, List.set_cons_succ]
    refine wpAnyH_take (i := 5) (v := ?_) (by simp only [List.getElem?_toArray, List.getElem?_cons_succ, List.getElem?_cons_zero]; rfl) (by kernel_rfl) (by kernel_rfl) (by kernel_rfl) (by exact fun _ _ _ h => h) (Or.inl ⟨by rfl, ?_⟩) hH ?_
    rotate_left
    · (intro wS hS; clear hS; go_simp; try rfl)
    try simp only [Act.put, List.setIfInBounds_toArray, List.set_cons_zero, List.set_cons_succ]
    refine wpAnyH_take (i := 6) (v := ?_) (by simp only [List.getElem?_toArray, List.getElem?_cons_succ, List.getElem?_cons_zero]; rfl) (by kernel_rfl) (by kernel_rfl) (by kernel_rfl) (by exact fun _ _ _ h => h) (Or.inl ⟨by rfl, ?_⟩) hH ?_
    rotate_left
    · (intro wS hS; (try dsimp only at hS); obtain ⟨k1, k2, k3, k4, k5, k6⟩ := sixG K0.out K1.out hS (g := w.heap.size + 1 + 1) (by omega) (by omega); go_simp; try rfl)
    try simp only [Act.put, List.setIfInBounds_toArray, List.set_cons_zero, List.set_cons_succ]
    refine wpAnyH_take (i := 7) (v := ?_) (by simp only [List.getElem?_toArray, List.getElem?_cons_succ, List.getElem?_cons_zero]; rfl) (by kernel_rfl) (by kernel_rfl) (by kernel_rfl) (by exact fun _ _ _ h => h) (Or.inl ⟨by rfl, ?_⟩) hH ?_
    rotate_left
    · (intro wS hS; clear hS; go_simp; try rfl)
    try simp only [Act.put, List.setIfInBounds_toArray, List.set_cons_zero, List.set_cons_succ]
    refine wpAnyH_take (i := 8) (v := ?_) (by simp only [List.getElem?_toArray, List.getElem?_cons_succ, List.getElem?_cons_zero]; rfl) (by kernel_rfl) (by kernel_rfl) (by kernel_rfl) (by exact fun _ _ _ h => h) (Or.inl ⟨by rfl, ?_⟩) hH ?_
    rotate_left
    · (intro wS hS; (try dsimp only at hS); obtain ⟨k1, k2, k3, k4, k5, k6⟩ := sixG K0.out K1.out hS (g := w.heap.size + 1 + 1) (by omega) (by omega); go_simp; try rfl)
    try simp only [Act.put, List.setIfInBounds_toArray, List.set_cons_zero, List.set_cons_succ]
    refine wpAnyH_take (i := 9) (v := ?_) (by simp only [List.getElem?_toArray, List.getElem?_cons_succ, List.getElem?_cons_zero]; rfl) (by kernel_rfl) (by kernel_rfl) (by kernel_rfl) (by exact fun _ _ _ h => h) (Or.inl ⟨by rfl, ?_⟩) hH ?_
    rotate_left
    · (intro wS hS; clear hS; go_simp; try rfl)
    try simp only [Act.put, List.setIfInBounds_toArray, List.set_cons_zero, List.set_cons_succ]
    refine wpAnyH_take (i := 10) (v := ?_) (by simp only [List.getElem?_toArray, List.getElem?_cons_succ, List.getElem?_cons_zero]; rfl) (by kernel_rfl) (by kernel_rfl) (by kernel_rfl) (by exact fun _ _ _ h => h) (Or.inl ⟨by rfl, ?_⟩) hH ?_
    rotate_left
    · (intro wS hS; (try dsimp only at hS); obtain ⟨k1, k2, k3, k4, k5, k6⟩ := sixG K0.out K1.out hS (g := w.heap.size + 1 + 1) (by omega) (by omega); go_simp; try rfl)
    try simp only [Act.put, List.setIfInBounds_toArray, List.set_cons_zero, List.set_cons_succ]
    refine wpAnyH_ready (rs := [11]) (by kernel_rfl) (by simp) ?_
    refine AllReadyH.cons (by simp only [List.getElem?_toArray, List.getElem?_cons_succ, List.getElem?_cons_zero]; rfl) (fun KK hKK => ?_) AllReadyH.nil
    go_simp
    try dsimp only
    refine hKK.out _ _ ?_ (fun hH2 => ?_)
    · exact grown_drew_one (World.grownBy_alloc _ _ _)
    clear hKK KK
    have hO := hH
    clear hH
    have hH := hH2
    clear hH2
    try simp only [Act.put, List.setIfInBounds_toArray, List.set_cons_zero, List.set_cons_succ]
    have BA : Hid (Below w2.heap.size w2 ((w2.alloc (.cells #[.slice qa na m, .slice qb nb n] 22)).drew)) := ((Below.refl _ _).alloc (Nat.le_refl _) _).drew
    have pc : ∀ i : Nat, (((w2.alloc (.cells #[.slice qa na m, .slice qb nb n] 22)).drew)).cell? ⟨w2.heap.size, i, none⟩ = (#[Value.slice qa na m, .slice qb nb n] : Array Value)[i]? := fun i => by
      have := heap_alloc_new w2 (.cells #[Value.slice qa na m, .slice qb nb n] 22)
      show (w2.alloc (.cells #[Value.slice qa na m, .slice qb nb n] 22)).cell? ⟨w2.heap.size, i, none⟩ = _
      unfold World.cell?
      simp only [this]
      rfl
    have PC := Lib.hid pc
    clear pc
    refine wpAnyH_ready (rs := [12]) (by kernel_rfl) (by simp) ?_
    refine AllReadyH.cons (by simp only [List.getElem?_toArray, List.getElem?_cons_succ, List.getElem?_cons_zero]; rfl) (fun KK hKK => ?_) AllReadyH.nil
    go_simp
    refine (iCat w2.heap.size m na n nb qa qb xs ys _ HX.out HY.out ((PC.out 0).trans rfl) ((PC.out 1).trans rfl) (H.out.below (B.out.trans (BA.out.mono B.out.size))) (H'.out.below (B.out.trans (BA.out.mono B.out.size))) sa sb za zb (by omega) (by omega)).mono ?_
    rintro e w3 ⟨v, rfl, own, hb⟩
    obtain ⟨q2, qc2, rfl, -, -⟩ := own.form
    have BA1 : Hid (Below w2.heap.size w2 w3) := BA.out.trans (hb.mono BA.out.size)
    have O2 := Lib.hid (own.le BA.out.size)
    have EL : (xs ++ ys).length = xs.length + ys.length := List.length_append
    rw [EL] at O2 ⊢
    rw [HX.out, HY.out] at O2 ⊢
    have EL2 : Hid ((xs ++ ys).length = na + nb) := by show (xs ++ ys).length = na + nb; rw [EL, HX.out, HY.out]
    clear own hb EL
    try dsimp only
    refine hKK.out _ _ ?_ (fun hH2 => ?_)
    · exact grown_of_below BA1.out _
    clear hKK KK
    have hO := hH
    clear hH
    have hH := hH2
    clear hH2
    try simp only [Act.put, List.setIfInBounds_toArray, List.set_cons_zero, List.set_cons_succ]
    refine wpAnyH_take (i := 13) (v := ?_) (by simp only [List.getElem?_toArray, List.getElem?_cons_succ, List.getElem?_cons_zero]; rfl) (by kernel_rfl) (by kernel_rfl) (by kernel_rfl) (by exact fun _ _ _ h => h) (Or.inl ⟨by rfl, ?_⟩) hH ?_
    rotate_left
    · (intro wS hS; clear hS; go_simp; try rfl)
    try simp only [Act.put, List.setIfInBounds_toArray, List.set_cons_zero, List.set_cons_succ]
    refine wpAnyH_ready (rs := [14]) (by kernel_rfl) (by simp) ?_
    refine AllReadyH.cons (by simp only [List.getElem?_toArray, List.getElem?_cons_succ, List.getElem?_cons_zero]; rfl) (fun KK hKK => ?_) AllReadyH.nil
    go_simp
    refine (iDone_f ((R : Int) + (R' : Int)) C q2 qc2 (na + nb) (xs ++ ys) _ EL2.out (by obtain ⟨a', c', e', r', -⟩ := O2.out.form; injection e' with e1 e2 e3; rw [e1]; exact r') (by omega) HD.out).mono ?_
    rintro e w4 ⟨rfl, hb⟩
    have O2 := Lib.hid (O2.out.keep hb)
    have BA2 : Hid (Below w2.heap.size w2 w4) := BA1.out.trans (hb.mono BA1.out.size)
    clear hb
    try dsimp only
    refine hKK.out _ _ ?_ (fun hH2 => ?_)
    · exact grown_of_below BA2.out _
    clear hKK KK
    have hO := hH
    clear hH
    have hH := hH2
    clear hH2
    try simp only [Act.put, List.setIfInBounds_toArray, List.set_cons_zero, List.set_cons_succ]
    refine wpAnyH_take (i := 15) (v := ?_) (by simp only [List.getElem?_toArray, List.getElem?_cons_succ, List.getElem?_cons_zero]; rfl) (by kernel_rfl) (by kernel_rfl) (by kernel_rfl) (by exact fun _ _ _ h => h) (Or.inl ⟨by rfl, ?_⟩) hH ?_
    rotate_left
    · (intro wS hS; clear hS; go_simp; try rfl)
    try simp only [Act.put, List.setIfInBounds_toArray, List.set_cons_zero, List.set_cons_succ]
    refine wpAnyH_take (i := 16) (v := ?_) (by simp only [List.getElem?_toArray, List.getElem?_cons_succ, List.getElem?_cons_zero]; rfl) (by kernel_rfl) (by kernel_rfl) (by kernel_rfl) (by exact fun _ _ _ h => h) (Or.inl ⟨by rfl, ?_⟩) hH ?_
    rotate_left
    · (intro wS hS; clear hS; go_simp; try rfl)
    try simp only [Act.put, List.setIfInBounds_toArray, List.set_cons_zero, List.set_cons_succ]
    have lK2 := K2.out.lt
    have R2 := Lib.hid (K2.out.step BA2.out)
    obtain ⟨s0, s1, s2, f0, f1, f2⟩ := R2.out.all
    have gs : ∀ x y z, w2.grownBy (((w4.setCell ⟨w.heap.size + 1 + 1, 0, none⟩ x).setCell ⟨w.heap.size + 1 + 1, 1, none⟩ y).setCell ⟨w.heap.size + 1 + 1, 2, none⟩ z) (some (w.heap.size + 1 + 1)) := fun x y z => grown_set_one (a := ⟨w.heap.size + 1 + 1, 2, none⟩) (grown_set_one (a := ⟨w.heap.size + 1 + 1, 1, none⟩) (grown_set_one (a := ⟨w.heap.size + 1 + 1, 0, none⟩) (grown_of_below BA2.out _) rfl _) rfl _) rfl _
    have GS := Lib.hid gs
    clear gs
    refine wpAnyH_ready (rs := [17]) (by kernel_rfl) (by simp) ?_
    refine AllReadyH.cons (by simp only [List.getElem?_toArray, List.getElem?_cons_succ, List.getElem?_cons_zero]; rfl) (fun KK hKK => ?_) AllReadyH.nil
    go_simp
    try dsimp only
    refine hKK.out _ _ ?_ (fun hH2 => ?_)
    · exact GS.out _ _ _
    clear hKK KK
    have hO := hH
    clear hH
    have hH := hH2
    clear hH2
    try simp only [Act.put, List.setIfInBounds_toArray, List.set_cons_zero, List.set_cons_succ]
    refine wpAnyH_take (i := 18) (v := ?_) (by simp only [List.getElem?_toArray, List.getElem?_cons_succ, List.getElem?_cons_zero]; rfl) (by kernel_rfl) (by kernel_rfl) (by kernel_rfl) (by exact fun _ _ _ h => h) (Or.inl ⟨by rfl, ?_⟩) hH ?_
    rotate_left
    · (intro wS hS; clear hS; go_simp; try rfl)
    try simp only [Act.put, List.setIfInBounds_toArray, List.set_cons_zero, List.set_cons_succ]
    refine wpAnyH_done (by kernel_rfl) ?_ _
    go_wp2_with fail
    have B2 := Lib.hid (stepB B.out BA2.out)
    have zz := B.out.size
    obtain ⟨E0, E1, E2, -, -, -⟩ := (((R2.out.set0 (.int .i64 0)).set1 (.int .i64 0)).set2 (.slice none 0 0)).all
    rw [E.out]
    refine bodyPost_ret (v := .tuple #[.agg #[.int .i64 0, .int .i64 0, .slice none 0 0], .bool false]) (by simp [results, Try.results36, go_sem, E0, E1, E2]) rfl ⟨_, rfl, ?_, ?_⟩
    · exact .inl ⟨rfl, rfl⟩
    · exact (((B2.out.setCell (by show w.heap.size ≤ w.heap.size + 1 + 1; omega) _).setCell (by show w.heap.size ≤ w.heap.size + 1 + 1; omega) _).setCell (by show w.heap.size ≤ w.heap.size + 1 + 1; omega) _)
set_option maxHeartbeats 1000000 in
theorem iStack (r c r' c' : Int) (a b : Option Addr) (m n : Nat) (xs ys : List Int) (w : World) (h : Rd w a xs) (h' : Rd w b ys) (hn : xs.length ≤ 16777216) (hn' : ys.length ≤ 16777216) (ha : Spot a) (hb : Spot b) (za : a = none → m = 0) (zb : b = none → n = 0) :
    Calls Try.prog 36 #[.agg #[.int .i64 r, .int .i64 c, .slice a xs.length m], .agg #[.int .i64 r', .int .i64 c', .slice b ys.length n]] w (MatRes (stackM r c xs r' c' ys) w) := by
  rcases Bool.eq_false_or_eq_true (isMat r c xs) with hm | hm
  · rcases Bool.eq_false_or_eq_true (isMat r' c' ys) with hm' | hm'
    · by_cases e2 : c = c'
      · subst e2
        obtain ⟨⟨r1, r2⟩, ⟨c1, c2⟩, -, -⟩ := isMat_says hm
        obtain ⟨⟨r3, r4⟩, -, -, -⟩ := isMat_says hm'
        obtain ⟨R, rfl⟩ := Int.eq_ofNat_of_zero_le r1
        obtain ⟨R', rfl⟩ := Int.eq_ofNat_of_zero_le r3
        obtain ⟨C, rfl⟩ := Int.eq_ofNat_of_zero_le c1
        have E : stackM R C xs R' C ys = MR.done ((R : Int) + (R' : Int)) C (xs ++ ys) := by
          unfold stackM MR.done
          rw [stack_valid hm hm', hm, hm', decide_eq_true rfl]
          rfl
        rw [E]
        exact iStack_t R R' C m n a b xs ys w h h' ha hb za zb hm hm'
      · have E : Hid (stackM r c xs r' c' ys = MR.no) := by show stackM r c xs r' c' ys = _; unfold stackM; rw [hm, hm']; simp [e2]
        have n1 : (c == c') = false := by simpa using e2
        have n2 : (c != c') = true := by simpa using e2
        have B0 : ∀ o1 o2 o3, Below w.heap.size w (((w.alloc o1).alloc o2).alloc o3) := fun o1 o2 o3 => (((Below.refl _ _).alloc (Nat.le_refl _) _).alloc (by simp) _).alloc (by simp <;> omega) _
        have BH := Lib.hid B0
        have H := Lib.hid h
        have H' := Lib.hid h'
        clear B0 h h'
        have M := Lib.hid hm
        have M' := Lib.hid hm'
        clear hm hm' e2 ha hb za zb
        go_enter Try.func36, Try.ntmps36
        go_wp2_with fail
        refine (iIsMat r c a m xs _ (H.out.below (BH.out (.cells #[.int .i64 r, .int .i64 c, .slice a xs.length m] 26) (.cells #[.int .i64 r', .int .i64 c', .slice b ys.length n] 26) (.cells #[.int .i64 0, .int .i64 0, .slice none 0 0] 26))) hn).mono ?_
        rintro e w1 ⟨rfl, hb⟩
        have K0 : Hid (Blk3 w1 w.heap.size 26 (.int .i64 r) (.int .i64 c) (.slice a xs.length m)) := (((Blk3.at_ _ _ _ _ rfl).old _).old _).keep hb (by simp <;> omega)
        have K1 : Hid (Blk3 w1 (w.heap.size + 1) 26 (.int .i64 r') (.int .i64 c') (.slice b ys.length n)) := ((Blk3.at_ _ _ _ _ (by simp)).old _).keep hb (by simp <;> omega)
        have K2 : Hid (Blk3 w1 (w.heap.size + 1 + 1) 26 (.int .i64 0) (.int .i64 0) (.slice none 0 0)) := (Blk3.at_ _ _ _ _ (by simp)).keep hb (by simp)
        have B : Hid (Below w.heap.size w w1) := (BH.out _ _ _).trans (hb.mono (by simp <;> omega))
        clear hb
        obtain ⟨ca0, ca1, ca2, -, -, -⟩ := K0.out.all
        obtain ⟨cb0, cb1, cb2, -, -, -⟩ := K1.out.all
        obtain ⟨cc0, cc1, cc2, ff0, ff1, ff2⟩ := K2.out.all
        rw [M.out]
        go_wp2_with fail
        refine (iIsMat r' c' b n ys _ (H'.out.below B.out) hn').mono ?_
        rintro e w2 ⟨rfl, hb⟩
        have K0 := Lib.hid (K0.out.keep hb K0.out.lt)
        have K1 := Lib.hid (K1.out.keep hb K1.out.lt)
        have K2 := Lib.hid (K2.out.keep hb K2.out.lt)
        have B := Lib.hid (B.out.trans (hb.mono B.out.size))
        clear hb
        obtain ⟨da0, da1, da2, -, -, -⟩ := K0.out.all
        obtain ⟨db0, db1, db2, -, -, -⟩ := K1.out.all
        obtain ⟨dc0, dc1, dc2, gf0, gf1, gf2⟩ := K2.out.all
        rw [M'.out]
        go_wp2_with fail
        obtain ⟨E0, E1, E2, -, -, -⟩ := (((K2.out.set0 (.int .i64 0)).set1 (.int .i64 0)).set2 (.slice none 0 0)).all
        rw [E.out]
        exact bodyPost_ret (v := .tuple #[.agg #[.int .i64 0, .int .i64 0, .slice none 0 0], .bool false]) (by simp [results, Try.results36, go_sem, E0, E1, E2]) rfl ⟨_, rfl, .inl ⟨rfl, rfl⟩, ((B.out.setCell (by show w.heap.size ≤ w.heap.size + 1 + 1; omega) _).setCell (by show w.heap.size ≤ w.heap.size + 1 + 1; omega) _).setCell (by show w.heap.size ≤ w.heap.size + 1 + 1; omega) _⟩
    · have E : Hid (stackM r c xs r' c' ys = MR.no) := by show stackM r c xs r' c' ys = _; unfold stackM; rw [hm, hm']; simp
      have B0 : ∀ o1 o2 o3, Below w.heap.size w (((w.alloc o1).alloc o2).alloc o3) := fun o1 o2 o3 => (((Below.refl _ _).alloc (Nat.le_refl _) _).alloc (by simp) _).alloc (by simp <;> omega) _
      have BH := Lib.hid B0
      have H := Lib.hid h
      have H' := Lib.hid h'
      clear B0 h h'
      have M := Lib.hid hm
      have M' := Lib.hid hm'
      clear hm hm' ha hb
      go_enter Try.func36, Try.ntmps36
      go_wp2_with fail
      refine (iIsMat r c a m xs _ (H.out.below (BH.out (.cells #[.int .i64 r, .int .i64 c, .slice a xs.length m] 26) (.cells #[.int .i64 r', .int .i64 c', .slice b ys.length n] 26) (.cells #[.int .i64 0, .int .i64 0, .slice none 0 0] 26))) hn).mono ?_
      rintro e w1 ⟨rfl, hb⟩
      have K0 : Hid (Blk3 w1 w.heap.size 26 (.int .i64 r) (.int .i64 c) (.slice a xs.length m)) := (((Blk3.at_ _ _ _ _ rfl).old _).old _).keep hb (by simp <;> omega)
      have K1 : Hid (Blk3 w1 (w.heap.size + 1) 26 (.int .i64 r') (.int .i64 c') (.slice b ys.length n)) := ((Blk3.at_ _ _ _ _ (by simp)).old _).keep hb (by simp <;> omega)
      have K2 : Hid (Blk3 w1 (w.heap.size + 1 + 1) 26 (.int .i64 0) (.int .i64 0) (.slice none 0 0)) := (Blk3.at_ _ _ _ _ (by simp)).keep hb (by simp)
      have B : Hid (Below w.heap.size w w1) := (BH.out _ _ _).trans (hb.mono (by simp <;> omega))
      clear hb
      obtain ⟨ca0, ca1, ca2, -, -, -⟩ := K0.out.all
      obtain ⟨cb0, cb1, cb2, -, -, -⟩ := K1.out.all
      obtain ⟨cc0, cc1, cc2, ff0, ff1, ff2⟩ := K2.out.all
      rw [M.out]
      go_wp2_with fail
      refine (iIsMat r' c' b n ys _ (H'.out.below B.out) hn').mono ?_
      rintro e w2 ⟨rfl, hb⟩
      have K0 := Lib.hid (K0.out.keep hb K0.out.lt)
      have K1 := Lib.hid (K1.out.keep hb K1.out.lt)
      have K2 := Lib.hid (K2.out.keep hb K2.out.lt)
      have B := Lib.hid (B.out.trans (hb.mono B.out.size))
      clear hb
      obtain ⟨da0, da1, da2, -, -, -⟩ := K0.out.all
      obtain ⟨db0, db1, db2, -, -, -⟩ := K1.out.all
      obtain ⟨dc0, dc1, dc2, gf0, gf1, gf2⟩ := K2.out.all
      rw [M'.out]
      go_wp2_with fail
      obtain ⟨E0, E1, E2, -, -, -⟩ := (((K2.out.set0 (.int .i64 0)).set1 (.int .i64 0)).set2 (.slice none 0 0)).all
      rw [E.out]
      exact bodyPost_ret (v := .tuple #[.agg #[.int .i64 0, .int .i64 0, .slice none 0 0], .bool false]) (by simp [results, Try.results36, go_sem, E0, E1, E2]) rfl ⟨_, rfl, .inl ⟨rfl, rfl⟩, ((B.out.setCell (by show w.heap.size ≤ w.heap.size + 1 + 1; omega) _).setCell (by show w.heap.size ≤ w.heap.size + 1 + 1; omega) _).setCell (by show w.heap.size ≤ w.heap.size + 1 + 1; omega) _⟩
  · have E : Hid (stackM r c xs r' c' ys = MR.no) := by show stackM r c xs r' c' ys = _; unfold stackM; rw [hm]; simp
    have B0 : ∀ o1 o2 o3, Below w.heap.size w (((w.alloc o1).alloc o2).alloc o3) := fun o1 o2 o3 => (((Below.refl _ _).alloc (Nat.le_refl _) _).alloc (by simp) _).alloc (by simp <;> omega) _
    have BH := Lib.hid B0
    have H := Lib.hid h
    have H' := Lib.hid h'
    clear B0 h h'
    have M := Lib.hid hm
    clear hm hn' ha hb
    go_enter Try.func36, Try.ntmps36
    go_wp2_with fail
    refine (iIsMat r c a m xs _ (H.out.below (BH.out (.cells #[.int .i64 r, .int .i64 c, .slice a xs.length m] 26) (.cells #[.int .i64 r', .int .i64 c', .slice b ys.length n] 26) (.cells #[.int .i64 0, .int .i64 0, .slice none 0 0] 26))) hn).mono ?_
    rintro e w1 ⟨rfl, hb⟩
    have K0 : Hid (Blk3 w1 w.heap.size 26 (.int .i64 r) (.int .i64 c) (.slice a xs.length m)) := (((Blk3.at_ _ _ _ _ rfl).old _).old _).keep hb (by simp <;> omega)
    have K1 : Hid (Blk3 w1 (w.heap.size + 1) 26 (.int .i64 r') (.int .i64 c') (.slice b ys.length n)) := ((Blk3.at_ _ _ _ _ (by simp)).old _).keep hb (by simp <;> omega)
    have K2 : Hid (Blk3 w1 (w.heap.size + 1 + 1) 26 (.int .i64 0) (.int .i64 0) (.slice none 0 0)) := (Blk3.at_ _ _ _ _ (by simp)).keep hb (by simp)
    have B : Hid (Below w.heap.size w w1) := (BH.out _ _ _).trans (hb.mono (by simp <;> omega))
    clear hb
    obtain ⟨ca0, ca1, ca2, -, -, -⟩ := K0.out.all
    obtain ⟨cb0, cb1, cb2, -, -, -⟩ := K1.out.all
    obtain ⟨cc0, cc1, cc2, ff0, ff1, ff2⟩ := K2.out.all
    rw [M.out]
    go_wp2_with fail
    obtain ⟨E0, E1, E2, -, -, -⟩ := (((K2.out.set0 (.int .i64 0)).set1 (.int .i64 0)).set2 (.slice none 0 0)).all
    rw [E.out]
    exact bodyPost_ret (v := .tuple #[.agg #[.int .i64 0, .int .i64 0, .slice none 0 0], .bool false]) (by simp [results, Try.results36, go_sem, E0, E1, E2]) rfl ⟨_, rfl, .inl ⟨rfl, rfl⟩, ((B.out.setCell (by show w.heap.size ≤ w.heap.size + 1 + 1; omega) _).setCell (by show w.heap.size ≤ w.heap.size + 1 + 1; omega) _).setCell (by show w.heap.size ≤ w.heap.size + 1 + 1; omega) _⟩
end Go.Proofs.Ytbdofgkcedpamaa
end
