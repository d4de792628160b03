/-
  Texts of this seat, joined: MatI8 · MatI9 · ElTo · StepS
-/
import Derived.StillTailTactics
import Derived.Test.YtpknondccajinaaPk3
import Derived.Test.YtpknondccajinaaPk8
import Derived.Test.YtpknondccajinaaPk9
import Derived.Test.YtpknondccajinaaPk16

section
/-
  Chapter 3, in the program: TransposeOf.
-/
namespace Go.Proofs.Ytpknondccajinaa
set_option maxRecDepth 100000
open Go.RowKit

/-- What the first k cells give of the matrix turned over. -/
def turnTo (R C : Nat) (xs : List Int) (k : Nat) : List Int := tab C R fun j i => if i * C + j < k then xs.getD (i * C + j) 0 else 0
theorem turnTo_length (R C : Nat) (xs : List Int) (k : Nat) : (turnTo R C xs k).length = C * R := tab_length _ _ _
theorem turnTo_zero (R C : Nat) (xs : List Int) : turnTo R C xs 0 = List.replicate (C * R) 0 := by
  apply List.ext_getElem (by simp [turnTo, tab])
  intro i h1 h2
  simp [turnTo, tab]
theorem turnTo_all (R C : Nat) (xs : List Int) : turnTo R C xs (R * C) = turnL R C xs := by
  refine tab_ext (turnTo_length _ _ _ _) fun j i hj hi => ?_
  unfold turnTo
  rw [tab_at C R _ hj hi, if_pos (idx_lt hi hj)]
theorem turnTo_step (R C : Nat) (xs : List Int) {i j : Nat} (hi : i < R) (hj : j < C) : (turnTo R C xs (i * C + j)).set (j * R + i) (xs.getD (i * C + j) 0) = turnTo R C xs (i * C + j + 1) := by
  refine (tab_ext (by rw [List.length_set, turnTo_length]) fun j' i' hj' hi' => ?_)
  rw [getD_set _ _ _ _ (by rw [turnTo_length]; exact idx_lt hj hi)]
  by_cases e : j' * R + i' = j * R + i
  · obtain ⟨rfl, rfl⟩ := idx_inj hi' hi e
    rw [if_pos e, if_pos (by omega)]
  · rw [if_neg e]
    unfold turnTo
    rw [tab_at C R _ hj' hi']
    by_cases h1 : i' * C + j' < i * C + j
    · rw [if_pos h1, if_pos (by omega)]
    · rw [if_neg h1]
      by_cases h2 : i' * C + j' < i * C + j + 1
      · exfalso
        have h3 : i' * C + j' = i * C + j := by omega
        obtain ⟨rfl, rfl⟩ := idx_inj hj' hj h3
        exact e rfl
      · rw [if_neg h2]

set_option maxHeartbeats 400000 in
theorem iTurnStep (pb R : Nat) (c v : Value) (g m mc i j : Nat) (z : Int) (L : List Int) (w : World) (hp : Blk3 w pb 26 (.int .i64 R) c v) (hI : Ints w g L) (hm : j * R + i < m) (hl : m = L.length) (hb : m ≤ 600) :
    Calls Try.prog 51 #[.slice (some ⟨g, 0, none⟩) m mc, .int .i64 (i : Int), .int .i64 (j : Int), .int .i64 z, .pointer (some ⟨pb, 0, none⟩)] w
      (fun e w2 => e = .returned (.slice (some ⟨g, 0, none⟩) m mc) ∧ Ints w2 g (L.set (j * R + i) z) ∧ w.grownBy w2 (some g)) := by
  have c1 : (j : Int) * (R : Int) = ((j * R : Nat) : Int) := (Int.natCast_mul _ _).symm
  have d1 : 0 ≤ (j : Int) * (R : Int) ∧ (j : Int) * (R : Int) ≤ 600 := by rw [c1]; omega
  have e1 : 0 ≤ (j : Int) * (R : Int) + (i : Int) := by omega
  have e2 : (j : Int) * (R : Int) + (i : Int) < (m : Int) := by rw [c1]; omega
  have e3 : ((j : Int) * (R : Int) + (i : Int)).toNat = j * R + i := by rw [c1]; omega
  obtain ⟨d11, d12⟩ := d1
  have e4 : (j : Int) * (R : Int) + (i : Int) ≤ 600 := by omega
  have v1 : IntKind.i64.wrap ((j : Int) * (R : Int)) = (j : Int) * (R : Int) := IntWalk.i64_in _ (by omega)
  have v2 : IntKind.i64.wrap ((j : Int) * (R : Int) + (i : Int)) = (j : Int) * (R : Int) + (i : Int) := IntWalk.i64_in _ (by omega)
  have hold := hI.cell (i := j * R + i) (by omega)
  have hfr := hI.free (j * R + i)
  obtain ⟨p0, p1, p2, -, -, -⟩ := hp.all
  have I := Lib.hid hI
  clear c1 hI hp
  go_enter Try.func51, Try.ntmps51
  go_wp2_with fail
  go_ret
  refine ⟨rfl, ?_, ?_⟩
  · first | exact I.out.set _ _ | exact I.out.drew.set _ _
  · first | exact grown_set_one (World.grownBy.refl _ _) rfl _ | exact grown_drew_one (grown_set_one (World.grownBy.refl _ _) rfl _)

theorem turnStepOf (pb R C n g : Nat) (xs : List Int) (w : World) {c v : Value} (hp : Blk3 w pb 26 (.int .i64 R) c v) (hn : n = R * C) (hne : pb ≠ g) (hle : n ≤ 576) :
    ∀ (k : Nat) (w1 : World), k < n → w.grownBy w1 (some g) → Ints w1 g (turnTo R C xs k) → Calls Try.prog 51 #[.slice (some ⟨g, 0, none⟩) n n, .int .i64 ((k : Int) / (C : Int)), .int .i64 ((k : Int) % (C : Int)), .int .i64 (xs.getD k 0), .pointer (some ⟨pb, 0, none⟩)] w1
      (fun e w2 => e = .returned (.slice (some ⟨g, 0, none⟩) n n) ∧ Ints w2 g (turnTo R C xs (k + 1)) ∧ w1.grownBy w2 (some g)) := by
  intro k w1 hk hg hI
  have hC : 0 < C := by
    rcases Nat.eq_zero_or_pos C with e | e
    · rw [e, Nat.mul_zero] at hn; omega
    · exact e
  have e1 : k / C * C + k % C = k := by rw [Nat.mul_comm]; exact Nat.div_add_mod k C
  have hj : k % C < C := Nat.mod_lt k hC
  have hi : k / C < R := Nat.div_lt_of_lt_mul (by rw [Nat.mul_comm, ← hn]; exact hk)
  have st := turnTo_step R C xs hi hj
  rw [e1] at st
  rw [← Int.natCast_ediv, ← Int.natCast_emod]
  refine (iTurnStep pb R c v g n n (k / C) (k % C) (xs.getD k 0) _ w1 (hp.keepOne hg hne) hI (by rw [hn, Nat.mul_comm R C]; exact idx_lt hj hi) (by rw [turnTo_length, hn, Nat.mul_comm]) (by omega)).mono ?_
  rintro e w2 ⟨h1, h2, h3⟩
  rw [st] at h2
  exact ⟨h1, h2, h3⟩

set_option maxHeartbeats 1000000 in
theorem iTurn_t (R C : Nat) (a : Option Addr) (m : Nat) (xs : List Int) (w : World) (h : Rd w a xs) (hn : xs.length ≤ 16777216) (hm : isMat R C xs = true) :
    Calls Try.prog 15 #[.agg #[.int .i64 R, .int .i64 C, .slice a xs.length m]] w (MatRes ⟨true, C, R, turnL R C xs⟩ w) := by
  obtain ⟨⟨r1, r2⟩, ⟨c1, c2⟩, l1, -⟩ := isMat_says hm
  rw [← Int.natCast_mul] at l1
  have hle : C * R ≤ 24 * 24 := Nat.mul_le_mul (by omega) (by omega)
  have hCR : C * R = R * C := Nat.mul_comm _ _
  have hl1 : xs.length = R * C := by omega
  obtain ⟨N, hN⟩ : ∃ N, xs.length = N := ⟨_, rfl⟩
  have hle2 : N ≤ 576 := by omega
  have HX := Lib.hid hN
  have HRC : Hid (N = R * C) := hN.symm.trans hl1
  have hmk := makeInts N (by omega)
  have M := Lib.hid hm
  have hR : R ≤ 24 := by omega
  have hC : C ≤ 24 := by omega
  rw [hN] at hn ⊢
  clear l1 hl1 hm hle hCR hN
  have B0 : ∀ o1 o2, Below w.heap.size w ((w.alloc o1).alloc o2) := fun o1 o2 => ((Below.refl _ _).alloc (Nat.le_refl _) _).alloc (by simp) _
  have BH := Lib.hid B0
  have H := Lib.hid h
  clear B0 h
  go_enter Try.func15, Try.ntmps15
  go_wp2_with fail
  have ST := iIsMat R C a m xs _ (H.out.below (BH.out (.cells #[.int .i64 R, .int .i64 C, .slice a N m] 26) (.cells #[.int .i64 0, .int .i64 0, .slice none 0 0] 26))) (by rw [HX.out]; omega)
  rw [HX.out] at ST
  refine ST.mono ?_
  clear ST
  rintro e w1 ⟨rfl, hb⟩
  have K0 : Hid (Blk3 w1 w.heap.size 26 (.int .i64 R) (.int .i64 C) (.slice a N m)) := ((Blk3.at_ _ _ _ _ rfl).old _).keep hb (by simp <;> omega)
  have K2 : Hid (Blk3 w1 (w.heap.size + 1) 26 (.int .i64 0) (.int .i64 0) (.slice none 0 0)) := (Blk3.at_ _ _ _ _ (by simp)).keep hb (by simp)
  have B : Hid (Below w.heap.size w w1) := (BH.out _ _).trans (hb.mono (by simp <;> omega))
  clear hb
  obtain ⟨ca0, ca1, ca2, -, -, -⟩ := K0.out.all
  obtain ⟨cc0, cc1, cc2, ff0, ff1, ff2⟩ := K2.out.all
  rw [M.out]
  go_upto_region 3 with fail
  refine wp_region_held_drew (S := fun w' => Below w1.heap.size w1 w') (by kernel_rfl) (Below.refl _ _).drew (fun hH => ?_)
  refine wpAnyH_take (i := 0) (v := ?_) (by simp only [List.getElem?_toArray, List.getElem?_cons_zero]; rfl) (by kernel_rfl) (by kernel_rfl) (by kernel_rfl) (by exact fun _ _ _ h => h) (Or.inl ⟨by rfl, ?_⟩) hH ?_
  rotate_left
  · (intro wS hS; (try dsimp only at hS); obtain ⟨k1, k2, k3⟩ := seven K0.out hS; go_simp; try rfl)
  try simp only [Act.put, List.setIfInBounds_toArray, List.set_cons_zero, List.set_cons_succ]
  refine wpAnyH_take (i := 1) (v := ?_) (by simp only [List.getElem?_toArray, List.getElem?_cons_succ, List.getElem?_cons_zero]; rfl) (by kernel_rfl) (by kernel_rfl) (by kernel_rfl) (by exact fun _ _ _ h => h) (Or.inl ⟨by rfl, ?_⟩) hH ?_
  rotate_left
  · (intro wS hS; (try dsimp only at hS); obtain ⟨k1, k2, k3⟩ := seven K0.out hS; go_simp; try rfl)
  try simp only [Act.put, List.setIfInBounds_toArray, List.set_cons_zero, List.set_cons_succ]
  refine wpAnyH_take (i := 2) (v := ?_) (by simp only [List.getElem?_toArray, List.getElem?_cons_succ, List.getElem?_cons_zero]; rfl) (by kernel_rfl) (by kernel_rfl) (by kernel_rfl) (by exact fun _ _ _ h => h) (Or.inl ⟨by rfl, ?_⟩) hH ?_
  rotate_left
  · (intro wS hS; (try dsimp only at hS); obtain ⟨k1, k2, k3⟩ := seven K0.out hS; go_simp; try rfl)
  try simp only [Act.put, List.setIfInBounds_toArray, List.set_cons_zero, List.set_cons_succ]
  refine wpAnyH_take (i := 3) (v := ?_) (by simp only [List.getElem?_toArray, List.getElem?_cons_succ, List.getElem?_cons_zero]; rfl) (by kernel_rfl) (by kernel_rfl) (by kernel_rfl) (by exact fun _ _ _ h => h) (Or.inl ⟨by rfl, ?_⟩) hH ?_
  rotate_left
  · (intro wS hS; clear hS; go_simp; try rfl)
  try simp only [Act.put, List.setIfInBounds_toArray, List.set_cons_zero, List.set_cons_succ]
  refine wpAnyH_take (i := 5) (v := ?_) (by simp only [List.getElem?_toArray, List.getElem?_cons_succ, List.getElem?_cons_zero]; rfl) (by kernel_rfl) (by kernel_rfl) (by kernel_rfl) (by exact fun _ _ _ h => h) (Or.inl ⟨by rfl, ?_⟩) hH ?_
  rotate_left
  · (intro wS hS; clear hS; go_simp; try rfl)
  try simp only [Act.put, List.setIfInBounds_toArray, List.set_cons_zero, List.set_cons_succ]
  refine wpAnyH_ready (rs := [4]) (by kernel_rfl) (by simp) ?_
  refine AllReadyH.cons (by simp only [List.getElem?_toArray, List.getElem?_cons_succ, List.getElem?_cons_zero]; rfl) (fun K hK => ?_) AllReadyH.nil
  go_simp
  have I0 : Hid (Ints (w1.alloc (.cells (madeCells #[.int .i64 0] N) 3)) w1.heap.size (List.replicate N 0)) := Ints.made N rfl
  try dsimp only
  refine hK.out _ _ ?_ (fun hH2 => ?_)
  · exact hH.alloc hH.size _
  clear hK K
  have hO := hH
  clear hH
  have hH := hH2
  clear hH2
  try simp only [Act.put, List.setIfInBounds_toArray, List.set_cons_zero, List.set_cons_succ]
  refine wpAnyH_ready (rs := [6]) (by kernel_rfl) (by simp) ?_
  refine AllReadyH.cons (by simp only [List.getElem?_toArray, List.getElem?_cons_succ, List.getElem?_cons_zero]; rfl) (fun K hK => ?_) AllReadyH.nil
  go_simp
  refine (iFoldT w.heap.size R C N a m xs w1.heap.size N N (turnTo R C xs) _ HX.out (H.out.below (B.out.trans (hH.mono B.out.size))) HRC.out hR hC (by rw [turnTo_zero, Nat.mul_comm, ← HRC.out]; first | exact I0.out | exact I0.out.drew) (far_of (H.out.below B.out) HX.out) (turnStepOf w.heap.size R C N w1.heap.size xs _ (K0.out.keep hH K0.out.lt) HRC.out (Nat.ne_of_lt K0.out.lt) hle2)).mono ?_
  rintro e v1 ⟨rfl, hi, hg⟩
  have I2 := Lib.hid hi
  clear hi
  try dsimp only
  refine hK.out _ _ ?_ (fun hH2 => ?_)
  · exact hH.trans (below_of_one hg (Nat.le_refl _) hH.size)
  clear hK K
  have hO := hH
  clear hH
  have hH := hH2
  clear hH2
  try simp only [Act.put, List.setIfInBounds_toArray, List.set_cons_zero, List.set_cons_succ]
  refine wpAnyH_take (i := 7) (v := ?_) (by simp only [List.getElem?_toArray, List.getElem?_cons_succ, List.getElem?_cons_zero]; rfl) (by kernel_rfl) (by kernel_rfl) (by kernel_rfl) (by exact fun _ _ _ h => h) (Or.inl ⟨by rfl, ?_⟩) hH ?_
  rotate_left
  · (intro wS hS; clear hS; go_simp; try rfl)
  try simp only [Act.put, List.setIfInBounds_toArray, List.set_cons_zero, List.set_cons_succ]
  refine wpAnyH_done (by kernel_rfl) ?_ _
  have hb := hH
  clear hH hO hg
  have EQ : turnTo R C xs N = turnL R C xs := by rw [HRC.out]; exact turnTo_all R C xs
  rw [EQ] at I2
  have HL : Hid ((turnL R C xs).length = N) := by show (turnL R C xs).length = N; unfold turnL; rw [tab_length, HRC.out, Nat.mul_comm]
  have gl := K2.out.lt
  have K0 := Lib.hid (K0.out.step hb)
  have K2 := Lib.hid (K2.out.step hb)
  have B := Lib.hid (stepB B.out hb)
  clear hb EQ
  obtain ⟨r0, r1, r2, -, -, -⟩ := K0.out.all
  obtain ⟨s0, s1, s2, t0, t1, t2⟩ := K2.out.all
  go_wp2_with fail
  obtain ⟨E0, E1, E2, -, -, -⟩ := (((K2.out.set0 (.int .i64 C)).set1 (.int .i64 R)).set2 (.slice (some ⟨w1.heap.size, 0, none⟩) N N)).all
  refine bodyPost_ret (v := .tuple #[.agg #[.int .i64 C, .int .i64 R, .slice (some ⟨w1.heap.size, 0, none⟩) N N], .bool true]) (by simp [results, Try.results15, go_sem, E0, E1, E2]) rfl ⟨_, rfl, ?_, ?_⟩
  · refine .inr ⟨w1.heap.size, N, by rw [HL.out], by omega, ?_, by rw [HL.out]; omega, by rw [HL.out]; omega⟩
    exact ((I2.out.far (by show w1.heap.size ≠ w.heap.size + 1; omega) _).far (by show w1.heap.size ≠ w.heap.size + 1; omega) _).far (by show w1.heap.size ≠ w.heap.size + 1; omega) _
  · exact ((B.out.setCell (Nat.le_succ _) _).setCell (Nat.le_succ _) _).setCell (Nat.le_succ _) _
theorem iTransp (r c : Int) (a : Option Addr) (m : Nat) (xs : List Int) (w : World) (h : Rd w a xs) (hn : xs.length ≤ 16777216) :
    Calls Try.prog 15 #[.agg #[.int .i64 r, .int .i64 c, .slice a xs.length m]] w (MatRes (turnM r c xs) w) := by
  rcases Bool.eq_false_or_eq_true (isMat r c xs) with hm | hm
  · obtain ⟨⟨r1, r2⟩, ⟨c1, c2⟩, -, -⟩ := isMat_says hm
    obtain ⟨R, rfl⟩ := Int.eq_ofNat_of_zero_le r1
    obtain ⟨C, rfl⟩ := Int.eq_ofNat_of_zero_le c1
    have E : turnM R C xs = ⟨true, C, R, turnL R C xs⟩ := by unfold turnM; rw [hm]; simp
    rw [E]
    exact iTurn_t R C a m xs w h hn hm
  · have E : Hid (turnM r c xs = MR.no) := by show turnM r c xs = _; unfold turnM; rw [hm]; rfl
    have M := Lib.hid hm
    clear hm
    have B0 : ∀ o1 o2, Below w.heap.size w ((w.alloc o1).alloc o2) := fun o1 o2 => ((Below.refl _ _).alloc (Nat.le_refl _) _).alloc (by simp) _
    have BH := Lib.hid B0
    have H := Lib.hid h
    clear B0 h
    go_enter Try.func15, Try.ntmps15
    go_wp2_with fail
    refine (iIsMat r c a m xs _ (H.out.below (BH.out (.cells #[.int .i64 r, .int .i64 c, .slice a xs.length m] 26) (.cells #[.int .i64 0, .int .i64 0, .slice none 0 0] 26))) hn).mono ?_
    rintro e w1 ⟨rfl, hb⟩
    have K0 : Hid (Blk3 w1 w.heap.size 26 (.int .i64 r) (.int .i64 c) (.slice a xs.length m)) := ((Blk3.at_ _ _ _ _ rfl).old _).keep hb (by simp <;> omega)
    have K2 : Hid (Blk3 w1 (w.heap.size + 1) 26 (.int .i64 0) (.int .i64 0) (.slice none 0 0)) := (Blk3.at_ _ _ _ _ (by simp)).keep hb (by simp)
    have B : Hid (Below w.heap.size w w1) := (BH.out _ _).trans (hb.mono (by simp <;> omega))
    clear hb
    obtain ⟨ca0, ca1, ca2, -, -, -⟩ := K0.out.all
    obtain ⟨cc0, cc1, cc2, ff0, ff1, ff2⟩ := K2.out.all
    rw [M.out]
    go_wp2_with fail
    obtain ⟨E0, E1, E2, -, -, -⟩ := (((K2.out.set0 (.int .i64 0)).set1 (.int .i64 0)).set2 (.slice none 0 0)).all
    rw [E.out]
    exact bodyPost_ret (v := .tuple #[.agg #[.int .i64 0, .int .i64 0, .slice none 0 0], .bool false]) (by simp [results, Try.results15, go_sem, E0, E1, E2]) rfl ⟨_, rfl, .inl ⟨rfl, rfl⟩, ((B.out.setCell (Nat.le_succ _) _).setCell (Nat.le_succ _) _).setCell (Nat.le_succ _) _⟩

end Go.Proofs.Ytpknondccajinaa
end

section
/-
  Chapter 3, in the program: MultiplyMatrices.
-/
namespace Go.Proofs.Ytpknondccajinaa
set_option maxRecDepth 100000
open Go.RowKit

/-! ### One step: a row of the second matrix, times a cell of the first one, is added to a row of the sums -/
def mrTo (L ys : List Int) (C i p : Nat) (t : Int) (j : Nat) : List Int := (List.range L.length).map fun q => if q / C = i ∧ q % C < j then L.getD q 0 + t * ys.getD (p * C + q % C) 0 else L.getD q 0
theorem mrTo_length (L ys : List Int) (C i p : Nat) (t : Int) (j : Nat) : (mrTo L ys C i p t j).length = L.length := by simp [mrTo]
theorem mrTo_getD (L ys : List Int) (C i p : Nat) (t : Int) (j q : Nat) (hq : q < L.length) : (mrTo L ys C i p t j).getD q 0 = if q / C = i ∧ q % C < j then L.getD q 0 + t * ys.getD (p * C + q % C) 0 else L.getD q 0 := by
  simp [mrTo, List.getD, hq]
theorem mrTo_zero (L ys : List Int) (C i p : Nat) (t : Int) : mrTo L ys C i p t 0 = L := by
  refine list_getD (mrTo_length _ _ _ _ _ _ _) fun q hq => ?_
  rw [mrTo_length] at hq
  rw [mrTo_getD _ _ _ _ _ _ _ _ hq, if_neg (by omega)]
theorem mrTo_at (L ys : List Int) (C i p : Nat) (t : Int) (j : Nat) (hj : j < C) (hq : i * C + j < L.length) : (mrTo L ys C i p t j).getD (i * C + j) 0 = L.getD (i * C + j) 0 := by
  rw [mrTo_getD _ _ _ _ _ _ _ _ hq, idx_mod hj, if_neg (by omega)]
theorem mrTo_step (L ys : List Int) (C i p : Nat) (t : Int) (j : Nat) (hj : j < C) (hq : i * C + j < L.length) : (mrTo L ys C i p t j).set (i * C + j) (L.getD (i * C + j) 0 + t * ys.getD (p * C + j) 0) = mrTo L ys C i p t (j + 1) := by
  refine list_getD (by rw [List.length_set, mrTo_length, mrTo_length]) fun q hq' => ?_
  rw [List.length_set, mrTo_length] at hq'
  rw [getD_set _ _ _ _ (by rw [mrTo_length]; exact hq), mrTo_getD _ _ _ _ _ _ _ _ hq', mrTo_getD _ _ _ _ _ _ _ _ hq']
  by_cases e : q = i * C + j
  · subst e
    rw [if_pos rfl, idx_div hj, idx_mod hj, if_pos ⟨rfl, by omega⟩]
  · rw [if_neg e]
    have hC : 0 < C := by omega
    by_cases h1 : q / C = i ∧ q % C < j
    · rw [if_pos h1, if_pos ⟨h1.1, by omega⟩]
    · rw [if_neg h1, if_neg]
      rintro ⟨h2, h3⟩
      have : q % C = j := by omega
      have hh : q / C * C + q % C = q := by rw [Nat.mul_comm]; exact Nat.div_add_mod q C
      rw [h2, this] at hh
      exact e hh.symm

set_option maxRecDepth 100000 in
set_option maxHeartbeats 1000000 in
theorem iMulStep (pb K C : Nat) (r : Value) (b : Option Addr) (nb : Nat) (ys : List Int) (n : Nat) (g m mc i p : Nat) (t : Int) (L : List Int) (w : World) (hp : Blk3 w pb 26 r (.int .i64 C) (.slice b n nb)) (hd : Rd w b ys) (hn : ys.length = n) (hy : n = K * C) (hC : C ≤ 24) (hK : K ≤ 24) (ny : nums ys = true)
    (hz : ∀ b' o : Nat, b = some ⟨b', o, none⟩ → 0 < n → b' ≠ g) (hne : pb ≠ g) (hI : Ints w g L) (hpK : p < K) (hm : ∀ j, j < C → i * C + j < m) (hl : m = L.length) (hb : m ≤ 576) (t1 : -400000000 ≤ t) (t2 : t ≤ 400000000)
    (bd : ∀ q : Nat, -4000000000000000000 ≤ L.getD q 0 ∧ L.getD q 0 ≤ 4000000000000000000) :
    Calls Try.prog 47 #[.slice (some ⟨g, 0, none⟩) m mc, .int .i64 (i : Int), .int .i64 (p : Int), .int .i64 t, .pointer (some ⟨pb, 0, none⟩)] w
      (fun e w2 => e = .returned (.slice (some ⟨g, 0, none⟩) m mc) ∧ Ints w2 g (mrTo L ys C i p t C) ∧ w.grownBy w2 (some g)) := by
  have I0 := Lib.hid hI
  have D := Lib.hid hd
  have HN := Lib.hid hn
  have HY := Lib.hid hy
  have NY := Lib.hid ny
  have HZ := Lib.hid hz
  have HM := Lib.hid hm
  have HL := Lib.hid hl
  have BD := Lib.hid bd
  have KP := Lib.hid hp
  obtain ⟨p0, p1, p2, -, -, -⟩ := hp.all
  clear hI hd hn hy ny hz hm hl bd hp
  go_enter Try.func47, Try.ntmps47
  go_wp2_with fail
  clear p0 p1 p2
  go_loopw [10, 13] (fun _ i' wr => ∃ j : Nat, i' = .int .i64 j ∧ j ≤ C ∧ Ints wr g (mrTo L ys C i p t j) ∧ w.grownBy wr (some g)) (fun _ i' _ => C - (intOf i').toNat)
  case atStart => exact ⟨0, rfl, by omega, by rw [mrTo_zero]; exact I0.out, World.grownBy.refl _ _⟩
  case round =>
    obtain ⟨j, rfl, hj, hi, hgr⟩ := hrel
    have I := Lib.hid hi
    have G := Lib.hid hgr
    clear hi hgr
    obtain ⟨p0, p1, p2, -, -, -⟩ := (KP.out.keepOne G.out hne).all
    by_cases hlt : j < C
    · have q1 : i * C + j < m := HM.out j hlt
      have q2 : p * C + j < n := by rw [HY.out]; exact idx_lt hpK hlt
      obtain ⟨b', o, rfl, hc2⟩ := D.out (p * C + j) (by rw [HN.out]; exact q2)
      have hbg : b' ≠ g := HZ.out b' o rfl (by omega)
      have hc2 := G.out.cell hc2 (by simpa using hbg)
      have hold := I.out.cell (i := i * C + j) (by rw [mrTo_length, ← HL.out]; exact q1)
      rw [mrTo_at L ys C i p t j hlt (by rw [← HL.out]; exact q1)] at hold
      have v1 := BD.out (i * C + j)
      have v2 := nums_at NY.out (j := p * C + j) (by rw [HN.out]; exact q2)
      obtain ⟨x, hx⟩ : ∃ x, L.getD (i * C + j) 0 = x := ⟨_, rfl⟩
      obtain ⟨y, hy⟩ : ∃ y, ys.getD (p * C + j) 0 = y := ⟨_, rfl⟩
      rw [hx] at hold v1
      rw [hy] at hc2 v2
      obtain ⟨v11, v12⟩ := v1
      obtain ⟨m1, m2⟩ := mul_num t y ⟨t1, t2⟩ v2
      have hfr := I.out.free (i * C + j)
      have XX := Lib.hid hx
      have YY := Lib.hid hy
      have n576 : n ≤ 576 := by rw [HY.out]; exact Nat.mul_le_mul hK hC
      have c1 : (i : Int) * (C : Int) = ((i * C : Nat) : Int) := (Int.natCast_mul _ _).symm
      have c2 : (p : Int) * (C : Int) = ((p * C : Nat) : Int) := (Int.natCast_mul _ _).symm
      have d1 : 0 ≤ (i : Int) * (C : Int) ∧ (i : Int) * (C : Int) ≤ 600 := by rw [c1]; omega
      have d2 : 0 ≤ (p : Int) * (C : Int) ∧ (p : Int) * (C : Int) ≤ 600 := by rw [c2]; omega
      have e1 : 0 ≤ (i : Int) * (C : Int) + (j : Int) := by omega
      have e2 : (i : Int) * (C : Int) + (j : Int) < (m : Int) := by rw [c1]; omega
      have e3 : ((i : Int) * (C : Int) + (j : Int)).toNat = i * C + j := by rw [c1]; omega
      have f1 : 0 ≤ (p : Int) * (C : Int) + (j : Int) := by omega
      have f2 : (p : Int) * (C : Int) + (j : Int) < (n : Int) := by rw [c2]; omega
      have f3 : ((p : Int) * (C : Int) + (j : Int)).toNat = p * C + j := by rw [c2]; omega
      obtain ⟨d11, d12⟩ := d1
      obtain ⟨d21, d22⟩ := d2
      have w1 : IntKind.i64.wrap ((i : Int) * (C : Int)) = (i : Int) * (C : Int) := IntWalk.i64_in _ (by omega)
      have w2 : IntKind.i64.wrap ((i : Int) * (C : Int) + (j : Int)) = (i : Int) * (C : Int) + (j : Int) := IntWalk.i64_in _ (by omega)
      have w3 : IntKind.i64.wrap ((p : Int) * (C : Int)) = (p : Int) * (C : Int) := IntWalk.i64_in _ (by omega)
      have w4 : IntKind.i64.wrap ((p : Int) * (C : Int) + (j : Int)) = (p : Int) * (C : Int) + (j : Int) := IntWalk.i64_in _ (by omega)
      have w5 : IntKind.i64.wrap (t * y) = t * y := IntWalk.i64_in _ (by omega)
      have w6 : IntKind.i64.wrap (x + t * y) = x + t * y := IntWalk.i64_in _ (by omega)
      clear c1 c2 hx hy v2 q1 q2
      go_wp2_with fail
      go_still_tail 23, (by kernel_rfl)
      go_wp2_with fail
      go_roundw
      case rel =>
        refine ⟨j + 1, by go_num, by omega, ?_, ?_⟩
        · rw [← mrTo_step L ys C i p t j hlt (by rw [← HL.out]; exact HM.out j hlt)]
          rw [XX.out, YY.out]
          first | exact I.out.set (i * C + j) _ | exact I.out.drew.set (i * C + j) _
        · first | exact grown_set_one G.out rfl _ | exact grown_drew_one (grown_set_one G.out rfl _)
      case measure => simp [intOf]; omega
    · obtain rfl : C = j := by omega
      go_wp2_with fail
      go_ret
      exact ⟨rfl, I.out, G.out⟩

/-! ### The sums after k cells -/
def mulTo (R K C : Nat) (xs ys : List Int) (k : Nat) : List Int := tab R C fun i j => dot K C xs ys i j (min K (k - i * K))
theorem mulTo_length (R K C : Nat) (xs ys : List Int) (k : Nat) : (mulTo R K C xs ys k).length = R * C := tab_length _ _ _
theorem mulTo_zero (R K C : Nat) (xs ys : List Int) : mulTo R K C xs ys 0 = List.replicate (R * C) 0 := by
  apply List.ext_getElem (by simp [mulTo, tab])
  intro i h1 h2
  simp [mulTo, tab, dot]
theorem mulTo_all (R K C : Nat) (xs ys : List Int) : mulTo R K C xs ys (R * K) = mulL R K C xs ys := by
  refine tab_ext (mulTo_length _ _ _ _ _ _) fun i j hi hj => ?_
  unfold mulTo
  rw [tab_at R C _ hi hj]
  have h : (i + 1) * K ≤ R * K := Nat.mul_le_mul_right K hi
  rw [Nat.add_mul, Nat.one_mul] at h
  rw [show min K (R * K - i * K) = K by omega]
theorem mulTo_step (R K C : Nat) (xs ys : List Int) {i p : Nat} (hi : i < R) (hp : p < K) : mrTo (mulTo R K C xs ys (i * K + p)) ys C i p (xs.getD (i * K + p) 0) C = mulTo R K C xs ys (i * K + p + 1) := by
  refine tab_ext (by rw [mrTo_length, mulTo_length]) fun i' j' hi' hj' => ?_
  rw [mrTo_getD _ _ _ _ _ _ _ _ (by rw [mulTo_length]; exact idx_lt hi' hj'), idx_div hj', idx_mod hj']
  have e0 : (mulTo R K C xs ys (i * K + p)).getD (i' * C + j') 0 = dot K C xs ys i' j' (min K (i * K + p - i' * K)) := by unfold mulTo; rw [tab_at R C _ hi' hj']
  rw [e0]
  by_cases e : i' = i
  · subst e
    rw [if_pos ⟨rfl, hj'⟩, show min K (i' * K + p - i' * K) = p by omega, show min K (i' * K + p + 1 - i' * K) = p + 1 by omega]
    rfl
  · rw [if_neg (fun h => e h.1)]
    rcases Nat.lt_or_gt_of_ne e with h | h
    · have : (i' + 1) * K ≤ i * K := Nat.mul_le_mul_right K h
      rw [Nat.add_mul, Nat.one_mul] at this
      rw [show min K (i * K + p - i' * K) = K by omega, show min K (i * K + p + 1 - i' * K) = K by omega]
    · have : (i + 1) * K ≤ i' * K := Nat.mul_le_mul_right K h
      rw [Nat.add_mul, Nat.one_mul] at this
      rw [show min K (i * K + p - i' * K) = 0 by omega, show min K (i * K + p + 1 - i' * K) = 0 by omega]
theorem mulTo_bd (R K C : Nat) (xs ys : List Int) (hx : nums xs = true) (hy : nums ys = true) (lx : xs.length = R * K) (ly : ys.length = K * C) (hK : K ≤ 24) (k q : Nat) : -4000000000000000000 ≤ (mulTo R K C xs ys k).getD q 0 ∧ (mulTo R K C xs ys k).getD q 0 ≤ 4000000000000000000 := by
  rcases Nat.lt_or_ge q (R * C) with hq | hq
  · have hC : 0 < C := by
      rcases Nat.eq_zero_or_pos C with e | e
      · rw [e, Nat.mul_zero] at hq; omega
      · exact e
    have hi : q / C < R := Nat.div_lt_of_lt_mul (by rw [Nat.mul_comm]; exact hq)
    have hj : q % C < C := Nat.mod_lt q hC
    have e : q / C * C + q % C = q := by rw [Nat.mul_comm]; exact Nat.div_add_mod q C
    have := dot_bd (K := K) (C := C) (xs := xs) (ys := ys) (i := q / C) (j := q % C) (fun p hp => nums_at hx (by rw [lx]; exact idx_lt hi hp)) (fun p hp => nums_at hy (by rw [ly]; exact idx_lt hp hj)) (min K (k - q / C * K)) (Nat.min_le_left _ _)
    have e0 : (mulTo R K C xs ys k).getD q 0 = dot K C xs ys (q / C) (q % C) (min K (k - q / C * K)) := by
      rw [← e]
      unfold mulTo
      rw [tab_at R C _ hi hj, e]
    rw [e0]
    have hmin : min K (k - q / C * K) ≤ 24 := Nat.le_trans (Nat.min_le_left _ _) hK
    omega
  · have e0 : (mulTo R K C xs ys k).getD q 0 = 0 := by
      simp [List.getD, mulTo_length, hq]
    rw [e0]; omega
theorem mulStepOf (pb R K C nx n g m : Nat) (r : Value) (b : Option Addr) (nb : Nat) (xs ys : List Int) (w : World) (hp : Blk3 w pb 26 r (.int .i64 C) (.slice b n nb)) (hd : Rd w b ys) (hx : xs.length = nx) (hnx : nx = R * K) (hn : ys.length = n) (hy : n = K * C) (hR : R ≤ 24) (hK : K ≤ 24) (hC : C ≤ 24) (mx : nums xs = true) (ny : nums ys = true)
    (hz : ∀ b' o : Nat, b = some ⟨b', o, none⟩ → 0 < n → b' ≠ g) (hne : pb ≠ g) (hm : m = R * C) :
    ∀ (k : Nat) (w1 : World), k < nx → w.grownBy w1 (some g) → Ints w1 g (mulTo R K C xs ys k) → Calls Try.prog 47 #[.slice (some ⟨g, 0, none⟩) m m, .int .i64 ((k : Int) / (K : Int)), .int .i64 ((k : Int) % (K : Int)), .int .i64 (xs.getD k 0), .pointer (some ⟨pb, 0, none⟩)] w1
      (fun e w2 => e = .returned (.slice (some ⟨g, 0, none⟩) m m) ∧ Ints w2 g (mulTo R K C xs ys (k + 1)) ∧ w1.grownBy w2 (some g)) := by
  intro k w1 hk hg hI
  have hK0 : 0 < K := by
    rcases Nat.eq_zero_or_pos K with e | e
    · rw [e, Nat.mul_zero] at hnx; omega
    · exact e
  have e1 : k / K * K + k % K = k := by rw [Nat.mul_comm]; exact Nat.div_add_mod k K
  have hj : k % K < K := Nat.mod_lt k hK0
  have hi : k / K < R := Nat.div_lt_of_lt_mul (by rw [Nat.mul_comm, ← hnx]; exact hk)
  have st := mulTo_step R K C xs ys hi hj
  rw [e1] at st
  rw [← Int.natCast_ediv, ← Int.natCast_emod]
  have mle : m ≤ 576 := by rw [hm]; exact Nat.mul_le_mul hR hC
  have tb := nums_at mx (j := k) (by rw [hx]; exact hk)
  have hd1 : Rd w1 b ys := fun i hi => by
    obtain ⟨b', o, rfl, hc⟩ := hd i hi
    exact ⟨b', o, rfl, hg.cell hc (by simpa using hz b' o rfl (by omega))⟩
  refine (iMulStep pb K C r b nb ys n g m m (k / K) (k % K) (xs.getD k 0) _ w1 (hp.keepOne hg hne) hd1 hn hy hC hK ny hz hne hI hj (fun j hj' => by rw [hm]; exact idx_lt hi hj') (by rw [mulTo_length, hm]) mle tb.1 tb.2 (mulTo_bd R K C xs ys mx ny (by rw [hx, hnx]) (by rw [hn, hy]) hK k)).mono ?_
  rintro e w2 ⟨h1, h2, h3⟩
  rw [st] at h2
  exact ⟨h1, h2, h3⟩

set_option maxRecDepth 100000 in
set_option maxHeartbeats 1000000 in
theorem iMul_t (R K C : Nat) (a b : Option Addr) (m n : Nat) (xs ys : List Int) (w : World) (h : Rd w a xs) (h' : Rd w b ys) (hn : xs.length ≤ 16777216) (hn' : ys.length ≤ 16777216)
    (hm : isMat R K xs = true) (hm' : isMat K C ys = true) :
    Calls Try.prog 13 #[.agg #[.int .i64 R, .int .i64 K, .slice a xs.length m], .agg #[.int .i64 K, .int .i64 C, .slice b ys.length n]] w (MatRes (MR.done R C (mulL R K C xs ys)) w) := by
  obtain ⟨⟨r1, r2⟩, ⟨k1, k2⟩, l1, nx⟩ := isMat_says hm
  obtain ⟨-, ⟨c1, c2⟩, l2, ny⟩ := isMat_says hm'
  rw [← Int.natCast_mul] at l1 l2
  have hR : R ≤ 24 := by omega
  have hK : K ≤ 24 := by omega
  have hC : C ≤ 24 := by omega
  have hle : R * C ≤ 24 * 24 := Nat.mul_le_mul hR hC
  obtain ⟨nxs, hx⟩ : ∃ n, xs.length = n := ⟨_, rfl⟩
  obtain ⟨nys, hy⟩ : ∃ n, ys.length = n := ⟨_, rfl⟩
  have HX := Lib.hid hx
  have HY := Lib.hid hy
  have HXN : Hid (nxs = R * K) := by show nxs = R * K; omega
  have HYN : Hid (nys = K * C) := by show nys = K * C; omega
  have hmk := makeProd R C (by omega)
  have hp1 : (0 : Int) ≤ (R : Int) * (C : Int) := by rw [← Int.natCast_mul]; omega
  have hp2 : (R : Int) * (C : Int) ≤ 16777216 := by rw [← Int.natCast_mul]; omega
  have hp3 : IntKind.i64.wrap ((R : Int) * (C : Int)) = (R : Int) * (C : Int) := IntWalk.i64_in _ (by omega)
  obtain ⟨N, hN⟩ : ∃ N, R * C = N := ⟨_, rfl⟩
  have HN := Lib.hid hN
  rw [hN] at hmk hle
  have NX := Lib.hid nx
  have NY := Lib.hid ny
  have M := Lib.hid hm
  have M' := Lib.hid hm'
  rw [hx] at hn ⊢
  rw [hy] at hn' ⊢
  have B0 : ∀ o1 o2 o3, Below w.heap.size w (((w.alloc o1).alloc o2).alloc o3) := fun o1 o2 o3 => (((Below.refl _ _).alloc (Nat.le_refl _) _).alloc (by simp) _).alloc (by simp <;> omega) _
  have BH := Lib.hid B0
  have H := Lib.hid h
  have H' := Lib.hid h'
  clear r1 r2 k1 k2 c1 c2 l1 l2 nx ny hm hm' hx hy hN h h' B0
  go_enter Try.func13, Try.ntmps13
  go_wp2_with fail
  have ST := iIsMat R K a m xs _ (H.out.below (BH.out (.cells #[.int .i64 R, .int .i64 K, .slice a nxs m] 26) (.cells #[.int .i64 K, .int .i64 C, .slice b nys n] 26) (.cells #[.int .i64 0, .int .i64 0, .slice none 0 0] 26))) (by rw [HX.out]; omega)
  rw [HX.out] at ST
  refine ST.mono ?_
  clear ST
  rintro e w1 ⟨rfl, hb⟩
  have K0 : Hid (Blk3 w1 w.heap.size 26 (.int .i64 R) (.int .i64 K) (.slice a nxs m)) := (((Blk3.at_ _ _ _ _ rfl).old _).old _).keep hb (by simp <;> omega)
  have K1 : Hid (Blk3 w1 (w.heap.size + 1) 26 (.int .i64 K) (.int .i64 C) (.slice b nys n)) := ((Blk3.at_ _ _ _ _ (by simp)).old _).keep hb (by simp <;> omega)
  have K2 : Hid (Blk3 w1 (w.heap.size + 1 + 1) 26 (.int .i64 0) (.int .i64 0) (.slice none 0 0)) := (Blk3.at_ _ _ _ _ (by simp)).keep hb (by simp)
  have B : Hid (Below w.heap.size w w1) := (BH.out _ _ _).trans (hb.mono (by simp <;> omega))
  clear hb
  obtain ⟨c0, c1, c2, -, -, -⟩ := K0.out.all
  obtain ⟨d0, d1, d2, -, -, -⟩ := K1.out.all
  rw [M.out]
  go_wp2_with fail
  have ST := iIsMat K C b n ys _ (H'.out.below B.out) (by rw [HY.out]; omega)
  rw [HY.out] at ST
  refine ST.mono ?_
  clear ST
  rintro e w2 ⟨rfl, hb⟩
  have K0 := Lib.hid (K0.out.step hb)
  have K1 := Lib.hid (K1.out.step hb)
  have K2 := Lib.hid (K2.out.step hb)
  have B := Lib.hid (stepB B.out hb)
  clear hb
  obtain ⟨e0, e1, e2, -, -, -⟩ := K0.out.all
  obtain ⟨g0, g1, g2, -, -, -⟩ := K1.out.all
  rw [M'.out]
  go_upto_region 3 with fail
  refine wp_region_held_drew (S := fun w' => Below w2.heap.size w2 w') (by kernel_rfl) (Below.refl _ _).drew (fun hH => ?_)
  refine wpAnyH_take (i := 0) (v := ?_) (by simp only [List.getElem?_toArray, List.getElem?_cons_zero]; rfl) (by kernel_rfl) (by kernel_rfl) (by kernel_rfl) (by exact fun _ _ _ h => h) (Or.inl ⟨by rfl, ?_⟩) hH ?_
  rotate_left
  · (intro wS hS; (try dsimp only at hS); obtain ⟨k1, k2, k3, k4, k5, k6⟩ := six K0.out K1.out hS; go_simp; try rfl)
  try simp only [Act.put, List.setIfInBounds_toArray, List.set_cons_zero, List.set_cons_succ]
  refine wpAnyH_take (i := 1) (v := ?_) (by simp only [List.getElem?_toArray, List.getElem?_cons_succ, List.getElem?_cons_zero]; rfl) (by kernel_rfl) (by kernel_rfl) (by kernel_rfl) (by exact fun _ _ _ h => h) (Or.inl ⟨by rfl, ?_⟩) hH ?_
  rotate_left
  · (intro wS hS; (try dsimp only at hS); obtain ⟨k1, k2, k3, k4, k5, k6⟩ := six K0.out K1.out hS; go_simp; try rfl)
  try simp only [Act.put, List.setIfInBounds_toArray, List.set_cons_zero, List.set_cons_succ]
  refine wpAnyH_take (i := 2) (v := ?_) (by simp only [List.getElem?_toArray, List.getElem?_cons_succ, List.getElem?_cons_zero]; rfl) (by kernel_rfl) (by kernel_rfl) (by kernel_rfl) (by exact fun _ _ _ h => h) (Or.inl ⟨by rfl, ?_⟩) hH ?_
  rotate_left
  · (intro wS hS; (try dsimp only at hS); obtain ⟨k1, k2, k3, k4, k5, k6⟩ := six K0.out K1.out hS; go_simp; try rfl)
  try simp only [Act.put, List.setIfInBounds_toArray, List.set_cons_zero, List.set_cons_succ]
  refine wpAnyH_take (i := 3) (v := ?_) (by simp only [List.getElem?_toArray, List.getElem?_cons_succ, List.getElem?_cons_zero]; rfl) (by kernel_rfl) (by kernel_rfl) (by kernel_rfl) (by exact fun _ _ _ h => h) (Or.inl ⟨by rfl, ?_⟩) hH ?_
  rotate_left
  · (intro wS hS; (try dsimp only at hS); obtain ⟨k1, k2, k3, k4, k5, k6⟩ := six K0.out K1.out hS; go_simp; try rfl)
  try simp only [Act.put, List.setIfInBounds_toArray, List.set_cons_zero, List.set_cons_succ]
  refine wpAnyH_take (i := 4) (v := ?_) (by simp only [List.getElem?_toArray, List.getElem?_cons_succ, List.getElem?_cons_zero]; rfl) (by kernel_rfl) (by kernel_rfl) (by kernel_rfl) (by exact fun _ _ _ h => h) (Or.inl ⟨by rfl, ?_⟩) hH ?_
  rotate_left
  · (intro wS hS; (try dsimp only at hS); obtain ⟨k1, k2, k3, k4, k5, k6⟩ := six K0.out K1.out hS; go_simp; try rfl)
  try simp only [Act.put, List.setIfInBounds_toArray, List.set_cons_zero, List.set_cons_succ]
  refine wpAnyH_take (i := 5) (v := ?_) (by simp only [List.getElem?_toArray, List.getElem?_cons_succ, List.getElem?_cons_zero]; rfl) (by kernel_rfl) (by kernel_rfl) (by kernel_rfl) (by exact fun _ _ _ h => h) (Or.inl ⟨by rfl, ?_⟩) hH ?_
  rotate_left
  · (intro wS hS; clear hS; go_simp; try rfl)
  try simp only [Act.put, List.setIfInBounds_toArray, List.set_cons_zero, List.set_cons_succ]
  refine wpAnyH_take (i := 7) (v := ?_) (by simp only [List.getElem?_toArray, List.getElem?_cons_succ, List.getElem?_cons_zero]; rfl) (by kernel_rfl) (by kernel_rfl) (by kernel_rfl) (by exact fun _ _ _ h => h) (Or.inl ⟨by rfl, ?_⟩) hH ?_
  rotate_left
  · (intro wS hS; clear hS; go_simp; try rfl)
  try simp only [Act.put, List.setIfInBounds_toArray, List.set_cons_zero, List.set_cons_succ]
  refine wpAnyH_ready (rs := [6]) (by kernel_rfl) (by simp) ?_
  refine AllReadyH.cons (by simp only [List.getElem?_toArray, List.getElem?_cons_succ, List.getElem?_cons_zero]; rfl) (fun KK hKK => ?_) AllReadyH.nil
  go_simp
  have I0 : Hid (Ints (w2.alloc (.cells (madeCells #[.int .i64 0] N) 3)) w2.heap.size (List.replicate N 0)) := Ints.made N rfl
  try dsimp only
  refine hKK.out _ _ ?_ (fun hH2 => ?_)
  · exact hH.alloc hH.size _
  clear hKK KK
  have hO := hH
  clear hH
  have hH := hH2
  clear hH2
  try simp only [Act.put, List.setIfInBounds_toArray, List.set_cons_zero, List.set_cons_succ]
  refine wpAnyH_ready (rs := [8]) (by kernel_rfl) (by simp) ?_
  refine AllReadyH.cons (by simp only [List.getElem?_toArray, List.getElem?_cons_succ, List.getElem?_cons_zero]; rfl) (fun KK hKK => ?_) AllReadyH.nil
  go_simp
  refine (iFoldM (w.heap.size + 1) R K nxs a m xs w2.heap.size N N (mulTo R K C xs ys) _ HX.out (H.out.below (B.out.trans (hH.mono B.out.size))) HXN.out hR hK (by rw [mulTo_zero, HN.out]; first | exact I0.out | exact I0.out.drew) (far_of (H.out.below B.out) HX.out) (mulStepOf (w.heap.size + 1) R K C nxs nys w2.heap.size N _ b n xs ys _ (K1.out.keep hH K1.out.lt) (H'.out.below (B.out.trans (hH.mono B.out.size))) HX.out HXN.out HY.out HYN.out hR hK hC NX.out NY.out (far_of (H'.out.below B.out) HY.out) (Nat.ne_of_lt K1.out.lt) HN.out.symm)).mono ?_
  rintro e v1 ⟨rfl, hi, hg⟩
  have I2 := Lib.hid hi
  clear hi
  try dsimp only
  refine hKK.out _ _ ?_ (fun hH2 => ?_)
  · exact hH.trans (below_of_one hg (Nat.le_refl _) hH.size)
  clear hKK KK
  have hO := hH
  clear hH
  have hH := hH2
  clear hH2
  try simp only [Act.put, List.setIfInBounds_toArray, List.set_cons_zero, List.set_cons_succ]
  refine wpAnyH_take (i := 9) (v := ?_) (by simp only [List.getElem?_toArray, List.getElem?_cons_succ, List.getElem?_cons_zero]; rfl) (by kernel_rfl) (by kernel_rfl) (by kernel_rfl) (by exact fun _ _ _ h => h) (Or.inl ⟨by rfl, ?_⟩) hH ?_
  rotate_left
  · (intro wS hS; clear hS; go_simp; try rfl)
  try simp only [Act.put, List.setIfInBounds_toArray, List.set_cons_zero, List.set_cons_succ]
  refine wpAnyH_done (by kernel_rfl) ?_ _
  have hb := hH
  clear hH hO hg
  have EQ : mulTo R K C xs ys nxs = mulL R K C xs ys := by rw [HXN.out]; exact mulTo_all R K C xs ys
  rw [EQ] at I2
  have HL : Hid ((mulL R K C xs ys).length = N) := by show (mulL R K C xs ys).length = N; unfold mulL; rw [tab_length, HN.out]
  have gl := K2.out.lt
  have K0 := Lib.hid (K0.out.step hb)
  have K1 := Lib.hid (K1.out.step hb)
  have R2 := Lib.hid (K2.out.step hb)
  have B := Lib.hid (stepB B.out hb)
  clear hb EQ
  obtain ⟨u0, u1, u2, -, -, -⟩ := K0.out.all
  obtain ⟨y0, y1, y2, -, -, -⟩ := K1.out.all
  go_wp2_with fail
  have ST := iDone R C (some ⟨w2.heap.size, 0, none⟩) N (mulL R K C xs ys) _ I2.out.rd (by rw [HL.out]; omega)
  rw [HL.out] at ST
  refine ST.mono ?_
  clear ST
  rintro e w4 ⟨rfl, hb⟩
  have R2 := Lib.hid (R2.out.step hb)
  have I2 := Lib.hid (I2.out.keep hb I2.out.lt)
  have B := Lib.hid (stepB B.out hb)
  clear hb
  obtain ⟨s0, s1, s2, t0, t1, t2⟩ := R2.out.all
  have be : ∀ x y z, Below w.heap.size w (((w4.setCell ⟨w.heap.size + 1 + 1, 0, none⟩ x).setCell ⟨w.heap.size + 1 + 1, 1, none⟩ y).setCell ⟨w.heap.size + 1 + 1, 2, none⟩ z) := fun x y z =>
    (((B.out.setCell (by show w.heap.size ≤ w.heap.size + 1 + 1; omega) _).setCell (by show w.heap.size ≤ w.heap.size + 1 + 1; omega) _).setCell (by show w.heap.size ≤ w.heap.size + 1 + 1; omega) _)
  have BE := Lib.hid be
  clear be
  rcases Bool.eq_false_or_eq_true (isMat R C (mulL R K C xs ys)) with hd | hd
  · have E : Hid (MR.done R C (mulL R K C xs ys) = ⟨true, R, C, mulL R K C xs ys⟩) := by show MR.done R C (mulL R K C xs ys) = _; unfold MR.done; rw [hd]; rfl
    rw [hd]
    clear hd
    unfold DoneRes
    go_wp2_with fail
    obtain ⟨E0, E1, E2, -, -, -⟩ := (((R2.out.set0 (.int .i64 R)).set1 (.int .i64 C)).set2 (.slice (some ⟨w2.heap.size, 0, none⟩) N N)).all
    rw [E.out]
    refine bodyPost_ret (v := .tuple #[.agg #[.int .i64 R, .int .i64 C, .slice (some ⟨w2.heap.size, 0, none⟩) N N], .bool true]) (by simp [results, Try.results13, go_sem, E0, E1, E2]) rfl ⟨_, rfl, ?_, ?_⟩
    · refine .inr ⟨w2.heap.size, N, by rw [HL.out], by omega, ?_, by rw [HL.out]; omega, by rw [HL.out]; omega⟩
      exact ((I2.out.far (by show w2.heap.size ≠ w.heap.size + 1 + 1; omega) _).far (by show w2.heap.size ≠ w.heap.size + 1 + 1; omega) _).far (by show w2.heap.size ≠ w.heap.size + 1 + 1; omega) _
    · exact BE.out _ _ _
  · have E : Hid (MR.done R C (mulL R K C xs ys) = MR.no) := by show MR.done R C (mulL R K C xs ys) = _; unfold MR.done; rw [hd]; rfl
    rw [hd]
    clear hd
    unfold DoneRes
    go_wp2_with fail
    obtain ⟨E0, E1, E2, -, -, -⟩ := (((R2.out.set0 (.int .i64 0)).set1 (.int .i64 0)).set2 (.slice none 0 0)).all
    rw [E.out]
    exact bodyPost_ret (v := .tuple #[.agg #[.int .i64 0, .int .i64 0, .slice none 0 0], .bool false]) (by simp [results, Try.results13, go_sem, E0, E1, E2]) rfl ⟨_, rfl, .inl ⟨rfl, rfl⟩, BE.out _ _ _⟩
set_option maxRecDepth 100000 in
set_option maxHeartbeats 1000000 in
theorem iMul (r c r' c' : Int) (a b : Option Addr) (m n : Nat) (xs ys : List Int) (w : World) (h : Rd w a xs) (h' : Rd w b ys) (hn : xs.length ≤ 16777216) (hn' : ys.length ≤ 16777216) :
    Calls Try.prog 13 #[.agg #[.int .i64 r, .int .i64 c, .slice a xs.length m], .agg #[.int .i64 r', .int .i64 c', .slice b ys.length n]] w (MatRes (mulM r c xs r' c' ys) w) := by
  rcases Bool.eq_false_or_eq_true (isMat r c xs) with hm | hm
  · rcases Bool.eq_false_or_eq_true (isMat r' c' ys) with hm' | hm'
    · by_cases e1 : c = r'
      · subst e1
        obtain ⟨⟨r1, r2⟩, ⟨k1, k2⟩, -, -⟩ := isMat_says hm
        obtain ⟨-, ⟨c1, c2⟩, -, -⟩ := isMat_says hm'
        obtain ⟨R, rfl⟩ := Int.eq_ofNat_of_zero_le r1
        obtain ⟨K, rfl⟩ := Int.eq_ofNat_of_zero_le k1
        obtain ⟨C, rfl⟩ := Int.eq_ofNat_of_zero_le c1
        have E : mulM R K xs K C ys = MR.done R C (mulL R K C xs ys) := by unfold mulM; rw [hm, hm']; simp
        rw [E]
        exact iMul_t R K C a b m n xs ys w h h' hn hn' hm hm'
      · have E : Hid (mulM r c xs r' c' ys = MR.no) := by show mulM r c xs r' c' ys = _; unfold mulM; rw [hm, hm']; simp [e1]
        have n1 : (c == r') = false := by simpa using e1
        have n2 : (c != r') = true := by simpa using e1
        have B0 : ∀ o1 o2 o3, Below w.heap.size w (((w.alloc o1).alloc o2).alloc o3) := fun o1 o2 o3 => (((Below.refl _ _).alloc (Nat.le_refl _) _).alloc (by simp) _).alloc (by simp <;> omega) _
        have BH := Lib.hid B0
        have H := Lib.hid h
        have H' := Lib.hid h'
        clear B0 h h'
        have M := Lib.hid hm
        have M' := Lib.hid hm'
        clear hm hm' e1
        go_enter Try.func13, Try.ntmps13
        go_wp2_with fail
        refine (iIsMat r c a m xs _ (H.out.below (BH.out (.cells #[.int .i64 r, .int .i64 c, .slice a xs.length m] 26) (.cells #[.int .i64 r', .int .i64 c', .slice b ys.length n] 26) (.cells #[.int .i64 0, .int .i64 0, .slice none 0 0] 26))) hn).mono ?_
        rintro e w1 ⟨rfl, hb⟩
        have K0 : Hid (Blk3 w1 w.heap.size 26 (.int .i64 r) (.int .i64 c) (.slice a xs.length m)) := (((Blk3.at_ _ _ _ _ rfl).old _).old _).keep hb (by simp <;> omega)
        have K1 : Hid (Blk3 w1 (w.heap.size + 1) 26 (.int .i64 r') (.int .i64 c') (.slice b ys.length n)) := ((Blk3.at_ _ _ _ _ (by simp)).old _).keep hb (by simp <;> omega)
        have K2 : Hid (Blk3 w1 (w.heap.size + 1 + 1) 26 (.int .i64 0) (.int .i64 0) (.slice none 0 0)) := (Blk3.at_ _ _ _ _ (by simp)).keep hb (by simp)
        have B : Hid (Below w.heap.size w w1) := (BH.out _ _ _).trans (hb.mono (by simp <;> omega))
        clear hb
        obtain ⟨ca0, ca1, ca2, -, -, -⟩ := K0.out.all
        obtain ⟨cb0, cb1, cb2, -, -, -⟩ := K1.out.all
        obtain ⟨cc0, cc1, cc2, ff0, ff1, ff2⟩ := K2.out.all
        rw [M.out]
        go_wp2_with fail
        refine (iIsMat r' c' b n ys _ (H'.out.below B.out) hn').mono ?_
        rintro e w2 ⟨rfl, hb⟩
        have K0 := Lib.hid (K0.out.keep hb K0.out.lt)
        have K1 := Lib.hid (K1.out.keep hb K1.out.lt)
        have K2 := Lib.hid (K2.out.keep hb K2.out.lt)
        have B := Lib.hid (B.out.trans (hb.mono B.out.size))
        clear hb
        obtain ⟨da0, da1, da2, -, -, -⟩ := K0.out.all
        obtain ⟨db0, db1, db2, -, -, -⟩ := K1.out.all
        obtain ⟨dc0, dc1, dc2, gf0, gf1, gf2⟩ := K2.out.all
        rw [M'.out]
        go_wp2_with fail
        obtain ⟨E0, E1, E2, -, -, -⟩ := (((K2.out.set0 (.int .i64 0)).set1 (.int .i64 0)).set2 (.slice none 0 0)).all
        rw [E.out]
        exact bodyPost_ret (v := .tuple #[.agg #[.int .i64 0, .int .i64 0, .slice none 0 0], .bool false]) (by simp [results, Try.results13, go_sem, E0, E1, E2]) rfl ⟨_, rfl, .inl ⟨rfl, rfl⟩, ((B.out.setCell (by show w.heap.size ≤ w.heap.size + 1 + 1; omega) _).setCell (by show w.heap.size ≤ w.heap.size + 1 + 1; omega) _).setCell (by show w.heap.size ≤ w.heap.size + 1 + 1; omega) _⟩
    · have E : Hid (mulM r c xs r' c' ys = MR.no) := by show mulM r c xs r' c' ys = _; unfold mulM; rw [hm, hm']; simp
      have B0 : ∀ o1 o2 o3, Below w.heap.size w (((w.alloc o1).alloc o2).alloc o3) := fun o1 o2 o3 => (((Below.refl _ _).alloc (Nat.le_refl _) _).alloc (by simp) _).alloc (by simp <;> omega) _
      have BH := Lib.hid B0
      have H := Lib.hid h
      have H' := Lib.hid h'
      clear B0 h h'
      have M := Lib.hid hm
      have M' := Lib.hid hm'
      clear hm hm'
      go_enter Try.func13, Try.ntmps13
      go_wp2_with fail
      refine (iIsMat r c a m xs _ (H.out.below (BH.out (.cells #[.int .i64 r, .int .i64 c, .slice a xs.length m] 26) (.cells #[.int .i64 r', .int .i64 c', .slice b ys.length n] 26) (.cells #[.int .i64 0, .int .i64 0, .slice none 0 0] 26))) hn).mono ?_
      rintro e w1 ⟨rfl, hb⟩
      have K0 : Hid (Blk3 w1 w.heap.size 26 (.int .i64 r) (.int .i64 c) (.slice a xs.length m)) := (((Blk3.at_ _ _ _ _ rfl).old _).old _).keep hb (by simp <;> omega)
      have K1 : Hid (Blk3 w1 (w.heap.size + 1) 26 (.int .i64 r') (.int .i64 c') (.slice b ys.length n)) := ((Blk3.at_ _ _ _ _ (by simp)).old _).keep hb (by simp <;> omega)
      have K2 : Hid (Blk3 w1 (w.heap.size + 1 + 1) 26 (.int .i64 0) (.int .i64 0) (.slice none 0 0)) := (Blk3.at_ _ _ _ _ (by simp)).keep hb (by simp)
      have B : Hid (Below w.heap.size w w1) := (BH.out _ _ _).trans (hb.mono (by simp <;> omega))
      clear hb
      obtain ⟨ca0, ca1, ca2, -, -, -⟩ := K0.out.all
      obtain ⟨cb0, cb1, cb2, -, -, -⟩ := K1.out.all
      obtain ⟨cc0, cc1, cc2, ff0, ff1, ff2⟩ := K2.out.all
      rw [M.out]
      go_wp2_with fail
      refine (iIsMat r' c' b n ys _ (H'.out.below B.out) hn').mono ?_
      rintro e w2 ⟨rfl, hb⟩
      have K0 := Lib.hid (K0.out.keep hb K0.out.lt)
      have K1 := Lib.hid (K1.out.keep hb K1.out.lt)
      have K2 := Lib.hid (K2.out.keep hb K2.out.lt)
      have B := Lib.hid (B.out.trans (hb.mono B.out.size))
      clear hb
      obtain ⟨da0, da1, da2, -, -, -⟩ := K0.out.all
      obtain ⟨db0, db1, db2, -, -, -⟩ := K1.out.all
      obtain ⟨dc0, dc1, dc2, gf0, gf1, gf2⟩ := K2.out.all
      rw [M'.out]
      go_wp2_with fail
      obtain ⟨E0, E1, E2, -, -, -⟩ := (((K2.out.set0 (.int .i64 0)).set1 (.int .i64 0)).set2 (.slice none 0 0)).all
      rw [E.out]
      exact bodyPost_ret (v := .tuple #[.agg #[.int .i64 0, .int .i64 0, .slice none 0 0], .bool false]) (by simp [results, Try.results13, go_sem, E0, E1, E2]) rfl ⟨_, rfl, .inl ⟨rfl, rfl⟩, ((B.out.setCell (by show w.heap.size ≤ w.heap.size + 1 + 1; omega) _).setCell (by show w.heap.size ≤ w.heap.size + 1 + 1; omega) _).setCell (by show w.heap.size ≤ w.heap.size + 1 + 1; omega) _⟩
  · have E : Hid (mulM r c xs r' c' ys = MR.no) := by show mulM r c xs r' c' ys = _; unfold mulM; rw [hm]; simp
    have B0 : ∀ o1 o2 o3, Below w.heap.size w (((w.alloc o1).alloc o2).alloc o3) := fun o1 o2 o3 => (((Below.refl _ _).alloc (Nat.le_refl _) _).alloc (by simp) _).alloc (by simp <;> omega) _
    have BH := Lib.hid B0
    have H := Lib.hid h
    have H' := Lib.hid h'
    clear B0 h h'
    have M := Lib.hid hm
    clear hm hn'
    go_enter Try.func13, Try.ntmps13
    go_wp2_with fail
    refine (iIsMat r c a m xs _ (H.out.below (BH.out (.cells #[.int .i64 r, .int .i64 c, .slice a xs.length m] 26) (.cells #[.int .i64 r', .int .i64 c', .slice b ys.length n] 26) (.cells #[.int .i64 0, .int .i64 0, .slice none 0 0] 26))) hn).mono ?_
    rintro e w1 ⟨rfl, hb⟩
    have K0 : Hid (Blk3 w1 w.heap.size 26 (.int .i64 r) (.int .i64 c) (.slice a xs.length m)) := (((Blk3.at_ _ _ _ _ rfl).old _).old _).keep hb (by simp <;> omega)
    have K1 : Hid (Blk3 w1 (w.heap.size + 1) 26 (.int .i64 r') (.int .i64 c') (.slice b ys.length n)) := ((Blk3.at_ _ _ _ _ (by simp)).old _).keep hb (by simp <;> omega)
    have K2 : Hid (Blk3 w1 (w.heap.size + 1 + 1) 26 (.int .i64 0) (.int .i64 0) (.slice none 0 0)) := (Blk3.at_ _ _ _ _ (by simp)).keep hb (by simp)
    have B : Hid (Below w.heap.size w w1) := (BH.out _ _ _).trans (hb.mono (by simp <;> omega))
    clear hb
    obtain ⟨ca0, ca1, ca2, -, -, -⟩ := K0.out.all
    obtain ⟨cb0, cb1, cb2, -, -, -⟩ := K1.out.all
    obtain ⟨cc0, cc1, cc2, ff0, ff1, ff2⟩ := K2.out.all
    rw [M.out]
    go_wp2_with fail
    obtain ⟨E0, E1, E2, -, -, -⟩ := (((K2.out.set0 (.int .i64 0)).set1 (.int .i64 0)).set2 (.slice none 0 0)).all
    rw [E.out]
    exact bodyPost_ret (v := .tuple #[.agg #[.int .i64 0, .int .i64 0, .slice none 0 0], .bool false]) (by simp [results, Try.results13, go_sem, E0, E1, E2]) rfl ⟨_, rfl, .inl ⟨rfl, rfl⟩, ((B.out.setCell (by show w.heap.size ≤ w.heap.size + 1 + 1; omega) _).setCell (by show w.heap.size ≤ w.heap.size + 1 + 1; omega) _).setCell (by show w.heap.size ≤ w.heap.size + 1 + 1; omega) _⟩
end Go.Proofs.Ytpknondccajinaa
end

section
/-
  Plain mathematics of chapter 6: a step of the elimination, cell by cell. Nothing of a program is used.
-/
namespace Go.Proofs.Ytpknondccajinaa

theorem tab_self {n : Nat} {xs : List Int} (hx : xs.length = n * n) : (tab n n fun i j => xs.getD (i * n + j) 0) = xs := (tab_ext hx fun _ _ _ _ => rfl).symm
/-- The cells ahead of row i, column j are done. -/
def elTo (n t : Nat) (last : Int) (xs : List Int) (i j : Nat) : List Int := tab n n fun p q => if t < p ∧ t < q ∧ (p < i ∨ (p = i ∧ q < j)) then elAt n t last xs p q else xs.getD (p * n + q) 0
theorem elTo_length (n t : Nat) (last : Int) (xs : List Int) (i j : Nat) : (elTo n t last xs i j).length = n * n := tab_length _ _ _
theorem elTo_at {n t : Nat} {last : Int} {xs : List Int} {i j p q : Nat} (hp : p < n) (hq : q < n) : (elTo n t last xs i j).getD (p * n + q) 0 = if t < p ∧ t < q ∧ (p < i ∨ (p = i ∧ q < j)) then elAt n t last xs p q else xs.getD (p * n + q) 0 := tab_at n n _ hp hq
theorem elTo_old {n t : Nat} {last : Int} {xs : List Int} {i j p q : Nat} (hp : p < n) (hq : q < n) (h : p ≤ t ∨ q ≤ t ∨ (p = i ∧ j ≤ q)) : (elTo n t last xs i j).getD (p * n + q) 0 = xs.getD (p * n + q) 0 := by
  rw [elTo_at hp hq, if_neg (by omega)]
theorem elTo_start {n t : Nat} {last : Int} {xs : List Int} (hx : xs.length = n * n) : elTo n t last xs (t + 1) (t + 1) = xs := by
  refine (tab_ext hx fun i j _ _ => ?_).symm
  rw [if_neg (by omega)]
theorem elTo_step {n t : Nat} {last : Int} {xs : List Int} {i j : Nat} (hi : i < n) (hj : j < n) (ti : t < i) (tj : t < j) : (elTo n t last xs i j).set (i * n + j) (elAt n t last xs i j) = elTo n t last xs i (j + 1) := by
  refine tab_ext (by rw [List.length_set, elTo_length]) fun p q hp hq => ?_
  rw [getD_set _ _ _ _ (by rw [elTo_length]; exact idx_lt hi hj), elTo_at hp hq]
  by_cases e : p * n + q = i * n + j
  · obtain ⟨rfl, rfl⟩ := idx_inj hq hj e
    rw [if_pos rfl, if_pos (by omega)]
  · rw [if_neg e]
    have : ¬ (p = i ∧ q = j) := fun h => e (by rw [h.1, h.2])
    by_cases h : t < p ∧ t < q ∧ (p < i ∨ (p = i ∧ q < j))
    · rw [if_pos h, if_pos (by omega)]
    · rw [if_neg h, if_neg (by omega)]
theorem elTo_row {n t : Nat} {last : Int} {xs : List Int} {i : Nat} : elTo n t last xs i n = elTo n t last xs (i + 1) (t + 1) := by
  refine tab_ext (elTo_length _ _ _ _ _ _) fun p q hp hq => ?_
  rw [elTo_at hp hq]
  by_cases h : t < p ∧ t < q ∧ (p < i ∨ (p = i ∧ q < n))
  · rw [if_pos h, if_pos (by omega)]
  · rw [if_neg h, if_neg (by omega)]
theorem elTo_all {n t : Nat} {last : Int} {xs : List Int} : elTo n t last xs n (t + 1) = elL n t last xs := by
  refine tab_ext (elTo_length _ _ _ _ _ _) fun p q hp hq => ?_
  rw [elTo_at hp hq]
  by_cases h : t < p ∧ t < q
  · rw [if_pos h, if_pos (by omega)]
  · rw [if_neg h, if_neg (by omega)]
theorem nums_set {zs : List Int} {k : Nat} {z : Int} (h : nums zs = true) (hz : NumP z) : nums (zs.set k z) = true := by
  rcases Nat.lt_or_ge k zs.length with hk | hk
  · refine nums_true fun j hj => ?_
    rw [List.length_set] at hj
    rw [getD_set _ _ _ _ hk]
    by_cases e : j = k
    · rw [if_pos e]; exact hz
    · rw [if_neg e]; exact nums_at h hj
  · rw [List.set_eq_of_length_le hk]; exact h
theorem elL_bad {n t : Nat} {last : Int} {xs : List Int} {i j : Nat} (hi : i < n) (hj : j < n) (ti : t < i) (tj : t < j) (h : ¬ NumP (elAt n t last xs i j)) : nums (elL n t last xs) ≠ true := by
  have := nums_false (zs := elL n t last xs) (j := i * n + j) (by rw [show (elL n t last xs).length = n * n from tab_length _ _ _]; exact idx_lt hi hj) (by rw [show (elL n t last xs).getD (i * n + j) 0 = elAt n t last xs i j from (tab_at n n _ hi hj).trans (if_pos ⟨ti, tj⟩)]; exact h)
  rw [this]; decide
theorem elL_tt {n t : Nat} {last : Int} {xs : List Int} (ht : t < n) : (elL n t last xs).getD (t * n + t) 0 = xs.getD (t * n + t) 0 := (tab_at n n _ ht ht).trans (if_neg (by omega))
theorem tdiv_in {x y b : Int} (h1 : -b ≤ x) (h2 : x ≤ b) : -b ≤ x.tdiv y ∧ x.tdiv y ≤ b := by
  have e : (x.tdiv y).natAbs = x.natAbs / y.natAbs := Int.natAbs_tdiv x y
  have l := Nat.div_le_self x.natAbs y.natAbs
  omega
/-- The swap makes numbers of numbers. -/
theorem pvL_nums {n t : Nat} {xs : List Int} (hx : xs.length = n * n) (hp : pivP n t xs < n) (ht : t < n) (h : nums xs = true) : nums (pvL n t xs) = true := by
  refine nums_true fun p hp' => ?_
  rw [pvL_length, hx] at hp'
  have e : p = p / n * n + p % n := by rw [Nat.mul_comm]; exact (Nat.div_add_mod p n).symm
  have h1 : p / n < n := Nat.div_lt_of_lt_mul hp'
  have h2 : p % n < n := Nat.mod_lt p (by omega)
  rw [e, pvL_at hx h1 h2]
  refine nums_at h ?_
  rw [hx]
  refine idx_lt ?_ h2
  split
  · exact hp
  · split
    · exact ht
    · exact h1
end Go.Proofs.Ytpknondccajinaa
end

section
/-
  Chapter 6, in the model: DeterminantBySteps.
-/
namespace Go.Proofs.Ytpknondccajinaa
set_option maxRecDepth 100000
open Go.RowKit

def stepsOf (r c : Int) (xs : List Int) : Int × Bool := if isSq r c xs = true then stepsM r.toNat xs else (0, false)
end Go.Proofs.Ytpknondccajinaa
end
