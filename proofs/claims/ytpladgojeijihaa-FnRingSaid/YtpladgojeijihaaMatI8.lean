/-
  Chapter 3, in the program: TransposeOf.
-/
import Derived.Test.YtpladgojeijihaaMatI7
namespace Go.Proofs.Ytpladgojeijihaa
open Go.RowKit

/-- What the first k cells give of the matrix turned over. -/
def turnTo (R C : Nat) (xs : List Int) (k : Nat) : List Int := tab C R fun j i => if i * C + j < k then xs.getD (i * C + j) 0 else 0
theorem turnTo_length (R C : Nat) (xs : List Int) (k : Nat) : (turnTo R C xs k).length = C * R := tab_length _ _ _
theorem turnTo_zero (R C : Nat) (xs : List Int) : turnTo R C xs 0 = List.replicate (C * R) 0 := by
  apply List.ext_getElem (by simp [turnTo, tab])
  intro i h1 h2
  simp [turnTo, tab]
theorem turnTo_all (R C : Nat) (xs : List Int) : turnTo R C xs (R * C) = turnL R C xs := by
  refine tab_ext (turnTo_length _ _ _ _) fun j i hj hi => ?_
  unfold turnTo
  rw [tab_at C R _ hj hi, if_pos (idx_lt hi hj)]
theorem turnTo_step (R C : Nat) (xs : List Int) {i j : Nat} (hi : i < R) (hj : j < C) : (turnTo R C xs (i * C + j)).set (j * R + i) (xs.getD (i * C + j) 0) = turnTo R C xs (i * C + j + 1) := by
  refine (tab_ext (by rw [List.length_set, turnTo_length]) fun j' i' hj' hi' => ?_)
  rw [getD_set _ _ _ _ (by rw [turnTo_length]; exact idx_lt hj hi)]
  by_cases e : j' * R + i' = j * R + i
  · obtain ⟨rfl, rfl⟩ := idx_inj hi' hi e
    rw [if_pos e, if_pos (by omega)]
  · rw [if_neg e]
    unfold turnTo
    rw [tab_at C R _ hj' hi']
    by_cases h1 : i' * C + j' < i * C + j
    · rw [if_pos h1, if_pos (by omega)]
    · rw [if_neg h1]
      by_cases h2 : i' * C + j' < i * C + j + 1
      · exfalso
        have h3 : i' * C + j' = i * C + j := by omega
        obtain ⟨rfl, rfl⟩ := idx_inj hj' hj h3
        exact e rfl
      · rw [if_neg h2]

set_option maxHeartbeats 400000 in
theorem iTurnStep (pb R : Nat) (c v : Value) (g m mc i j : Nat) (z : Int) (L : List Int) (w : World) (hp : Blk3 w pb 26 (.int .i64 R) c v) (hI : Ints w g L) (hm : j * R + i < m) (hl : m = L.length) (hb : m ≤ 600) :
    Calls Try.prog 62 #[.slice (some ⟨g, 0, none⟩) m mc, .int .i64 (i : Int), .int .i64 (j : Int), .int .i64 z, .pointer (some ⟨pb, 0, none⟩)] w
      (fun e w2 => e = .returned (.slice (some ⟨g, 0, none⟩) m mc) ∧ Ints w2 g (L.set (j * R + i) z) ∧ w.grownBy w2 (some g)) := by
  have c1 : (j : Int) * (R : Int) = ((j * R : Nat) : Int) := (Int.natCast_mul _ _).symm
  have d1 : 0 ≤ (j : Int) * (R : Int) ∧ (j : Int) * (R : Int) ≤ 600 := by rw [c1]; omega
  have e1 : 0 ≤ (j : Int) * (R : Int) + (i : Int) := by omega
  have e2 : (j : Int) * (R : Int) + (i : Int) < (m : Int) := by rw [c1]; omega
  have e3 : ((j : Int) * (R : Int) + (i : Int)).toNat = j * R + i := by rw [c1]; omega
  obtain ⟨d11, d12⟩ := d1
  have e4 : (j : Int) * (R : Int) + (i : Int) ≤ 600 := by omega
  have v1 : IntKind.i64.wrap ((j : Int) * (R : Int)) = (j : Int) * (R : Int) := IntWalk.i64_in _ (by omega)
  have v2 : IntKind.i64.wrap ((j : Int) * (R : Int) + (i : Int)) = (j : Int) * (R : Int) + (i : Int) := IntWalk.i64_in _ (by omega)
  have hold := hI.cell (i := j * R + i) (by omega)
  have hfr := hI.free (j * R + i)
  obtain ⟨p0, p1, p2, -, -, -⟩ := hp.all
  have I := Lib.hid hI
  clear c1 hI hp
  go_enter Try.func62, Try.ntmps62
  go_wp2_with fail
  go_ret
  refine ⟨rfl, ?_, ?_⟩
  · first | exact I.out.set _ _ | exact I.out.drew.set _ _
  · first | exact grown_set_one (World.grownBy.refl _ _) rfl _ | exact grown_drew_one (grown_set_one (World.grownBy.refl _ _) rfl _)

theorem far_of {w : World} {a : Option Addr} {zs : List Int} {n : Nat} (h : Rd w a zs) (hn : zs.length = n) : ∀ b o : Nat, a = some ⟨b, o, none⟩ → 0 < n → b ≠ w.heap.size := by
  intro b o e hz
  obtain ⟨b', o', e', hc⟩ := h 0 (by omega)
  rw [e] at e'
  injection e' with e'
  injection e' with e1 e2
  have := World.block_lt_of_cell? w _ hc
  simp at this
  omega
theorem turnStepOf (pb R C n g : Nat) (xs : List Int) (w : World) {c v : Value} (hp : Blk3 w pb 26 (.int .i64 R) c v) (hn : n = R * C) (hne : pb ≠ g) (hle : n ≤ 576) :
    ∀ (k : Nat) (w1 : World), k < n → w.grownBy w1 (some g) → Ints w1 g (turnTo R C xs k) → Calls Try.prog 62 #[.slice (some ⟨g, 0, none⟩) n n, .int .i64 ((k : Int) / (C : Int)), .int .i64 ((k : Int) % (C : Int)), .int .i64 (xs.getD k 0), .pointer (some ⟨pb, 0, none⟩)] w1
      (fun e w2 => e = .returned (.slice (some ⟨g, 0, none⟩) n n) ∧ Ints w2 g (turnTo R C xs (k + 1)) ∧ w1.grownBy w2 (some g)) := by
  intro k w1 hk hg hI
  have hC : 0 < C := by
    rcases Nat.eq_zero_or_pos C with e | e
    · rw [e, Nat.mul_zero] at hn; omega
    · exact e
  have e1 : k / C * C + k % C = k := by rw [Nat.mul_comm]; exact Nat.div_add_mod k C
  have hj : k % C < C := Nat.mod_lt k hC
  have hi : k / C < R := Nat.div_lt_of_lt_mul (by rw [Nat.mul_comm, ← hn]; exact hk)
  have st := turnTo_step R C xs hi hj
  rw [e1] at st
  rw [← Int.natCast_ediv, ← Int.natCast_emod]
  refine (iTurnStep pb R c v g n n (k / C) (k % C) (xs.getD k 0) _ w1 (hp.keepOne hg hne) hI (by rw [hn, Nat.mul_comm R C]; exact idx_lt hj hi) (by rw [turnTo_length, hn, Nat.mul_comm]) (by omega)).mono ?_
  rintro e w2 ⟨h1, h2, h3⟩
  rw [st] at h2
  exact ⟨h1, h2, h3⟩

set_option maxHeartbeats 1000000 in
theorem iTurn_t (R C : Nat) (a : Option Addr) (m : Nat) (xs : List Int) (w : World) (h : Rd w a xs) (hn : xs.length ≤ 16777216) (hm : isMat R C xs = true) :
    Calls Try.prog 24 #[.agg #[.int .i64 R, .int .i64 C, .slice a xs.length m]] w (MatRes ⟨true, C, R, turnL R C xs⟩ w) := by
  obtain ⟨⟨r1, r2⟩, ⟨c1, c2⟩, l1, -⟩ := isMat_says hm
  rw [← Int.natCast_mul] at l1
  have hle : C * R ≤ 24 * 24 := Nat.mul_le_mul (by omega) (by omega)
  have hCR : C * R = R * C := Nat.mul_comm _ _
  have hl1 : xs.length = R * C := by omega
  obtain ⟨N, hN⟩ : ∃ N, xs.length = N := ⟨_, rfl⟩
  have hle2 : N ≤ 576 := by omega
  have HX := Lib.hid hN
  have HRC : Hid (N = R * C) := hN.symm.trans hl1
  have hmk := makeInts N (by omega)
  have M := Lib.hid hm
  have hR : R ≤ 24 := by omega
  have hC : C ≤ 24 := by omega
  rw [hN] at hn ⊢
  clear l1 hl1 hm hle hCR hN
  have B0 : ∀ o1 o2, Below w.heap.size w ((w.alloc o1).alloc o2) := fun o1 o2 => ((Below.refl _ _).alloc (Nat.le_refl _) _).alloc (by simp) _
  have BH := Lib.hid B0
  have H := Lib.hid h
  clear B0 h
  go_enter Try.func24, Try.ntmps24
  go_wp2_with fail
  have ST := iIsMat R C a m xs _ (H.out.below (BH.out (.cells #[.int .i64 R, .int .i64 C, .slice a N m] 26) (.cells #[.int .i64 0, .int .i64 0, .slice none 0 0] 26))) (by rw [HX.out]; omega)
  rw [HX.out] at ST
  refine ST.mono ?_
  clear ST
  rintro e w1 ⟨rfl, hb⟩
  have K0 : Hid (Blk3 w1 w.heap.size 26 (.int .i64 R) (.int .i64 C) (.slice a N m)) := ((Blk3.at_ _ _ _ _ rfl).old _).keep hb (by simp <;> omega)
  have K2 : Hid (Blk3 w1 (w.heap.size + 1) 26 (.int .i64 0) (.int .i64 0) (.slice none 0 0)) := (Blk3.at_ _ _ _ _ (by simp)).keep hb (by simp)
  have B : Hid (Below w.heap.size w w1) := (BH.out _ _).trans (hb.mono (by simp <;> omega))
  clear hb
  obtain ⟨ca0, ca1, ca2, -, -, -⟩ := K0.out.all
  obtain ⟨cc0, cc1, cc2, ff0, ff1, ff2⟩ := K2.out.all
  rw [M.out]
  go_upto_region 3 with fail
  refine wp_region_held_drew (S := fun w' => Below w1.heap.size w1 w') (by kernel_rfl) (Below.refl _ _).drew (fun hH => ?_)
  refine wpAnyH_take (i := 0) (v := ?_) (by simp only [List.getElem?_toArray, List.getElem?_cons_zero]; rfl) (by kernel_rfl) (by kernel_rfl) (by kernel_rfl) (by exact fun _ _ _ h => h) (Or.inl ⟨by rfl, ?_⟩) hH ?_
  rotate_left
  · (intro wS hS; (try dsimp only at hS); obtain ⟨k1, k2, k3⟩ := seven K0.out hS; go_simp; try rfl)
  try simp only [Act.put, List.setIfInBounds_toArray, List.set_cons_zero, List.set_cons_succ]
  refine wpAnyH_take (i := 1) (v := ?_) (by simp only [List.getElem?_toArray, List.getElem?_cons_succ, List.getElem?_cons_zero]; rfl) (by kernel_rfl) (by kernel_rfl) (by kernel_rfl) (by exact fun _ _ _ h => h) (Or.inl ⟨by rfl, ?_⟩) hH ?_
  rotate_left
  · (intro wS hS; (try dsimp only at hS); obtain ⟨k1, k2, k3⟩ := seven K0.out hS; go_simp; try rfl)
  try simp only [Act.put, List.setIfInBounds_toArray, List.set_cons_zero, List.set_cons_succ]
  refine wpAnyH_take (i := 2) (v := ?_) (by simp only [List.getElem?_toArray, List.getElem?_cons_succ, List.getElem?_cons_zero]; rfl) (by kernel_rfl) (by kernel_rfl) (by kernel_rfl) (by exact fun _ _ _ h => h) (Or.inl ⟨by rfl, ?_⟩) hH ?_
  rotate_left
  · (intro wS hS; (try dsimp only at hS); obtain ⟨k1, k2, k3⟩ := seven K0.out hS; go_simp; try rfl)
  try simp only [Act.put, List.setIfInBounds_toArray, List.set_cons_zero, List.set_cons_succ]
  refine wpAnyH_take (i := 3) (v := ?_) (by simp only [List.getElem?_toArray, List.getElem?_cons_succ, List.getElem?_cons_zero]; rfl) (by kernel_rfl) (by kernel_rfl) (by kernel_rfl) (by exact fun _ _ _ h => h) (Or.inl ⟨by rfl, ?_⟩) hH ?_
  rotate_left
  · (intro wS hS; clear hS; go_simp; try rfl)
  try simp only [Act.put, List.setIfInBounds_toArray, List.set_cons_zero, List.set_cons_succ]
  refine wpAnyH_take (i := 5) (v := ?_) (by simp only [List.getElem?_toArray, List.getElem?_cons_succ, List.getElem?_cons_zero]; rfl) (by kernel_rfl) (by kernel_rfl) (by kernel_rfl) (by exact fun _ _ _ h => h) (Or.inl ⟨by rfl, ?_⟩) hH ?_
  rotate_left
  · (intro wS hS; clear hS; go_simp; try rfl)
  try simp only [Act.put, List.setIfInBounds_toArray, List.set_cons_zero, List.set_cons_succ]
  refine wpAnyH_ready (rs := [4]) (by kernel_rfl) (by simp) ?_
  refine AllReadyH.cons (by simp only [List.getElem?_toArray, List.getElem?_cons_succ, List.getElem?_cons_zero]; rfl) (fun K hK => ?_) AllReadyH.nil
  go_simp
  have I0 : Hid (Ints (w1.alloc (.cells (madeCells #[.int .i64 0] N) 3)) w1.heap.size (List.replicate N 0)) := Ints.made N rfl
  try dsimp only
  refine hK.out _ _ ?_ (fun hH2 => ?_)
  · exact hH.alloc hH.size _
  clear hK K
  have hO := hH
  clear hH
  have hH := hH2
  clear hH2
  try simp only [Act.put, List.setIfInBounds_toArray, List.set_cons_zero, List.set_cons_succ]
  refine wpAnyH_ready (rs := [6]) (by kernel_rfl) (by simp) ?_
  refine AllReadyH.cons (by simp only [List.getElem?_toArray, List.getElem?_cons_succ, List.getElem?_cons_zero]; rfl) (fun K hK => ?_) AllReadyH.nil
  go_simp
  refine (iFoldT w.heap.size R C N a m xs w1.heap.size N N (turnTo R C xs) _ HX.out (H.out.below (B.out.trans (hH.mono B.out.size))) HRC.out hR hC (by rw [turnTo_zero, Nat.mul_comm, ← HRC.out]; first | exact I0.out | exact I0.out.drew) (far_of (H.out.below B.out) HX.out) (turnStepOf w.heap.size R C N w1.heap.size xs _ (K0.out.keep hH K0.out.lt) HRC.out (Nat.ne_of_lt K0.out.lt) hle2)).mono ?_
  rintro e v1 ⟨rfl, hi, hg⟩
  have I2 := Lib.hid hi
  clear hi
  try dsimp only
  refine hK.out _ _ ?_ (fun hH2 => ?_)
  · exact hH.trans (below_of_one hg (Nat.le_refl _) hH.size)
  clear hK K
  have hO := hH
  clear hH
  have hH := hH2
  clear hH2
  try simp only [Act.put, List.setIfInBounds_toArray, List.set_cons_zero, List.set_cons_succ]
  refine wpAnyH_take (i := 7) (v := ?_) (by simp only [List.getElem?_toArray, List.getElem?_cons_succ, List.getElem?_cons_zero]; rfl) (by kernel_rfl) (by kernel_rfl) (by kernel_rfl) (by exact fun _ _ _ h => h) (Or.inl ⟨by rfl, ?_⟩) hH ?_
  rotate_left
  · (intro wS hS; clear hS; go_simp; try rfl)
  try simp only [Act.put, List.setIfInBounds_toArray, List.set_cons_zero, List.set_cons_succ]
  refine wpAnyH_done (by kernel_rfl) ?_ _
  have hb := hH
  clear hH hO hg
  have EQ : turnTo R C xs N = turnL R C xs := by rw [HRC.out]; exact turnTo_all R C xs
  rw [EQ] at I2
  have HL : Hid ((turnL R C xs).length = N) := by show (turnL R C xs).length = N; unfold turnL; rw [tab_length, HRC.out, Nat.mul_comm]
  have gl := K2.out.lt
  have K0 := Lib.hid (K0.out.step hb)
  have K2 := Lib.hid (K2.out.step hb)
  have B := Lib.hid (stepB B.out hb)
  clear hb EQ
  obtain ⟨r0, r1, r2, -, -, -⟩ := K0.out.all
  obtain ⟨s0, s1, s2, t0, t1, t2⟩ := K2.out.all
  go_wp2_with fail
  obtain ⟨E0, E1, E2, -, -, -⟩ := (((K2.out.set0 (.int .i64 C)).set1 (.int .i64 R)).set2 (.slice (some ⟨w1.heap.size, 0, none⟩) N N)).all
  refine bodyPost_ret (v := .tuple #[.agg #[.int .i64 C, .int .i64 R, .slice (some ⟨w1.heap.size, 0, none⟩) N N], .bool true]) (by simp [results, Try.results24, go_sem, E0, E1, E2]) rfl ⟨_, rfl, ?_, ?_⟩
  · refine .inr ⟨w1.heap.size, N, by rw [HL.out], by omega, ?_, by rw [HL.out]; omega, by rw [HL.out]; omega⟩
    exact ((I2.out.far (by show w1.heap.size ≠ w.heap.size + 1; omega) _).far (by show w1.heap.size ≠ w.heap.size + 1; omega) _).far (by show w1.heap.size ≠ w.heap.size + 1; omega) _
  · exact ((B.out.setCell (Nat.le_succ _) _).setCell (Nat.le_succ _) _).setCell (Nat.le_succ _) _
theorem iTransp (r c : Int) (a : Option Addr) (m : Nat) (xs : List Int) (w : World) (h : Rd w a xs) (hn : xs.length ≤ 16777216) :
    Calls Try.prog 24 #[.agg #[.int .i64 r, .int .i64 c, .slice a xs.length m]] w (MatRes (turnM r c xs) w) := by
  rcases Bool.eq_false_or_eq_true (isMat r c xs) with hm | hm
  · obtain ⟨⟨r1, r2⟩, ⟨c1, c2⟩, -, -⟩ := isMat_says hm
    obtain ⟨R, rfl⟩ := Int.eq_ofNat_of_zero_le r1
    obtain ⟨C, rfl⟩ := Int.eq_ofNat_of_zero_le c1
    have E : turnM R C xs = ⟨true, C, R, turnL R C xs⟩ := by unfold turnM; rw [hm]; simp
    rw [E]
    exact iTurn_t R C a m xs w h hn hm
  · have E : Hid (turnM r c xs = MR.no) := by show turnM r c xs = _; unfold turnM; rw [hm]; rfl
    have M := Lib.hid hm
    clear hm
    have B0 : ∀ o1 o2, Below w.heap.size w ((w.alloc o1).alloc o2) := fun o1 o2 => ((Below.refl _ _).alloc (Nat.le_refl _) _).alloc (by simp) _
    have BH := Lib.hid B0
    have H := Lib.hid h
    clear B0 h
    go_enter Try.func24, Try.ntmps24
    go_wp2_with fail
    refine (iIsMat r c a m xs _ (H.out.below (BH.out (.cells #[.int .i64 r, .int .i64 c, .slice a xs.length m] 26) (.cells #[.int .i64 0, .int .i64 0, .slice none 0 0] 26))) hn).mono ?_
    rintro e w1 ⟨rfl, hb⟩
    have K0 : Hid (Blk3 w1 w.heap.size 26 (.int .i64 r) (.int .i64 c) (.slice a xs.length m)) := ((Blk3.at_ _ _ _ _ rfl).old _).keep hb (by simp <;> omega)
    have K2 : Hid (Blk3 w1 (w.heap.size + 1) 26 (.int .i64 0) (.int .i64 0) (.slice none 0 0)) := (Blk3.at_ _ _ _ _ (by simp)).keep hb (by simp)
    have B : Hid (Below w.heap.size w w1) := (BH.out _ _).trans (hb.mono (by simp <;> omega))
    clear hb
    obtain ⟨ca0, ca1, ca2, -, -, -⟩ := K0.out.all
    obtain ⟨cc0, cc1, cc2, ff0, ff1, ff2⟩ := K2.out.all
    rw [M.out]
    go_wp2_with fail
    obtain ⟨E0, E1, E2, -, -, -⟩ := (((K2.out.set0 (.int .i64 0)).set1 (.int .i64 0)).set2 (.slice none 0 0)).all
    rw [E.out]
    exact bodyPost_ret (v := .tuple #[.agg #[.int .i64 0, .int .i64 0, .slice none 0 0], .bool false]) (by simp [results, Try.results24, go_sem, E0, E1, E2]) rfl ⟨_, rfl, .inl ⟨rfl, rfl⟩, ((B.out.setCell (Nat.le_succ _) _).setCell (Nat.le_succ _) _).setCell (Nat.le_succ _) _⟩

end Go.Proofs.Ytpladgojeijihaa
