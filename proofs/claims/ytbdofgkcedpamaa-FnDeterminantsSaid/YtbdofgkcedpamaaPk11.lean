/-
  Texts of this seat, joined: MatI9 · ElTo · StepS
-/
import Derived.StillTailTactics
import Derived.Test.YtbdofgkcedpamaaPk2
import Derived.Test.YtbdofgkcedpamaaPk3
import Derived.Test.YtbdofgkcedpamaaPk4
import Derived.Test.YtbdofgkcedpamaaPk9

section
/-
  Chapter 3, in the program: MultiplyMatrices.
-/
namespace Go.Proofs.Ytbdofgkcedpamaa
set_option maxRecDepth 100000
open Go.RowKit

/-! ### One step: a row of the second matrix, times a cell of the first one, is added to a row of the sums -/
def mrTo (L ys : List Int) (C i p : Nat) (t : Int) (j : Nat) : List Int := (List.range L.length).map fun q => if q / C = i ∧ q % C < j then L.getD q 0 + t * ys.getD (p * C + q % C) 0 else L.getD q 0
theorem mrTo_length (L ys : List Int) (C i p : Nat) (t : Int) (j : Nat) : (mrTo L ys C i p t j).length = L.length := by simp [mrTo]
theorem mrTo_getD (L ys : List Int) (C i p : Nat) (t : Int) (j q : Nat) (hq : q < L.length) : (mrTo L ys C i p t j).getD q 0 = if q / C = i ∧ q % C < j then L.getD q 0 + t * ys.getD (p * C + q % C) 0 else L.getD q 0 := by
  simp [mrTo, List.getD, hq]
theorem mrTo_zero (L ys : List Int) (C i p : Nat) (t : Int) : mrTo L ys C i p t 0 = L := by
  refine list_getD (mrTo_length _ _ _ _ _ _ _) fun q hq => ?_
  rw [mrTo_length] at hq
  rw [mrTo_getD _ _ _ _ _ _ _ _ hq, if_neg (by omega)]
theorem mrTo_at (L ys : List Int) (C i p : Nat) (t : Int) (j : Nat) (hj : j < C) (hq : i * C + j < L.length) : (mrTo L ys C i p t j).getD (i * C + j) 0 = L.getD (i * C + j) 0 := by
  rw [mrTo_getD _ _ _ _ _ _ _ _ hq, idx_mod hj, if_neg (by omega)]
theorem mrTo_step (L ys : List Int) (C i p : Nat) (t : Int) (j : Nat) (hj : j < C) (hq : i * C + j < L.length) : (mrTo L ys C i p t j).set (i * C + j) (L.getD (i * C + j) 0 + t * ys.getD (p * C + j) 0) = mrTo L ys C i p t (j + 1) := by
  refine list_getD (by rw [List.length_set, mrTo_length, mrTo_length]) fun q hq' => ?_
  rw [List.length_set, mrTo_length] at hq'
  rw [getD_set _ _ _ _ (by rw [mrTo_length]; exact hq), mrTo_getD _ _ _ _ _ _ _ _ hq', mrTo_getD _ _ _ _ _ _ _ _ hq']
  by_cases e : q = i * C + j
  · subst e
    rw [if_pos rfl, idx_div hj, idx_mod hj, if_pos ⟨rfl, by omega⟩]
  · rw [if_neg e]
    have hC : 0 < C := by omega
    by_cases h1 : q / C = i ∧ q % C < j
    · rw [if_pos h1, if_pos ⟨h1.1, by omega⟩]
    · rw [if_neg h1, if_neg]
      rintro ⟨h2, h3⟩
      have : q % C = j := by omega
      have hh : q / C * C + q % C = q := by rw [Nat.mul_comm]; exact Nat.div_add_mod q C
      rw [h2, this] at hh
      exact e hh.symm

set_option maxRecDepth 100000 in
set_option maxHeartbeats 1000000 in
theorem iMulStep (pb K C : Nat) (r : Value) (b : Option Addr) (nb : Nat) (ys : List Int) (n : Nat) (g m mc i p : Nat) (t : Int) (L : List Int) (w : World) (hp : Blk3 w pb 26 r (.int .i64 C) (.slice b n nb)) (hd : Rd w b ys) (hn : ys.length = n) (hy : n = K * C) (hC : C ≤ 24) (hK : K ≤ 24) (ny : nums ys = true)
    (hz : ∀ b' o : Nat, b = some ⟨b', o, none⟩ → 0 < n → b' ≠ g) (hne : pb ≠ g) (hI : Ints w g L) (hpK : p < K) (hm : ∀ j, j < C → i * C + j < m) (hl : m = L.length) (hb : m ≤ 576) (t1 : -400000000 ≤ t) (t2 : t ≤ 400000000)
    (bd : ∀ q : Nat, -4000000000000000000 ≤ L.getD q 0 ∧ L.getD q 0 ≤ 4000000000000000000) :
    Calls Try.prog 64 #[.slice (some ⟨g, 0, none⟩) m mc, .int .i64 (i : Int), .int .i64 (p : Int), .int .i64 t, .pointer (some ⟨pb, 0, none⟩)] w
      (fun e w2 => e = .returned (.slice (some ⟨g, 0, none⟩) m mc) ∧ Ints w2 g (mrTo L ys C i p t C) ∧ w.grownBy w2 (some g)) := by
  have I0 := Lib.hid hI
  have D := Lib.hid hd
  have HN := Lib.hid hn
  have HY := Lib.hid hy
  have NY := Lib.hid ny
  have HZ := Lib.hid hz
  have HM := Lib.hid hm
  have HL := Lib.hid hl
  have BD := Lib.hid bd
  have KP := Lib.hid hp
  obtain ⟨p0, p1, p2, -, -, -⟩ := hp.all
  clear hI hd hn hy ny hz hm hl bd hp
  go_enter Try.func64, Try.ntmps64
  go_wp2_with fail
  clear p0 p1 p2
  go_loopw [10, 13] (fun _ i' wr => ∃ j : Nat, i' = .int .i64 j ∧ j ≤ C ∧ Ints wr g (mrTo L ys C i p t j) ∧ w.grownBy wr (some g)) (fun _ i' _ => C - (intOf i').toNat)
  case atStart => exact ⟨0, rfl, by omega, by rw [mrTo_zero]; exact I0.out, World.grownBy.refl _ _⟩
  case round =>
    obtain ⟨j, rfl, hj, hi, hgr⟩ := hrel
    have I := Lib.hid hi
    have G := Lib.hid hgr
    clear hi hgr
    obtain ⟨p0, p1, p2, -, -, -⟩ := (KP.out.keepOne G.out hne).all
    by_cases hlt : j < C
    · have q1 : i * C + j < m := HM.out j hlt
      have q2 : p * C + j < n := by rw [HY.out]; exact idx_lt hpK hlt
      obtain ⟨b', o, rfl, hc2⟩ := D.out (p * C + j) (by rw [HN.out]; exact q2)
      have hbg : b' ≠ g := HZ.out b' o rfl (by omega)
      have hc2 := G.out.cell hc2 (by simpa using hbg)
      have hold := I.out.cell (i := i * C + j) (by rw [mrTo_length, ← HL.out]; exact q1)
      rw [mrTo_at L ys C i p t j hlt (by rw [← HL.out]; exact q1)] at hold
      have v1 := BD.out (i * C + j)
      have v2 := nums_at NY.out (j := p * C + j) (by rw [HN.out]; exact q2)
      obtain ⟨x, hx⟩ : ∃ x, L.getD (i * C + j) 0 = x := ⟨_, rfl⟩
      obtain ⟨y, hy⟩ : ∃ y, ys.getD (p * C + j) 0 = y := ⟨_, rfl⟩
      rw [hx] at hold v1
      rw [hy] at hc2 v2
      obtain ⟨v11, v12⟩ := v1
      obtain ⟨m1, m2⟩ := mul_num t y ⟨t1, t2⟩ v2
      have hfr := I.out.free (i * C + j)
      have XX := Lib.hid hx
      have YY := Lib.hid hy
      have n576 : n ≤ 576 := by rw [HY.out]; exact Nat.mul_le_mul hK hC
      have c1 : (i : Int) * (C : Int) = ((i * C : Nat) : Int) := (Int.natCast_mul _ _).symm
      have c2 : (p : Int) * (C : Int) = ((p * C : Nat) : Int) := (Int.natCast_mul _ _).symm
      have d1 : 0 ≤ (i : Int) * (C : Int) ∧ (i : Int) * (C : Int) ≤ 600 := by rw [c1]; omega
      have d2 : 0 ≤ (p : Int) * (C : Int) ∧ (p : Int) * (C : Int) ≤ 600 := by rw [c2]; omega
      have e1 : 0 ≤ (i : Int) * (C : Int) + (j : Int) := by omega
      have e2 : (i : Int) * (C : Int) + (j : Int) < (m : Int) := by rw [c1]; omega
      have e3 : ((i : Int) * (C : Int) + (j : Int)).toNat = i * C + j := by rw [c1]; omega
      have f1 : 0 ≤ (p : Int) * (C : Int) + (j : Int) := by omega
      have f2 : (p : Int) * (C : Int) + (j : Int) < (n : Int) := by rw [c2]; omega
      have f3 : ((p : Int) * (C : Int) + (j : Int)).toNat = p * C + j := by rw [c2]; omega
      obtain ⟨d11, d12⟩ := d1
      obtain ⟨d21, d22⟩ := d2
      have w1 : IntKind.i64.wrap ((i : Int) * (C : Int)) = (i : Int) * (C : Int) := IntWalk.i64_in _ (by omega)
      have w2 : IntKind.i64.wrap ((i : Int) * (C : Int) + (j : Int)) = (i : Int) * (C : Int) + (j : Int) := IntWalk.i64_in _ (by omega)
      have w3 : IntKind.i64.wrap ((p : Int) * (C : Int)) = (p : Int) * (C : Int) := IntWalk.i64_in _ (by omega)
      have w4 : IntKind.i64.wrap ((p : Int) * (C : Int) + (j : Int)) = (p : Int) * (C : Int) + (j : Int) := IntWalk.i64_in _ (by omega)
      have w5 : IntKind.i64.wrap (t * y) = t * y := IntWalk.i64_in _ (by omega)
      have w6 : IntKind.i64.wrap (x + t * y) = x + t * y := IntWalk.i64_in _ (by omega)
      clear c1 c2 hx hy v2 q1 q2
      go_wp2_with fail
      go_still_tail 23, (by kernel_rfl)
      go_wp2_with fail
      go_roundw
      case rel =>
        refine ⟨j + 1, by go_num, by omega, ?_, ?_⟩
        · rw [← mrTo_step L ys C i p t j hlt (by rw [← HL.out]; exact HM.out j hlt)]
          rw [XX.out, YY.out]
          first | exact I.out.set (i * C + j) _ | exact I.out.drew.set (i * C + j) _
        · first | exact grown_set_one G.out rfl _ | exact grown_drew_one (grown_set_one G.out rfl _)
      case measure => simp [intOf]; omega
    · obtain rfl : C = j := by omega
      go_wp2_with fail
      go_ret
      exact ⟨rfl, I.out, G.out⟩

/-! ### The sums after k cells -/
def mulTo (R K C : Nat) (xs ys : List Int) (k : Nat) : List Int := tab R C fun i j => dot K C xs ys i j (min K (k - i * K))
theorem mulTo_length (R K C : Nat) (xs ys : List Int) (k : Nat) : (mulTo R K C xs ys k).length = R * C := tab_length _ _ _
theorem mulTo_zero (R K C : Nat) (xs ys : List Int) : mulTo R K C xs ys 0 = List.replicate (R * C) 0 := by
  apply List.ext_getElem (by simp [mulTo, tab])
  intro i h1 h2
  simp [mulTo, tab, dot]
theorem mulTo_all (R K C : Nat) (xs ys : List Int) : mulTo R K C xs ys (R * K) = mulL R K C xs ys := by
  refine tab_ext (mulTo_length _ _ _ _ _ _) fun i j hi hj => ?_
  unfold mulTo
  rw [tab_at R C _ hi hj]
  have h : (i + 1) * K ≤ R * K := Nat.mul_le_mul_right K hi
  rw [Nat.add_mul, Nat.one_mul] at h
  rw [show min K (R * K - i * K) = K by omega]
theorem mulTo_step (R K C : Nat) (xs ys : List Int) {i p : Nat} (hi : i < R) (hp : p < K) : mrTo (mulTo R K C xs ys (i * K + p)) ys C i p (xs.getD (i * K + p) 0) C = mulTo R K C xs ys (i * K + p + 1) := by
  refine tab_ext (by rw [mrTo_length, mulTo_length]) fun i' j' hi' hj' => ?_
  rw [mrTo_getD _ _ _ _ _ _ _ _ (by rw [mulTo_length]; exact idx_lt hi' hj'), idx_div hj', idx_mod hj']
  have e0 : (mulTo R K C xs ys (i * K + p)).getD (i' * C + j') 0 = dot K C xs ys i' j' (min K (i * K + p - i' * K)) := by unfold mulTo; rw [tab_at R C _ hi' hj']
  rw [e0]
  by_cases e : i' = i
  · subst e
    rw [if_pos ⟨rfl, hj'⟩, show min K (i' * K + p - i' * K) = p by omega, show min K (i' * K + p + 1 - i' * K) = p + 1 by omega]
    rfl
  · rw [if_neg (fun h => e h.1)]
    rcases Nat.lt_or_gt_of_ne e with h | h
    · have : (i' + 1) * K ≤ i * K := Nat.mul_le_mul_right K h
      rw [Nat.add_mul, Nat.one_mul] at this
      rw [show min K (i * K + p - i' * K) = K by omega, show min K (i * K + p + 1 - i' * K) = K by omega]
    · have : (i + 1) * K ≤ i' * K := Nat.mul_le_mul_right K h
      rw [Nat.add_mul, Nat.one_mul] at this
      rw [show min K (i * K + p - i' * K) = 0 by omega, show min K (i * K + p + 1 - i' * K) = 0 by omega]
theorem mulTo_bd (R K C : Nat) (xs ys : List Int) (hx : nums xs = true) (hy : nums ys = true) (lx : xs.length = R * K) (ly : ys.length = K * C) (hK : K ≤ 24) (k q : Nat) : -4000000000000000000 ≤ (mulTo R K C xs ys k).getD q 0 ∧ (mulTo R K C xs ys k).getD q 0 ≤ 4000000000000000000 := by
  rcases Nat.lt_or_ge q (R * C) with hq | hq
  · have hC : 0 < C := by
      rcases Nat.eq_zero_or_pos C with e | e
      · rw [e, Nat.mul_zero] at hq; omega
      · exact e
    have hi : q / C < R := Nat.div_lt_of_lt_mul (by rw [Nat.mul_comm]; exact hq)
    have hj : q % C < C := Nat.mod_lt q hC
    have e : q / C * C + q % C = q := by rw [Nat.mul_comm]; exact Nat.div_add_mod q C
    have := dot_bd (K := K) (C := C) (xs := xs) (ys := ys) (i := q / C) (j := q % C) (fun p hp => nums_at hx (by rw [lx]; exact idx_lt hi hp)) (fun p hp => nums_at hy (by rw [ly]; exact idx_lt hp hj)) (min K (k - q / C * K)) (Nat.min_le_left _ _)
    have e0 : (mulTo R K C xs ys k).getD q 0 = dot K C xs ys (q / C) (q % C) (min K (k - q / C * K)) := by
      rw [← e]
      unfold mulTo
      rw [tab_at R C _ hi hj, e]
    rw [e0]
    have hmin : min K (k - q / C * K) ≤ 24 := Nat.le_trans (Nat.min_le_left _ _) hK
    omega
  · have e0 : (mulTo R K C xs ys k).getD q 0 = 0 := by
      simp [List.getD, mulTo_length, hq]
    rw [e0]; omega
theorem mulStepOf (pb R K C nx n g m : Nat) (r : Value) (b : Option Addr) (nb : Nat) (xs ys : List Int) (w : World) (hp : Blk3 w pb 26 r (.int .i64 C) (.slice b n nb)) (hd : Rd w b ys) (hx : xs.length = nx) (hnx : nx = R * K) (hn : ys.length = n) (hy : n = K * C) (hR : R ≤ 24) (hK : K ≤ 24) (hC : C ≤ 24) (mx : nums xs = true) (ny : nums ys = true)
    (hz : ∀ b' o : Nat, b = some ⟨b', o, none⟩ → 0 < n → b' ≠ g) (hne : pb ≠ g) (hm : m = R * C) :
    ∀ (k : Nat) (w1 : World), k < nx → w.grownBy w1 (some g) → Ints w1 g (mulTo R K C xs ys k) → Calls Try.prog 64 #[.slice (some ⟨g, 0, none⟩) m m, .int .i64 ((k : Int) / (K : Int)), .int .i64 ((k : Int) % (K : Int)), .int .i64 (xs.getD k 0), .pointer (some ⟨pb, 0, none⟩)] w1
      (fun e w2 => e = .returned (.slice (some ⟨g, 0, none⟩) m m) ∧ Ints w2 g (mulTo R K C xs ys (k + 1)) ∧ w1.grownBy w2 (some g)) := by
  intro k w1 hk hg hI
  have hK0 : 0 < K := by
    rcases Nat.eq_zero_or_pos K with e | e
    · rw [e, Nat.mul_zero] at hnx; omega
    · exact e
  have e1 : k / K * K + k % K = k := by rw [Nat.mul_comm]; exact Nat.div_add_mod k K
  have hj : k % K < K := Nat.mod_lt k hK0
  have hi : k / K < R := Nat.div_lt_of_lt_mul (by rw [Nat.mul_comm, ← hnx]; exact hk)
  have st := mulTo_step R K C xs ys hi hj
  rw [e1] at st
  rw [← Int.natCast_ediv, ← Int.natCast_emod]
  have mle : m ≤ 576 := by rw [hm]; exact Nat.mul_le_mul hR hC
  have tb := nums_at mx (j := k) (by rw [hx]; exact hk)
  have hd1 : Rd w1 b ys := fun i hi => by
    obtain ⟨b', o, rfl, hc⟩ := hd i hi
    exact ⟨b', o, rfl, hg.cell hc (by simpa using hz b' o rfl (by omega))⟩
  refine (iMulStep pb K C r b nb ys n g m m (k / K) (k % K) (xs.getD k 0) _ w1 (hp.keepOne hg hne) hd1 hn hy hC hK ny hz hne hI hj (fun j hj' => by rw [hm]; exact idx_lt hi hj') (by rw [mulTo_length, hm]) mle tb.1 tb.2 (mulTo_bd R K C xs ys mx ny (by rw [hx, hnx]) (by rw [hn, hy]) hK k)).mono ?_
  rintro e w2 ⟨h1, h2, h3⟩
  rw [st] at h2
  exact ⟨h1, h2, h3⟩

set_option maxRecDepth 100000 in
set_option maxHeartbeats 1000000 in
theorem iMul_t (R K C : Nat) (a b : Option Addr) (m n : Nat) (xs ys : List Int) (w : World) (h : Rd w a xs) (h' : Rd w b ys) (hn : xs.length ≤ 16777216) (hn' : ys.length ≤ 16777216)
    (hm : isMat R K xs = true) (hm' : isMat K C ys = true) :
    Calls Try.prog 30 #[.agg #[.int .i64 R, .int .i64 K, .slice a xs.length m], .agg #[.int .i64 K, .int .i64 C, .slice b ys.length n]] w (MatRes (MR.done R C (mulL R K C xs ys)) w) := by
  obtain ⟨⟨r1, r2⟩, ⟨k1, k2⟩, l1, nx⟩ := isMat_says hm
  obtain ⟨-, ⟨c1, c2⟩, l2, ny⟩ := isMat_says hm'
  rw [← Int.natCast_mul] at l1 l2
  have hR : R ≤ 24 := by omega
  have hK : K ≤ 24 := by omega
  have hC : C ≤ 24 := by omega
  have hle : R * C ≤ 24 * 24 := Nat.mul_le_mul hR hC
  obtain ⟨nxs, hx⟩ : ∃ n, xs.length = n := ⟨_, rfl⟩
  obtain ⟨nys, hy⟩ : ∃ n, ys.length = n := ⟨_, rfl⟩
  have HX := Lib.hid hx
  have HY := Lib.hid hy
  have HXN : Hid (nxs = R * K) := by show nxs = R * K; omega
  have HYN : Hid (nys = K * C) := by show nys = K * C; omega
  have hmk := makeProd R C (by omega)
  have hp1 : (0 : Int) ≤ (R : Int) * (C : Int) := by rw [← Int.natCast_mul]; omega
  have hp2 : (R : Int) * (C : Int) ≤ 16777216 := by rw [← Int.natCast_mul]; omega
  have hp3 : IntKind.i64.wrap ((R : Int) * (C : Int)) = (R : Int) * (C : Int) := IntWalk.i64_in _ (by omega)
  obtain ⟨N, hN⟩ : ∃ N, R * C = N := ⟨_, rfl⟩
  have HN := Lib.hid hN
  rw [hN] at hmk hle
  have NX := Lib.hid nx
  have NY := Lib.hid ny
  have M := Lib.hid hm
  have M' := Lib.hid hm'
  rw [hx] at hn ⊢
  rw [hy] at hn' ⊢
  have B0 : ∀ o1 o2 o3, Below w.heap.size w (((w.alloc o1).alloc o2).alloc o3) := fun o1 o2 o3 => (((Below.refl _ _).alloc (Nat.le_refl _) _).alloc (by simp) _).alloc (by simp <;> omega) _
  have BH := Lib.hid B0
  have H := Lib.hid h
  have H' := Lib.hid h'
  clear r1 r2 k1 k2 c1 c2 l1 l2 nx ny hm hm' hx hy hN h h' B0
  go_enter Try.func30, Try.ntmps30
  go_wp2_with fail
  have ST := iIsMat R K a m xs _ (H.out.below (BH.out (.cells #[.int .i64 R, .int .i64 K, .slice a nxs m] 26) (.cells #[.int .i64 K, .int .i64 C, .slice b nys n] 26) (.cells #[.int .i64 0, .int .i64 0, .slice none 0 0] 26))) (by rw [HX.out]; omega)
  rw [HX.out] at ST
  refine ST.mono ?_
  clear ST
  rintro e w1 ⟨rfl, hb⟩
  have K0 : Hid (Blk3 w1 w.heap.size 26 (.int .i64 R) (.int .i64 K) (.slice a nxs m)) := (((Blk3.at_ _ _ _ _ rfl).old _).old _).keep hb (by simp <;> omega)
  have K1 : Hid (Blk3 w1 (w.heap.size + 1) 26 (.int .i64 K) (.int .i64 C) (.slice b nys n)) := ((Blk3.at_ _ _ _ _ (by simp)).old _).keep hb (by simp <;> omega)
  have K2 : Hid (Blk3 w1 (w.heap.size + 1 + 1) 26 (.int .i64 0) (.int .i64 0) (.slice none 0 0)) := (Blk3.at_ _ _ _ _ (by simp)).keep hb (by simp)
  have B : Hid (Below w.heap.size w w1) := (BH.out _ _ _).trans (hb.mono (by simp <;> omega))
  clear hb
  obtain ⟨c0, c1, c2, -, -, -⟩ := K0.out.all
  obtain ⟨d0, d1, d2, -, -, -⟩ := K1.out.all
  rw [M.out]
  go_wp2_with fail
  have ST := iIsMat K C b n ys _ (H'.out.below B.out) (by rw [HY.out]; omega)
  rw [HY.out] at ST
  refine ST.mono ?_
  clear ST
  rintro e w2 ⟨rfl, hb⟩
  have K0 := Lib.hid (K0.out.step hb)
  have K1 := Lib.hid (K1.out.step hb)
  have K2 := Lib.hid (K2.out.step hb)
  have B := Lib.hid (stepB B.out hb)
  clear hb
  obtain ⟨e0, e1, e2, -, -, -⟩ := K0.out.all
  obtain ⟨g0, g1, g2, -, -, -⟩ := K1.out.all
  rw [M'.out]
  go_upto_region 3 with fail
  refine wp_region_held_drew (S := fun w' => Below w2.heap.size w2 w') (by kernel_rfl) (Below.refl _ _).drew (fun hH => ?_)
  refine wpAnyH_take (i := 0) (v := ?_) (by simp only [List.getElem?_toArray, List.getElem?_cons_zero]; rfl) (by kernel_rfl) (by kernel_rfl) (by kernel_rfl) (by exact fun _ _ _ h => h) (Or.inl ⟨by rfl, ?_⟩) hH ?_
  rotate_left
  · (intro wS hS; (try dsimp only at hS); obtain ⟨k1, k2, k3, k4, k5, k6⟩ := six K0.out K1.out hS; go_simp; try rfl)
  try simp only [Act.put, List.setIfInBounds_toArray, List.set_cons_zero, List.set_cons_succ]
  refine wpAnyH_take (i := 1) (v := ?_) (by simp only [List.getElem?_toArray, List.getElem?_cons_succ, List.getElem?_cons_zero]; rfl) (by kernel_rfl) (by kernel_rfl) (by kernel_rfl) (by exact fun _ _ _ h => h) (Or.inl ⟨by rfl, ?_⟩) hH ?_
  rotate_left
  · (intro wS hS; (try dsimp only at hS); obtain ⟨k1, k2, k3, k4, k5, k6⟩ := six K0.out K1.out hS; go_simp; try rfl)
  try simp only [Act.put, List.setIfInBounds_toArray, List.set_cons_zero, List.set_cons_succ]
  refine wpAnyH_take (i := 2) (v := ?_) (by simp only [List.getElem?_toArray, List.getElem?_cons_succ, List.getElem?_cons_zero]; rfl) (by kernel_rfl) (by kernel_rfl) (by kernel_rfl) (by exact fun _ _ _ h => h) (Or.inl ⟨by rfl, ?_⟩) hH ?_
  rotate_left
  · (intro wS hS; (try dsimp only at hS); obtain ⟨k1, k2, k3, k4, k5, k6⟩ := six K0.out K1.out hS; go_simp; try rfl)
  try simp only [Act.put, List.setIfInBounds_toArray, List.set_cons_zero, List.set_cons_succ]
  refine wpAnyH_take (i := 3) (v := ?_) (by simp only [List.getElem?_toArray, List.getElem?_cons_succ, List.getElem?_cons_zero]; rfl) (by kernel_rfl) (by kernel_rfl) (by kernel_rfl) (by exact fun _ _ _ h => h) (Or.inl ⟨by rfl, ?_⟩) hH ?_
  rotate_left
  · (intro wS hS; (try dsimp only at hS); obtain ⟨k1, k2, k3, k4, k5, k6⟩ := six K0.out K1.out hS; go_simp; try rfl)
  try simp only [Act.put, List.setIfInBounds_toArray, List.set_cons_zero, List.set_cons_succ]
  refine wpAnyH_take (i := 4) (v := ?_) (by simp only [List.getElem?_toArray, List.getElem?_cons_succ, List.getElem?_cons_zero]; rfl) (by kernel_rfl) (by kernel_rfl) (by kernel_rfl) (by exact fun _ _ _ h => h) (Or.inl ⟨by rfl, ?_⟩) hH ?_
  rotate_left
  · (intro wS hS; (try dsimp only at hS); obtain ⟨k1, k2, k3, k4, k5, k6⟩ := six K0.out K1.out hS; go_simp; try rfl)
  try simp only [Act.put, List.setIfInBounds_toArray, List.set_cons_zero, List.set_cons_succ]
  refine wpAnyH_take (i := 5) (v := ?_) (by simp only [List.getElem?_toArray, List.getElem?_cons_succ, List.getElem?_cons_zero]; rfl) (by kernel_rfl) (by kernel_rfl) (by kernel_rfl) (by exact fun _ _ _ h => h) (Or.inl ⟨by rfl, ?_⟩) hH ?_
  rotate_left
  · (intro wS hS; clear hS; go_simp; try rfl)
  try simp only [Act.put, List.setIfInBounds_toArray, List.set_cons_zero, List.set_cons_succ]
  refine wpAnyH_take (i := 7) (v := ?_) (by simp only [List.getElem?_toArray, List.getElem?_cons_succ, List.getElem?_cons_zero]; rfl) (by kernel_rfl) (by kernel_rfl) (by kernel_rfl) (by exact fun _ _ _ h => h) (Or.inl ⟨by rfl, ?_⟩) hH ?_
  rotate_left
  · (intro wS hS; clear hS; go_simp; try rfl)
  try simp only [Act.put, List.setIfInBounds_toArray, List.set_cons_zero, List.set_cons_succ]
  refine wpAnyH_ready (rs := [6]) (by kernel_rfl) (by simp) ?_
  refine AllReadyH.cons (by simp only [List.getElem?_toArray, List.getElem?_cons_succ, List.getElem?_cons_zero]; rfl) (fun KK hKK => ?_) AllReadyH.nil
  go_simp
  have I0 : Hid (Ints (w2.alloc (.cells (madeCells #[.int .i64 0] N) 3)) w2.heap.size (List.replicate N 0)) := Ints.made N rfl
  try dsimp only
  refine hKK.out _ _ ?_ (fun hH2 => ?_)
  · exact hH.alloc hH.size _
  clear hKK KK
  have hO := hH
  clear hH
  have hH := hH2
  clear hH2
  try simp only [Act.put, List.setIfInBounds_toArray, List.set_cons_zero, List.set_cons_succ]
  refine wpAnyH_ready (rs := [8]) (by kernel_rfl) (by simp) ?_
  refine AllReadyH.cons (by simp only [List.getElem?_toArray, List.getElem?_cons_succ, List.getElem?_cons_zero]; rfl) (fun KK hKK => ?_) AllReadyH.nil
  go_simp
  refine (iFoldM (w.heap.size + 1) R K nxs a m xs w2.heap.size N N (mulTo R K C xs ys) _ HX.out (H.out.below (B.out.trans (hH.mono B.out.size))) HXN.out hR hK (by rw [mulTo_zero, HN.out]; first | exact I0.out | exact I0.out.drew) (far_of (H.out.below B.out) HX.out) (mulStepOf (w.heap.size + 1) R K C nxs nys w2.heap.size N _ b n xs ys _ (K1.out.keep hH K1.out.lt) (H'.out.below (B.out.trans (hH.mono B.out.size))) HX.out HXN.out HY.out HYN.out hR hK hC NX.out NY.out (far_of (H'.out.below B.out) HY.out) (Nat.ne_of_lt K1.out.lt) HN.out.symm)).mono ?_
  rintro e v1 ⟨rfl, hi, hg⟩
  have I2 := Lib.hid hi
  clear hi
  try dsimp only
  refine hKK.out _ _ ?_ (fun hH2 => ?_)
  · exact hH.trans (below_of_one hg (Nat.le_refl _) hH.size)
  clear hKK KK
  have hO := hH
  clear hH
  have hH := hH2
  clear hH2
  try simp only [Act.put, List.setIfInBounds_toArray, List.set_cons_zero, List.set_cons_succ]
  refine wpAnyH_take (i := 9) (v := ?_) (by simp only [List.getElem?_toArray, List.getElem?_cons_succ, List.getElem?_cons_zero]; rfl) (by kernel_rfl) (by kernel_rfl) (by kernel_rfl) (by exact fun _ _ _ h => h) (Or.inl ⟨by rfl, ?_⟩) hH ?_
  rotate_left
  · (intro wS hS; clear hS; go_simp; try rfl)
  try simp only [Act.put, List.setIfInBounds_toArray, List.set_cons_zero, List.set_cons_succ]
  refine wpAnyH_done (by kernel_rfl) ?_ _
  have hb := hH
  clear hH hO hg
  have EQ : mulTo R K C xs ys nxs = mulL R K C xs ys := by rw [HXN.out]; exact mulTo_all R K C xs ys
  rw [EQ] at I2
  have HL : Hid ((mulL R K C xs ys).length = N) := by show (mulL R K C xs ys).length = N; unfold mulL; rw [tab_length, HN.out]
  have gl := K2.out.lt
  have K0 := Lib.hid (K0.out.step hb)
  have K1 := Lib.hid (K1.out.step hb)
  have R2 := Lib.hid (K2.out.step hb)
  have B := Lib.hid (stepB B.out hb)
  clear hb EQ
  obtain ⟨u0, u1, u2, -, -, -⟩ := K0.out.all
  obtain ⟨y0, y1, y2, -, -, -⟩ := K1.out.all
  go_wp2_with fail
  have ST := iDone R C (some ⟨w2.heap.size, 0, none⟩) N (mulL R K C xs ys) _ I2.out.rd (by rw [HL.out]; omega)
  rw [HL.out] at ST
  refine ST.mono ?_
  clear ST
  rintro e w4 ⟨rfl, hb⟩
  have R2 := Lib.hid (R2.out.step hb)
  have I2 := Lib.hid (I2.out.keep hb I2.out.lt)
  have B := Lib.hid (stepB B.out hb)
  clear hb
  obtain ⟨s0, s1, s2, t0, t1, t2⟩ := R2.out.all
  have be : ∀ x y z, Below w.heap.size w (((w4.setCell ⟨w.heap.size + 1 + 1, 0, none⟩ x).setCell ⟨w.heap.size + 1 + 1, 1, none⟩ y).setCell ⟨w.heap.size + 1 + 1, 2, none⟩ z) := fun x y z =>
    (((B.out.setCell (by show w.heap.size ≤ w.heap.size + 1 + 1; omega) _).setCell (by show w.heap.size ≤ w.heap.size + 1 + 1; omega) _).setCell (by show w.heap.size ≤ w.heap.size + 1 + 1; omega) _)
  have BE := Lib.hid be
  clear be
  rcases Bool.eq_false_or_eq_true (isMat R C (mulL R K C xs ys)) with hd | hd
  · have E : Hid (MR.done R C (mulL R K C xs ys) = ⟨true, R, C, mulL R K C xs ys⟩) := by show MR.done R C (mulL R K C xs ys) = _; unfold MR.done; rw [hd]; rfl
    rw [hd]
    clear hd
    unfold DoneRes
    go_wp2_with fail
    obtain ⟨E0, E1, E2, -, -, -⟩ := (((R2.out.set0 (.int .i64 R)).set1 (.int .i64 C)).set2 (.slice (some ⟨w2.heap.size, 0, none⟩) N N)).all
    rw [E.out]
    refine bodyPost_ret (v := .tuple #[.agg #[.int .i64 R, .int .i64 C, .slice (some ⟨w2.heap.size, 0, none⟩) N N], .bool true]) (by simp [results, Try.results30, go_sem, E0, E1, E2]) rfl ⟨_, rfl, ?_, ?_⟩
    · refine .inr ⟨w2.heap.size, N, by rw [HL.out], by omega, ?_, by rw [HL.out]; omega, by rw [HL.out]; omega⟩
      exact ((I2.out.far (by show w2.heap.size ≠ w.heap.size + 1 + 1; omega) _).far (by show w2.heap.size ≠ w.heap.size + 1 + 1; omega) _).far (by show w2.heap.size ≠ w.heap.size + 1 + 1; omega) _
    · exact BE.out _ _ _
  · have E : Hid (MR.done R C (mulL R K C xs ys) = MR.no) := by show MR.done R C (mulL R K C xs ys) = _; unfold MR.done; rw [hd]; rfl
    rw [hd]
    clear hd
    unfold DoneRes
    go_wp2_with fail
    obtain ⟨E0, E1, E2, -, -, -⟩ := (((R2.out.set0 (.int .i64 0)).set1 (.int .i64 0)).set2 (.slice none 0 0)).all
    rw [E.out]
    exact bodyPost_ret (v := .tuple #[.agg #[.int .i64 0, .int .i64 0, .slice none 0 0], .bool false]) (by simp [results, Try.results30, go_sem, E0, E1, E2]) rfl ⟨_, rfl, .inl ⟨rfl, rfl⟩, BE.out _ _ _⟩
set_option maxRecDepth 100000 in
set_option maxHeartbeats 1000000 in
theorem iMul (r c r' c' : Int) (a b : Option Addr) (m n : Nat) (xs ys : List Int) (w : World) (h : Rd w a xs) (h' : Rd w b ys) (hn : xs.length ≤ 16777216) (hn' : ys.length ≤ 16777216) :
    Calls Try.prog 30 #[.agg #[.int .i64 r, .int .i64 c, .slice a xs.length m], .agg #[.int .i64 r', .int .i64 c', .slice b ys.length n]] w (MatRes (mulM r c xs r' c' ys) w) := by
  rcases Bool.eq_false_or_eq_true (isMat r c xs) with hm | hm
  · rcases Bool.eq_false_or_eq_true (isMat r' c' ys) with hm' | hm'
    · by_cases e1 : c = r'
      · subst e1
        obtain ⟨⟨r1, r2⟩, ⟨k1, k2⟩, -, -⟩ := isMat_says hm
        obtain ⟨-, ⟨c1, c2⟩, -, -⟩ := isMat_says hm'
        obtain ⟨R, rfl⟩ := Int.eq_ofNat_of_zero_le r1
        obtain ⟨K, rfl⟩ := Int.eq_ofNat_of_zero_le k1
        obtain ⟨C, rfl⟩ := Int.eq_ofNat_of_zero_le c1
        have E : mulM R K xs K C ys = MR.done R C (mulL R K C xs ys) := by unfold mulM; rw [hm, hm']; simp
        rw [E]
        exact iMul_t R K C a b m n xs ys w h h' hn hn' hm hm'
      · have E : Hid (mulM r c xs r' c' ys = MR.no) := by show mulM r c xs r' c' ys = _; unfold mulM; rw [hm, hm']; simp [e1]
        have n1 : (c == r') = false := by simpa using e1
        have n2 : (c != r') = true := by simpa using e1
        have B0 : ∀ o1 o2 o3, Below w.heap.size w (((w.alloc o1).alloc o2).alloc o3) := fun o1 o2 o3 => (((Below.refl _ _).alloc (Nat.le_refl _) _).alloc (by simp) _).alloc (by simp <;> omega) _
        have BH := Lib.hid B0
        have H := Lib.hid h
        have H' := Lib.hid h'
        clear B0 h h'
        have M := Lib.hid hm
        have M' := Lib.hid hm'
        clear hm hm' e1
        go_enter Try.func30, Try.ntmps30
        go_wp2_with fail
        refine (iIsMat r c a m xs _ (H.out.below (BH.out (.cells #[.int .i64 r, .int .i64 c, .slice a xs.length m] 26) (.cells #[.int .i64 r', .int .i64 c', .slice b ys.length n] 26) (.cells #[.int .i64 0, .int .i64 0, .slice none 0 0] 26))) hn).mono ?_
        rintro e w1 ⟨rfl, hb⟩
        have K0 : Hid (Blk3 w1 w.heap.size 26 (.int .i64 r) (.int .i64 c) (.slice a xs.length m)) := (((Blk3.at_ _ _ _ _ rfl).old _).old _).keep hb (by simp <;> omega)
        have K1 : Hid (Blk3 w1 (w.heap.size + 1) 26 (.int .i64 r') (.int .i64 c') (.slice b ys.length n)) := ((Blk3.at_ _ _ _ _ (by simp)).old _).keep hb (by simp <;> omega)
        have K2 : Hid (Blk3 w1 (w.heap.size + 1 + 1) 26 (.int .i64 0) (.int .i64 0) (.slice none 0 0)) := (Blk3.at_ _ _ _ _ (by simp)).keep hb (by simp)
        have B : Hid (Below w.heap.size w w1) := (BH.out _ _ _).trans (hb.mono (by simp <;> omega))
        clear hb
        obtain ⟨ca0, ca1, ca2, -, -, -⟩ := K0.out.all
        obtain ⟨cb0, cb1, cb2, -, -, -⟩ := K1.out.all
        obtain ⟨cc0, cc1, cc2, ff0, ff1, ff2⟩ := K2.out.all
        rw [M.out]
        go_wp2_with fail
        refine (iIsMat r' c' b n ys _ (H'.out.below B.out) hn').mono ?_
        rintro e w2 ⟨rfl, hb⟩
        have K0 := Lib.hid (K0.out.keep hb K0.out.lt)
        have K1 := Lib.hid (K1.out.keep hb K1.out.lt)
        have K2 := Lib.hid (K2.out.keep hb K2.out.lt)
        have B := Lib.hid (B.out.trans (hb.mono B.out.size))
        clear hb
        obtain ⟨da0, da1, da2, -, -, -⟩ := K0.out.all
        obtain ⟨db0, db1, db2, -, -, -⟩ := K1.out.all
        obtain ⟨dc0, dc1, dc2, gf0, gf1, gf2⟩ := K2.out.all
        rw [M'.out]
        go_wp2_with fail
        obtain ⟨E0, E1, E2, -, -, -⟩ := (((K2.out.set0 (.int .i64 0)).set1 (.int .i64 0)).set2 (.slice none 0 0)).all
        rw [E.out]
        exact bodyPost_ret (v := .tuple #[.agg #[.int .i64 0, .int .i64 0, .slice none 0 0], .bool false]) (by simp [results, Try.results30, go_sem, E0, E1, E2]) rfl ⟨_, rfl, .inl ⟨rfl, rfl⟩, ((B.out.setCell (by show w.heap.size ≤ w.heap.size + 1 + 1; omega) _).setCell (by show w.heap.size ≤ w.heap.size + 1 + 1; omega) _).setCell (by show w.heap.size ≤ w.heap.size + 1 + 1; omega) _⟩
    · have E : Hid (mulM r c xs r' c' ys = MR.no) := by show mulM r c xs r' c' ys = _; unfold mulM; rw [hm, hm']; simp
      have B0 : ∀ o1 o2 o3, Below w.heap.size w (((w.alloc o1).alloc o2).alloc o3) := fun o1 o2 o3 => (((Below.refl _ _).alloc (Nat.le_refl _) _).alloc (by simp) _).alloc (by simp <;> omega) _
      have BH := Lib.hid B0
      have H := Lib.hid h
      have H' := Lib.hid h'
      clear B0 h h'
      have M := Lib.hid hm
      have M' := Lib.hid hm'
      clear hm hm'
      go_enter Try.func30, Try.ntmps30
      go_wp2_with fail
      refine (iIsMat r c a m xs _ (H.out.below (BH.out (.cells #[.int .i64 r, .int .i64 c, .slice a xs.length m] 26) (.cells #[.int .i64 r', .int .i64 c', .slice b ys.length n] 26) (.cells #[.int .i64 0, .int .i64 0, .slice none 0 0] 26))) hn).mono ?_
      rintro e w1 ⟨rfl, hb⟩
      have K0 : Hid (Blk3 w1 w.heap.size 26 (.int .i64 r) (.int .i64 c) (.slice a xs.length m)) := (((Blk3.at_ _ _ _ _ rfl).old _).old _).keep hb (by simp <;> omega)
      have K1 : Hid (Blk3 w1 (w.heap.size + 1) 26 (.int .i64 r') (.int .i64 c') (.slice b ys.length n)) := ((Blk3.at_ _ _ _ _ (by simp)).old _).keep hb (by simp <;> omega)
      have K2 : Hid (Blk3 w1 (w.heap.size + 1 + 1) 26 (.int .i64 0) (.int .i64 0) (.slice none 0 0)) := (Blk3.at_ _ _ _ _ (by simp)).keep hb (by simp)
      have B : Hid (Below w.heap.size w w1) := (BH.out _ _ _).trans (hb.mono (by simp <;> omega))
      clear hb
      obtain ⟨ca0, ca1, ca2, -, -, -⟩ := K0.out.all
      obtain ⟨cb0, cb1, cb2, -, -, -⟩ := K1.out.all
      obtain ⟨cc0, cc1, cc2, ff0, ff1, ff2⟩ := K2.out.all
      rw [M.out]
      go_wp2_with fail
      refine (iIsMat r' c' b n ys _ (H'.out.below B.out) hn').mono ?_
      rintro e w2 ⟨rfl, hb⟩
      have K0 := Lib.hid (K0.out.keep hb K0.out.lt)
      have K1 := Lib.hid (K1.out.keep hb K1.out.lt)
      have K2 := Lib.hid (K2.out.keep hb K2.out.lt)
      have B := Lib.hid (B.out.trans (hb.mono B.out.size))
      clear hb
      obtain ⟨da0, da1, da2, -, -, -⟩ := K0.out.all
      obtain ⟨db0, db1, db2, -, -, -⟩ := K1.out.all
      obtain ⟨dc0, dc1, dc2, gf0, gf1, gf2⟩ := K2.out.all
      rw [M'.out]
      go_wp2_with fail
      obtain ⟨E0, E1, E2, -, -, -⟩ := (((K2.out.set0 (.int .i64 0)).set1 (.int .i64 0)).set2 (.slice none 0 0)).all
      rw [E.out]
      exact bodyPost_ret (v := .tuple #[.agg #[.int .i64 0, .int .i64 0, .slice none 0 0], .bool false]) (by simp [results, Try.results30, go_sem, E0, E1, E2]) rfl ⟨_, rfl, .inl ⟨rfl, rfl⟩, ((B.out.setCell (by show w.heap.size ≤ w.heap.size + 1 + 1; omega) _).setCell (by show w.heap.size ≤ w.heap.size + 1 + 1; omega) _).setCell (by show w.heap.size ≤ w.heap.size + 1 + 1; omega) _⟩
  · have E : Hid (mulM r c xs r' c' ys = MR.no) := by show mulM r c xs r' c' ys = _; unfold mulM; rw [hm]; simp
    have B0 : ∀ o1 o2 o3, Below w.heap.size w (((w.alloc o1).alloc o2).alloc o3) := fun o1 o2 o3 => (((Below.refl _ _).alloc (Nat.le_refl _) _).alloc (by simp) _).alloc (by simp <;> omega) _
    have BH := Lib.hid B0
    have H := Lib.hid h
    have H' := Lib.hid h'
    clear B0 h h'
    have M := Lib.hid hm
    clear hm hn'
    go_enter Try.func30, Try.ntmps30
    go_wp2_with fail
    refine (iIsMat r c a m xs _ (H.out.below (BH.out (.cells #[.int .i64 r, .int .i64 c, .slice a xs.length m] 26) (.cells #[.int .i64 r', .int .i64 c', .slice b ys.length n] 26) (.cells #[.int .i64 0, .int .i64 0, .slice none 0 0] 26))) hn).mono ?_
    rintro e w1 ⟨rfl, hb⟩
    have K0 : Hid (Blk3 w1 w.heap.size 26 (.int .i64 r) (.int .i64 c) (.slice a xs.length m)) := (((Blk3.at_ _ _ _ _ rfl).old _).old _).keep hb (by simp <;> omega)
    have K1 : Hid (Blk3 w1 (w.heap.size + 1) 26 (.int .i64 r') (.int .i64 c') (.slice b ys.length n)) := ((Blk3.at_ _ _ _ _ (by simp)).old _).keep hb (by simp <;> omega)
    have K2 : Hid (Blk3 w1 (w.heap.size + 1 + 1) 26 (.int .i64 0) (.int .i64 0) (.slice none 0 0)) := (Blk3.at_ _ _ _ _ (by simp)).keep hb (by simp)
    have B : Hid (Below w.heap.size w w1) := (BH.out _ _ _).trans (hb.mono (by simp <;> omega))
    clear hb
    obtain ⟨ca0, ca1, ca2, -, -, -⟩ := K0.out.all
    obtain ⟨cb0, cb1, cb2, -, -, -⟩ := K1.out.all
    obtain ⟨cc0, cc1, cc2, ff0, ff1, ff2⟩ := K2.out.all
    rw [M.out]
    go_wp2_with fail
    obtain ⟨E0, E1, E2, -, -, -⟩ := (((K2.out.set0 (.int .i64 0)).set1 (.int .i64 0)).set2 (.slice none 0 0)).all
    rw [E.out]
    exact bodyPost_ret (v := .tuple #[.agg #[.int .i64 0, .int .i64 0, .slice none 0 0], .bool false]) (by simp [results, Try.results30, go_sem, E0, E1, E2]) rfl ⟨_, rfl, .inl ⟨rfl, rfl⟩, ((B.out.setCell (by show w.heap.size ≤ w.heap.size + 1 + 1; omega) _).setCell (by show w.heap.size ≤ w.heap.size + 1 + 1; omega) _).setCell (by show w.heap.size ≤ w.heap.size + 1 + 1; omega) _⟩
end Go.Proofs.Ytbdofgkcedpamaa
end

section
/-
  Plain mathematics of chapter 6: a step of the elimination, cell by cell. Nothing of a program is used.
-/
namespace Go.Proofs.Ytbdofgkcedpamaa

theorem tab_self {n : Nat} {xs : List Int} (hx : xs.length = n * n) : (tab n n fun i j => xs.getD (i * n + j) 0) = xs := (tab_ext hx fun _ _ _ _ => rfl).symm
/-- The cells ahead of row i, column j are done. -/
def elTo (n t : Nat) (last : Int) (xs : List Int) (i j : Nat) : List Int := tab n n fun p q => if t < p ∧ t < q ∧ (p < i ∨ (p = i ∧ q < j)) then elAt n t last xs p q else xs.getD (p * n + q) 0
theorem elTo_length (n t : Nat) (last : Int) (xs : List Int) (i j : Nat) : (elTo n t last xs i j).length = n * n := tab_length _ _ _
theorem elTo_at {n t : Nat} {last : Int} {xs : List Int} {i j p q : Nat} (hp : p < n) (hq : q < n) : (elTo n t last xs i j).getD (p * n + q) 0 = if t < p ∧ t < q ∧ (p < i ∨ (p = i ∧ q < j)) then elAt n t last xs p q else xs.getD (p * n + q) 0 := tab_at n n _ hp hq
theorem elTo_old {n t : Nat} {last : Int} {xs : List Int} {i j p q : Nat} (hp : p < n) (hq : q < n) (h : p ≤ t ∨ q ≤ t ∨ (p = i ∧ j ≤ q)) : (elTo n t last xs i j).getD (p * n + q) 0 = xs.getD (p * n + q) 0 := by
  rw [elTo_at hp hq, if_neg (by omega)]
theorem elTo_start {n t : Nat} {last : Int} {xs : List Int} (hx : xs.length = n * n) : elTo n t last xs (t + 1) (t + 1) = xs := by
  refine (tab_ext hx fun i j _ _ => ?_).symm
  rw [if_neg (by omega)]
theorem elTo_step {n t : Nat} {last : Int} {xs : List Int} {i j : Nat} (hi : i < n) (hj : j < n) (ti : t < i) (tj : t < j) : (elTo n t last xs i j).set (i * n + j) (elAt n t last xs i j) = elTo n t last xs i (j + 1) := by
  refine tab_ext (by rw [List.length_set, elTo_length]) fun p q hp hq => ?_
  rw [getD_set _ _ _ _ (by rw [elTo_length]; exact idx_lt hi hj), elTo_at hp hq]
  by_cases e : p * n + q = i * n + j
  · obtain ⟨rfl, rfl⟩ := idx_inj hq hj e
    rw [if_pos rfl, if_pos (by omega)]
  · rw [if_neg e]
    have : ¬ (p = i ∧ q = j) := fun h => e (by rw [h.1, h.2])
    by_cases h : t < p ∧ t < q ∧ (p < i ∨ (p = i ∧ q < j))
    · rw [if_pos h, if_pos (by omega)]
    · rw [if_neg h, if_neg (by omega)]
theorem elTo_row {n t : Nat} {last : Int} {xs : List Int} {i : Nat} : elTo n t last xs i n = elTo n t last xs (i + 1) (t + 1) := by
  refine tab_ext (elTo_length _ _ _ _ _ _) fun p q hp hq => ?_
  rw [elTo_at hp hq]
  by_cases h : t < p ∧ t < q ∧ (p < i ∨ (p = i ∧ q < n))
  · rw [if_pos h, if_pos (by omega)]
  · rw [if_neg h, if_neg (by omega)]
theorem elTo_all {n t : Nat} {last : Int} {xs : List Int} : elTo n t last xs n (t + 1) = elL n t last xs := by
  refine tab_ext (elTo_length _ _ _ _ _ _) fun p q hp hq => ?_
  rw [elTo_at hp hq]
  by_cases h : t < p ∧ t < q
  · rw [if_pos h, if_pos (by omega)]
  · rw [if_neg h, if_neg (by omega)]
theorem nums_set {zs : List Int} {k : Nat} {z : Int} (h : nums zs = true) (hz : NumP z) : nums (zs.set k z) = true := by
  rcases Nat.lt_or_ge k zs.length with hk | hk
  · refine nums_true fun j hj => ?_
    rw [List.length_set] at hj
    rw [getD_set _ _ _ _ hk]
    by_cases e : j = k
    · rw [if_pos e]; exact hz
    · rw [if_neg e]; exact nums_at h hj
  · rw [List.set_eq_of_length_le hk]; exact h
theorem elL_bad {n t : Nat} {last : Int} {xs : List Int} {i j : Nat} (hi : i < n) (hj : j < n) (ti : t < i) (tj : t < j) (h : ¬ NumP (elAt n t last xs i j)) : nums (elL n t last xs) ≠ true := by
  have := nums_false (zs := elL n t last xs) (j := i * n + j) (by rw [show (elL n t last xs).length = n * n from tab_length _ _ _]; exact idx_lt hi hj) (by rw [show (elL n t last xs).getD (i * n + j) 0 = elAt n t last xs i j from (tab_at n n _ hi hj).trans (if_pos ⟨ti, tj⟩)]; exact h)
  rw [this]; decide
theorem elL_tt {n t : Nat} {last : Int} {xs : List Int} (ht : t < n) : (elL n t last xs).getD (t * n + t) 0 = xs.getD (t * n + t) 0 := (tab_at n n _ ht ht).trans (if_neg (by omega))
theorem tdiv_in {x y b : Int} (h1 : -b ≤ x) (h2 : x ≤ b) : -b ≤ x.tdiv y ∧ x.tdiv y ≤ b := by
  have e : (x.tdiv y).natAbs = x.natAbs / y.natAbs := Int.natAbs_tdiv x y
  have l := Nat.div_le_self x.natAbs y.natAbs
  omega
/-- The swap makes numbers of numbers. -/
theorem pvL_nums {n t : Nat} {xs : List Int} (hx : xs.length = n * n) (hp : pivP n t xs < n) (ht : t < n) (h : nums xs = true) : nums (pvL n t xs) = true := by
  refine nums_true fun p hp' => ?_
  rw [pvL_length, hx] at hp'
  have e : p = p / n * n + p % n := by rw [Nat.mul_comm]; exact (Nat.div_add_mod p n).symm
  have h1 : p / n < n := Nat.div_lt_of_lt_mul hp'
  have h2 : p % n < n := Nat.mod_lt p (by omega)
  rw [e, pvL_at hx h1 h2]
  refine nums_at h ?_
  rw [hx]
  refine idx_lt ?_ h2
  split
  · exact hp
  · split
    · exact ht
    · exact h1
end Go.Proofs.Ytbdofgkcedpamaa
end

section
/-
  Chapter 6, in the model: DeterminantBySteps.
-/
namespace Go.Proofs.Ytbdofgkcedpamaa
set_option maxRecDepth 100000
open Go.RowKit

def stepsOf (r c : Int) (xs : List Int) : Int × Bool := if isSq r c xs = true then stepsM r.toNat xs else (0, false)
set_option maxRecDepth 100000 in
set_option maxHeartbeats 4000000 in
theorem sSteps_t (n : Nat) (a : Option Addr) (m : Nat) (xs : List Int) (w : World) (h : Rd w a xs) (ha : Spot a) (hx : xs.length = n * n) (h6 : n ≤ 6) (nx : nums xs = true) (hs : isSq n n xs = true) :
    Calls Try.prog 39 #[.agg #[.int .i64 n, .int .i64 n, .slice a xs.length m]] w (Gives (.tuple #[.int .i64 (stepsM n xs).1, .bool (stepsM n xs).2]) w) := by
  have hle : n * n ≤ 6 * 6 := Nat.mul_le_mul h6 h6
  have B0 : Hid (∀ o1, Below w.heap.size w (w.alloc o1)) := fun o1 => (Below.refl _ _).alloc (Nat.le_refl _) _
  obtain ⟨N, hN⟩ : ∃ N, n * n = N := ⟨_, rfl⟩
  have SQ : Hid (∀ w', Below w.heap.size w w' → Calls Try.prog 44 #[.agg #[.int .i64 n, .int .i64 n, .slice a N m]] w' (Gives (.bool true) w')) := fun w' hb => by
    have := sIsSq n n a m xs w' (h.below hb) (by omega)
    rw [hx, hN, hs] at this
    exact this
  have CP : Hid (∀ w', Below w.heap.size w w' → Calls Try.prog 75 #[.agg #[.int .i64 n, .int .i64 n, .slice a N m]] w' (fun e w2 => ∃ g cap : Nat, e = .returned (.agg #[.int .i64 n, .int .i64 n, .slice (some ⟨g, 0, none⟩) N cap]) ∧ w'.heap.size ≤ g ∧ IntsC w2 g cap xs ∧ Below w'.heap.size w' w2)) := fun w' hb => sCopyA n n a m N xs w' (h.below hb) ha (by omega) (by omega)
  have ST : Hid (stR2 n n 0 xs 1 1 = stepsM n xs) := rfl
  rw [hx, hN]
  rw [hN] at hle hx
  have HN := Lib.hid hN
  have HX := Lib.hid hx
  have NX := Lib.hid nx
  generalize stepsM n xs = RES at ST ⊢
  clear h hx nx hs hN ha
  go_enter Try.func39, Try.ntmps39
  go_wp2_with fail
  refine (SQ.out _ (B0.out _)).mono ?_
  rintro e w0 ⟨rfl, hb⟩
  have K0 : Hid (Blk3 w0 w.heap.size 26 (.int .i64 n) (.int .i64 n) (.slice a N m)) := (Blk3.at_ _ _ _ _ rfl).keep hb (by simp)
  have B : Hid (Below w.heap.size w w0) := (B0.out _).trans (hb.mono (by simp))
  clear hb
  obtain ⟨p0, p1, p2, -, -, -⟩ := K0.out.all
  go_wp2_with fail
  refine (CP.out _ B.out).mono ?_
  rintro e w1 ⟨g, cap, rfl, hg, hi, hb⟩
  have l0 := K0.out.lt
  have K0 := Lib.hid (K0.out.step hb)
  have B := Lib.hid (stepB B.out hb)
  have gl := hi.lt
  have I := Lib.hid (hi.ints.old (.cells #[.int .i64 n, .int .i64 n, .slice (some ⟨g, 0, none⟩) N cap] 26))
  have l1 : w.heap.size < g := by omega
  have BA := Lib.hid (B.out.alloc B.out.size (.cells #[.int .i64 n, .int .i64 n, .slice (some ⟨g, 0, none⟩) N cap] 26))
  have K0 := Lib.hid (K0.out.old (.cells #[.int .i64 n, .int .i64 n, .slice (some ⟨g, 0, none⟩) N cap] 26))
  have K3 : Hid (Blk3 (w1.alloc (.cells #[.int .i64 n, .int .i64 n, .slice (some ⟨g, 0, none⟩) N cap] 26)) w1.heap.size 26 (.int .i64 n) (.int .i64 n) (.slice (some ⟨g, 0, none⟩) N cap)) := Blk3.at_ _ _ _ _ rfl
  clear hb hi hg p0 p1 p2
  go_upto_region 4 with fail
  generalize w1.alloc (.cells #[.int .i64 n, .int .i64 n, .slice (some ⟨g, 0, none⟩) N cap] 26) = W at I BA K0 K3 ⊢
  obtain ⟨ob, hob⟩ : ∃ ob, w1.heap.size = ob := ⟨_, rfl⟩
  rw [hob] at K3 gl ⊢
  clear hob
  obtain ⟨p0, p1, p2, -, -, -⟩ := K0.out.all
  go_wp2_with fail
  clear p0 p1 p2
  go_loopw [2, 3, 6, 7, 8, 9, 10, 11, 12] (fun _ _ v6 v7 v8 _ _ _ _ wr => ∃ (t k : Nat) (zs : List Int) (last s : Int), v8 = .int .i64 t ∧ t + k = n ∧ v6 = .int .i64 last ∧ v7 = .int .i64 s ∧ (s = 1 ∨ s = -1) ∧ last ≠ 0 ∧ NumP last ∧ zs.length = N ∧ nums zs = true ∧ stR2 n k t zs last s = RES ∧ Ints wr g zs ∧ W.grownBy wr (some g)) (fun _ _ _ _ v8 _ _ _ _ _ => n - (intOf v8).toNat)
  case atStart => exact ⟨0, n, xs, 1, 1, rfl, by omega, rfl, rfl, .inl rfl, by decide, by decide, HX.out, NX.out, ST.out, I.out, World.grownBy.refl _ _⟩
  case round =>
    obtain ⟨t, k, zs, last, s, rfl, htk, rfl, rfl, hs, hl0, hln, hz, nz, hR, hi, hgr⟩ := hrel
    have I := Lib.hid hi
    have G := Lib.hid hgr
    have HZ := Lib.hid hz
    have NZ := Lib.hid nz
    have HR := Lib.hid hR
    have S := Lib.hid hs
    have LL := Lib.hid hln
    have L0 := Lib.hid hl0
    clear hi hgr hz nz hR hs hln hl0
    have R3 := Lib.hid (K3.out.keepOne G.out (by omega))
    have BW := Lib.hid (BA.out.trans (below_of_one G.out (by omega) BA.out.size))
    obtain ⟨r0, r1, r2, -, -, -⟩ := R3.out.all
    by_cases hlt : t < n
    · obtain ⟨k, rfl⟩ : ∃ q, k = q + 1 := ⟨k - 1, by omega⟩
      go_wp2_with fail
      go_loopw [9] (fun v9 wq => ∃ p : Nat, v9 = .int .i64 p ∧ t ≤ p ∧ p ≤ n ∧ (∀ r, t ≤ r → r < p → zs.getD (r * n + t) 0 = 0) ∧ wq = wr) (fun v9 _ => n - (intOf v9).toNat)
      case atStart => exact ⟨t, rfl, Nat.le_refl _, by omega, fun r h1 h2 => by omega, rfl⟩
      case round =>
        obtain ⟨p, rfl, hp1, hp2, hp0, rfl⟩ := hrel
        have P0 := Lib.hid hp0
        clear hp0
        by_cases hpn : p < n
        · have cp : (p : Int) * (n : Int) = ((p * n : Nat) : Int) := (Int.natCast_mul _ _).symm
          have jp : p * n + t < N := by rw [← HN.out]; exact idx_lt (by omega) (by omega)
          have dp : 0 ≤ (p : Int) * (n : Int) ∧ (p : Int) * (n : Int) ≤ 600 := by rw [cp]; omega
          have ep0 : 0 ≤ (p : Int) * (n : Int) + (t : Int) := by omega
          have ep1 : (p : Int) * (n : Int) + (t : Int) < (N : Int) := by rw [cp]; omega
          have ep2 : ((p : Int) * (n : Int) + (t : Int)).toNat = p * n + t := by rw [cp]; omega
          obtain ⟨dp0, dp1⟩ := dp
          have vp0 : IntKind.i64.wrap ((p : Int) * (n : Int)) = (p : Int) * (n : Int) := IntWalk.i64_in _ (by omega)
          have vp1 : IntKind.i64.wrap ((p : Int) * (n : Int) + (t : Int)) = (p : Int) * (n : Int) + (t : Int) := IntWalk.i64_in _ (by omega)
          clear cp
          have hc := I.out.cell (i := p * n + t) (by rw [HZ.out]; exact jp)
          obtain ⟨x, hxx⟩ : ∃ x, zs.getD (p * n + t) 0 = x := ⟨_, rfl⟩
          have X := Lib.hid hxx
          rw [hxx] at hc
          clear hxx
          by_cases h0 : x = 0
          · have n1 : (x == 0) = true := by simp [h0]
            have P1 : Hid (∀ r, t ≤ r → r < p + 1 → zs.getD (r * n + t) 0 = 0) := fun r h1 h2 => by
              rcases Nat.lt_or_ge r p with h3 | h3
              · exact P0.out r h1 h3
              · obtain rfl : r = p := by omega
                rw [X.out, h0]
            clear h0
            go_wp2_with fail
            go_roundw
            case rel => exact ⟨p + 1, by go_num, by omega, by omega, P1.out, trivial⟩
            case measure => simp [intOf]; omega
          · have n1 : (x == 0) = false := by simpa using h0
            have PV : Hid (pivP n t zs = p) := pivP_eq hp1 hp2 P0.out fun _ => by rw [X.out]; exact h0
            have hpv : pivP n t zs < n := by rw [PV.out]; exact hpn
            have HY : Hid ((pvL n t zs).length = N) := by show _ = _; rw [pvL_length, HZ.out]
            have NY : Hid (nums (pvL n t zs) = true) := pvL_nums (by rw [HZ.out, HN.out]) hpv hlt NZ.out
            have TT : Hid ((pvL n t zs).getD (t * n + t) 0 ≠ 0) := by show _ ≠ _; rw [pvL_at (by rw [HZ.out, HN.out]) hlt hlt, if_pos rfl, PV.out, X.out]; exact h0
            have RB : Hid (nums (elL n t last (pvL n t zs)) ≠ true → RES = (0, false)) := fun hb => by rw [← HR.out]; exact stR2_bad (by rw [PV.out]; omega) hb
            have RO : Hid (nums (elL n t last (pvL n t zs)) = true → stR2 n k (t + 1) (elL n t last (pvL n t zs)) ((pvL n t zs).getD (t * n + t) 0) (if p = t then s else -s) = RES) := fun hb => by
              have := stR2_on (k := k) (s := s) (show pivP n t zs ≠ n by rw [PV.out]; omega) hb
              rw [HR.out, PV.out] at this
              exact this.symm
            have SW : Hid (p ≠ t → opL 0 p t 0 n zs = pvL n t zs) := fun hpt => by unfold pvL; rw [PV.out, if_neg hpt]
            have SN : Hid (p = t → zs = pvL n t zs) := fun hpt => by unfold pvL; rw [PV.out, if_pos hpt]
            clear h0 hpv
            generalize pvL n t zs = ys at HY NY TT RB RO SW SN
            obtain ⟨s2, hs2⟩ : ∃ s2, (if p = t then s else -s) = s2 := ⟨_, rfl⟩
            have SP : Hid (p = t → s2 = s) := fun h => by rw [← hs2, if_pos h]
            have SM : Hid (p ≠ t → s2 = -s) := fun h => by rw [← hs2, if_neg h]
            have S2 : Hid (s2 = 1 ∨ s2 = -1) := by have := S.out; show _ ∨ _; by_cases h : p = t; rw [SP.out h]; exact this; rw [SM.out h]; omega
            rw [hs2] at RO
            clear hs2
            have n0 : decide ((p : Int) < (n : Int)) = true := by simpa using hpn
            have n3 : ((p : Int) == (n : Int)) = false := by simp; omega
            go_upto_if 48 with fail
            go_cut [7] (fun s7 wx => s7 = .int .i64 s2 ∧ Ints wx g ys ∧ W.grownBy wx (some g))
            case first =>
              by_cases hpt : p = t
              · have n2 : ((p : Int) != (t : Int)) = false := by simp [hpt]
                have e2 := SP.out hpt
                have I2 : Hid (Ints wr g ys) := by rw [← SN.out hpt]; exact I.out
                go_wp2_with fail
                go_meet
                exact ⟨by rw [e2], I2.out, G.out⟩
              · have n2 : ((p : Int) != (t : Int)) = true := by simp; omega
                have sv : IntKind.i64.wrap (-s) = -s := IntWalk.i64_in _ (by have := S.out; omega)
                go_wp2_with fail
                refine (sDo n n p t g N cap 0 0 zs _ I.out HZ.out HN.out.symm (by omega) (by omega) hpn hlt (.inl rfl) (fun _ => hpt)).mono ?_
                rintro e w4 ⟨rfl, hi4, hg4⟩
                have G2 := Lib.hid (G.out.trans hg4)
                have I2 : Hid (Ints w4 g ys) := by rw [← SW.out hpt]; exact hi4
                have e2 := Lib.hid (SM.out hpt)
                clear hi4 hg4
                go_wp2_with fail
                go_meet
                exact ⟨by rw [e2.out], I2.out, G2.out⟩
            case rest =>
              obtain ⟨rfl, hi2, hg2⟩ := hcut
              have I2 := Lib.hid hi2
              have G2 := Lib.hid hg2
              clear hi2 hg2
              go_wp2_with fail
              go_loopw [2, 3, 10, 11, 12] (fun _ _ v10 _ _ wu => ∃ i : Nat, v10 = .int .i64 i ∧ t + 1 ≤ i ∧ i ≤ n ∧ nums (elTo n t last ys i (t + 1)) = true ∧ Ints wu g (elTo n t last ys i (t + 1)) ∧ W.grownBy wu (some g)) (fun _ _ v10 _ _ _ => n - (intOf v10).toNat)
              case atStart => exact ⟨t + 1, by go_num, Nat.le_refl _, by omega, by rw [elTo_start (by rw [HY.out, HN.out])]; exact NY.out, by rw [elTo_start (by rw [HY.out, HN.out])]; exact I2.out, G2.out⟩
              case round =>
                obtain ⟨i, rfl, hi1, hi2, hni, hii, hgi⟩ := hrel
                have NI := Lib.hid hni
                have II := Lib.hid hii
                have GI := Lib.hid hgi
                clear hni hii hgi
                by_cases hin : i < n
                · go_wp2_with fail
                  go_loopw [2, 3, 11, 12] (fun _ _ v11 _ wv => ∃ j : Nat, v11 = .int .i64 j ∧ t + 1 ≤ j ∧ j ≤ n ∧ nums (elTo n t last ys i j) = true ∧ Ints wv g (elTo n t last ys i j) ∧ W.grownBy wv (some g)) (fun _ _ v11 _ _ => n - (intOf v11).toNat)
                  case atStart => exact ⟨t + 1, by go_num, Nat.le_refl _, by omega, NI.out, II.out, GI.out⟩
                  case round =>
                    obtain ⟨j, rfl, hj1, hj2, hnj, hij, hgj⟩ := hrel
                    have NJ := Lib.hid hnj
                    have IJ := Lib.hid hij
                    have GJ := Lib.hid hgj
                    clear hnj hij hgj
                    have R3 := Lib.hid (K3.out.keepOne GJ.out (by omega))
                    have BV := Lib.hid (BA.out.trans (below_of_one GJ.out (by omega) BA.out.size))
                    clear r0 r1 r2
                    obtain ⟨r0, r1, r2, -, -, -⟩ := R3.out.all
                    by_cases hjn : j < n
                    · have ti : t < i := by omega
                      have tj : t < j := by omega
                      have ca : (i : Int) * (n : Int) = ((i * n : Nat) : Int) := (Int.natCast_mul _ _).symm
                      have ja : i * n + j < N := by rw [← HN.out]; exact idx_lt (by omega) (by omega)
                      have da : 0 ≤ (i : Int) * (n : Int) ∧ (i : Int) * (n : Int) ≤ 600 := by rw [ca]; omega
                      have ea0 : 0 ≤ (i : Int) * (n : Int) + (j : Int) := by omega
                      have ea1 : (i : Int) * (n : Int) + (j : Int) < (N : Int) := by rw [ca]; omega
                      have ea2 : ((i : Int) * (n : Int) + (j : Int)).toNat = i * n + j := by rw [ca]; omega
                      obtain ⟨da0, da1⟩ := da
                      have va0 : IntKind.i64.wrap ((i : Int) * (n : Int)) = (i : Int) * (n : Int) := IntWalk.i64_in _ (by omega)
                      have va1 : IntKind.i64.wrap ((i : Int) * (n : Int) + (j : Int)) = (i : Int) * (n : Int) + (j : Int) := IntWalk.i64_in _ (by omega)
                      clear ca
                      have cb : (t : Int) * (n : Int) = ((t * n : Nat) : Int) := (Int.natCast_mul _ _).symm
                      have jb : t * n + t < N := by rw [← HN.out]; exact idx_lt (by omega) (by omega)
                      have db : 0 ≤ (t : Int) * (n : Int) ∧ (t : Int) * (n : Int) ≤ 600 := by rw [cb]; omega
                      have eb0 : 0 ≤ (t : Int) * (n : Int) + (t : Int) := by omega
                      have eb1 : (t : Int) * (n : Int) + (t : Int) < (N : Int) := by rw [cb]; omega
                      have eb2 : ((t : Int) * (n : Int) + (t : Int)).toNat = t * n + t := by rw [cb]; omega
                      obtain ⟨db0, db1⟩ := db
                      have vb0 : IntKind.i64.wrap ((t : Int) * (n : Int)) = (t : Int) * (n : Int) := IntWalk.i64_in _ (by omega)
                      have vb1 : IntKind.i64.wrap ((t : Int) * (n : Int) + (t : Int)) = (t : Int) * (n : Int) + (t : Int) := IntWalk.i64_in _ (by omega)
                      clear cb
                      have cc : (i : Int) * (n : Int) = ((i * n : Nat) : Int) := (Int.natCast_mul _ _).symm
                      have jc : i * n + t < N := by rw [← HN.out]; exact idx_lt (by omega) (by omega)
                      have dc : 0 ≤ (i : Int) * (n : Int) ∧ (i : Int) * (n : Int) ≤ 600 := by rw [cc]; omega
                      have ec0 : 0 ≤ (i : Int) * (n : Int) + (t : Int) := by omega
                      have ec1 : (i : Int) * (n : Int) + (t : Int) < (N : Int) := by rw [cc]; omega
                      have ec2 : ((i : Int) * (n : Int) + (t : Int)).toNat = i * n + t := by rw [cc]; omega
                      obtain ⟨dc0, dc1⟩ := dc
                      have vc0 : IntKind.i64.wrap ((i : Int) * (n : Int)) = (i : Int) * (n : Int) := IntWalk.i64_in _ (by omega)
                      have vc1 : IntKind.i64.wrap ((i : Int) * (n : Int) + (t : Int)) = (i : Int) * (n : Int) + (t : Int) := IntWalk.i64_in _ (by omega)
                      clear cc
                      have cd : (t : Int) * (n : Int) = ((t * n : Nat) : Int) := (Int.natCast_mul _ _).symm
                      have jd : t * n + j < N := by rw [← HN.out]; exact idx_lt (by omega) (by omega)
                      have dd : 0 ≤ (t : Int) * (n : Int) ∧ (t : Int) * (n : Int) ≤ 600 := by rw [cd]; omega
                      have ed0 : 0 ≤ (t : Int) * (n : Int) + (j : Int) := by omega
                      have ed1 : (t : Int) * (n : Int) + (j : Int) < (N : Int) := by rw [cd]; omega
                      have ed2 : ((t : Int) * (n : Int) + (j : Int)).toNat = t * n + j := by rw [cd]; omega
                      obtain ⟨dd0, dd1⟩ := dd
                      have vd0 : IntKind.i64.wrap ((t : Int) * (n : Int)) = (t : Int) * (n : Int) := IntWalk.i64_in _ (by omega)
                      have vd1 : IntKind.i64.wrap ((t : Int) * (n : Int) + (j : Int)) = (t : Int) * (n : Int) + (j : Int) := IntWalk.i64_in _ (by omega)
                      clear cd
                      have hla : (elTo n t last ys i j).length = N := by rw [elTo_length, HN.out]
                      have ha := IJ.out.cell (i := i * n + j) (by rw [hla]; exact ja)
                      have hb := IJ.out.cell (i := t * n + t) (by rw [hla]; exact jb)
                      have hc := IJ.out.cell (i := i * n + t) (by rw [hla]; exact jc)
                      have hd := IJ.out.cell (i := t * n + j) (by rw [hla]; exact jd)
                      rw [elTo_old hin hjn (by omega)] at ha
                      rw [elTo_old hlt hlt (by omega)] at hb
                      rw [elTo_old hin hlt (by omega)] at hc
                      rw [elTo_old hlt hjn (by omega)] at hd
                      have EA : Hid (elAt n t last ys i j = (ys.getD (i * n + j) 0 * ys.getD (t * n + t) 0 - ys.getD (i * n + t) 0 * ys.getD (t * n + j) 0).tdiv last) := rfl
                      have na := nums_at NY.out (j := i * n + j) (by rw [HY.out]; exact ja)
                      have nb := nums_at NY.out (j := t * n + t) (by rw [HY.out]; exact jb)
                      have nc := nums_at NY.out (j := i * n + t) (by rw [HY.out]; exact jc)
                      have nd := nums_at NY.out (j := t * n + j) (by rw [HY.out]; exact jd)
                      generalize ys.getD (i * n + j) 0 = xa at ha na EA
                      generalize hxb : ys.getD (t * n + t) 0 = xb at hb nb EA
                      generalize ys.getD (i * n + t) 0 = xc at hc nc EA
                      generalize ys.getD (t * n + j) 0 = xd at hd nd EA
                      have XB := Lib.hid hxb
                      clear hxb hla
                      have m1 := mul_num _ _ na nb
                      have m2 := mul_num _ _ nc nd
                      have v1 : IntKind.i64.wrap (xa * xb) = xa * xb := IntWalk.i64_in _ (by omega)
                      have v2 : IntKind.i64.wrap (xc * xd) = xc * xd := IntWalk.i64_in _ (by omega)
                      have v3 : IntKind.i64.wrap (xa * xb - xc * xd) = xa * xb - xc * xd := IntWalk.i64_in _ (by omega)
                      have m3 := tdiv_in (x := xa * xb - xc * xd) (y := last) (b := 320000000000000000) (by omega) (by omega)
                      have v4 : IntKind.i64.wrap ((xa * xb - xc * xd).tdiv last) = (xa * xb - xc * xd).tdiv last := IntWalk.i64_in _ (by omega)
                      obtain ⟨y, hy⟩ : ∃ y, elAt n t last ys i j = y := ⟨_, rfl⟩
                      have Y := Lib.hid hy
                      rw [hy] at EA
                      rw [← EA.out] at v4
                      have EB := Lib.hid EA.out.symm
                      have q0 : (xa * xb - xc * xd).tdiv last = y := EB.out
                      have l0 := L0.out
                      have l00 : (last == 0) = false := by simpa using l0
                      clear na nb nc nd m1 m2 m3 hy
                      go_wp2_with fail
                      go_still_tail 41, (by kernel_rfl)
                      go_wp2_with fail
                      refine (sFit y _).mono ?_
                      rintro e w5 ⟨rfl, rfl⟩
                      clear ha hb hc hd r0 r1 r2
                      have ID := Lib.hid IJ.out.drew
                      have GD := Lib.hid (grown_drew_one GJ.out)
                      have RD := Lib.hid R3.out.drew
                      have BD := Lib.hid BV.out.drew
                      have ES := Lib.hid (elTo_step (last := last) (xs := ys) hin hjn ti tj)
                      have hla : (elTo n t last ys i j).length = N := by rw [elTo_length, HN.out]
                      have hold := ID.out.cell (i := i * n + j) (by rw [hla]; exact ja)
                      have hfr := ID.out.free (i * n + j)
                      obtain ⟨r0, r1, r2, -, -, -⟩ := RD.out.all
                      clear hla
                      by_cases hy : NumP y
                      · have NS : Hid (nums (elTo n t last ys i (j + 1)) = true) := by show nums _ = true; rw [← ES.out, Y.out]; exact nums_set NJ.out hy
                        have n4 : (y == -4611686018427387904) = false := by have h := hy; unfold NumP at h; simp; omega
                        rw [show fitB y = y from if_pos hy]
                        clear hy
                        go_wp2_with fail
                        go_roundw
                        case rel =>
                          refine ⟨j + 1, by go_num, by omega, by omega, NS.out, ?_, grown_set_one GD.out rfl _⟩
                          rw [← ES.out, Y.out]
                          exact ID.out.set (i * n + j) y
                        case measure => simp [intOf]; omega
                      · have RZ : Hid (RES = (0, false)) := RB.out (elL_bad hin hjn ti tj (by rw [Y.out]; exact hy))
                        rw [show fitB y = -4611686018427387904 from if_neg hy]
                        clear hy
                        go_wp2_with fail
                        exact bodyPost_ret (v := .tuple #[.int .i64 0, .bool false]) (by simp [results, Try.results39, go_sem]) rfl ⟨by rw [RZ.out], BD.out⟩
                    · have hjn : j = n := by omega
                      rw [hjn] at NJ IJ
                      go_wp2_with fail
                      go_roundw
                      case rel => exact ⟨i + 1, by go_num, by omega, by omega, by rw [← elTo_row]; exact NJ.out, by rw [← elTo_row]; exact IJ.out, GJ.out⟩
                      case measure => simp [intOf]; omega
                · have hie : i = n := by omega
                  rw [hie] at NI II
                  rw [elTo_all] at NI II
                  have RN : Hid (stR2 n k (t + 1) (elL n t last ys) (ys.getD (t * n + t) 0) (s2) = RES) := RO.out NI.out
                  have R3 := Lib.hid (K3.out.keepOne GI.out (by omega))
                  clear r0 r1 r2
                  obtain ⟨r0, r1, r2, -, -, -⟩ := R3.out.all
                  have ce : (t : Int) * (n : Int) = ((t * n : Nat) : Int) := (Int.natCast_mul _ _).symm
                  have je : t * n + t < N := by rw [← HN.out]; exact idx_lt (by omega) (by omega)
                  have de : 0 ≤ (t : Int) * (n : Int) ∧ (t : Int) * (n : Int) ≤ 600 := by rw [ce]; omega
                  have ee0 : 0 ≤ (t : Int) * (n : Int) + (t : Int) := by omega
                  have ee1 : (t : Int) * (n : Int) + (t : Int) < (N : Int) := by rw [ce]; omega
                  have ee2 : ((t : Int) * (n : Int) + (t : Int)).toNat = t * n + t := by rw [ce]; omega
                  obtain ⟨de0, de1⟩ := de
                  have ve0 : IntKind.i64.wrap ((t : Int) * (n : Int)) = (t : Int) * (n : Int) := IntWalk.i64_in _ (by omega)
                  have ve1 : IntKind.i64.wrap ((t : Int) * (n : Int) + (t : Int)) = (t : Int) * (n : Int) + (t : Int) := IntWalk.i64_in _ (by omega)
                  clear ce
                  have ha := II.out.cell (i := t * n + t) (by rw [show (elL n t last ys).length = n * n from tab_length _ _ _, HN.out]; exact je)
                  rw [elL_tt hlt] at ha
                  have nt := nums_at NY.out (j := t * n + t) (by rw [HY.out]; exact je)
                  have NT := Lib.hid nt
                  have t0 := TT.out
                  have T0 := Lib.hid t0
                  clear nt t0
                  go_wp2_with fail
                  go_roundw
                  case rel => exact ⟨t + 1, k, elL n t last ys, ys.getD (t * n + t) 0, s2, by go_num, by omega, rfl, rfl, S2.out, T0.out, NT.out, by rw [show (elL n t last ys).length = n * n from tab_length _ _ _, HN.out], NI.out, RN.out, II.out, GI.out⟩
                  case measure => simp [intOf]; omega
        · have hpe : p = n := by omega
          have R0 : Hid (RES = (0, true)) := by show RES = _; rw [← HR.out]; exact stR2_none ((pivP_eq hp1 hp2 P0.out fun h => absurd h hpn).trans hpe)
          have n1 : decide ((p : Int) < (n : Int)) = false := by simpa using hpn
          have n2 : ((p : Int) == (n : Int)) = true := by simp [hpe]
          clear hpe
          go_wp2_with fail
          exact bodyPost_ret (v := .tuple #[.int .i64 0, .bool true]) (by simp [results, Try.results39, go_sem]) rfl ⟨by rw [R0.out], BW.out⟩
    · have hte : t = n := by omega
      obtain rfl : k = 0 := by omega
      have RF : Hid (RES = (s * last, true)) := HR.out.symm
      have ls := LL.out
      have ss := S.out
      unfold NumP at ls
      have vm : IntKind.i64.wrap (s * last) = s * last := IntWalk.i64_in _ (by rcases ss with rfl | rfl <;> omega)
      clear ls ss hte
      go_wp2_with fail
      exact bodyPost_ret (v := .tuple #[.int .i64 (s * last), .bool true]) (by simp [results, Try.results39, go_sem]) rfl ⟨by rw [RF.out], BW.out⟩
set_option maxHeartbeats 1000000 in
theorem sSteps (r c : Int) (a : Option Addr) (m : Nat) (xs : List Int) (w : World) (h : Rd w a xs) (hn : xs.length ≤ 16777216) (ha : Spot a) :
    Calls Try.prog 39 #[.agg #[.int .i64 r, .int .i64 c, .slice a xs.length m]] w (Gives (.tuple #[.int .i64 (stepsOf r c xs).1, .bool (stepsOf r c xs).2]) w) := by
  rcases Bool.eq_false_or_eq_true (isSq r c xs) with hs | hs
  · obtain ⟨n, rfl, rfl, h6, hl, nx⟩ := isSq_says hs
    have V : stepsOf n n xs = stepsM n xs := by unfold stepsOf; rw [if_pos hs]; rfl
    rw [V]
    exact sSteps_t n a m xs w h ha hl h6 nx hs
  · have V : Hid (stepsOf r c xs = (0, false)) := by show stepsOf r c xs = _; unfold stepsOf; rw [if_neg (by rw [hs]; decide)]
    have H := Lib.hid h
    have HN := Lib.hid hn
    have B0 : Hid (∀ o1, Below w.heap.size w (w.alloc o1)) := fun o1 => (Below.refl _ _).alloc (Nat.le_refl _) _
    have SQ : Hid (∀ w', Below w.heap.size w w' → Calls Try.prog 44 #[.agg #[.int .i64 r, .int .i64 c, .slice a xs.length m]] w' (Gives (.bool false) w')) := fun w' hb => by
      have := sIsSq r c a m xs w' (H.out.below hb) HN.out
      rw [hs] at this
      exact this
    clear hs h hn
    generalize xs.length = l at SQ ⊢
    go_enter Try.func39, Try.ntmps39
    go_wp2_with fail
    refine (SQ.out _ (B0.out _)).mono ?_
    rintro e w1 ⟨rfl, hb⟩
    have B : Hid (Below w.heap.size w w1) := (B0.out _).trans (hb.mono (by simp))
    clear hb
    go_wp2_with fail
    exact bodyPost_ret (v := .tuple #[.int .i64 0, .bool false]) (by simp [results, Try.results39, go_sem]) rfl ⟨by rw [V.out], B.out⟩
end Go.Proofs.Ytbdofgkcedpamaa
end
