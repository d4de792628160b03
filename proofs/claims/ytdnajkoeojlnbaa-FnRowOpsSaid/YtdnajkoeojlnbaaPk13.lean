/-
  Texts of this seat, joined: LawAdj · ShelfE · Same · SameS
-/
import Derived.Shelf.Slices.Equal
import Derived.Ground.Names2Prog
import Derived.Shelf.Slices.Clone
import Derived.Shelf.Slices.Empties2
import Derived.Test.YtdnajkoeojlnbaaProg
import Derived.Test.YtdnajkoeojlnbaaPk2
import Derived.Test.YtdnajkoeojlnbaaPk4
import Derived.Test.YtdnajkoeojlnbaaPk7
import Derived.Test.YtdnajkoeojlnbaaPk10

section
/-
  Plain mathematics of chapter 6: adjugates and inverses, as the laws ask. Nothing of a program is used.
-/
namespace Go.Proofs.Ytdnajkoeojlnbaa

theorem done_says {r c : Int} {zs : List Int} (h : (MR.done r c zs).ok = true) : MR.done r c zs = ⟨true, r, c, zs⟩ ∧ isMat r c zs = true := by
  unfold MR.done at h ⊢
  by_cases h2 : isMat r c zs = true
  · exact ⟨if_pos h2, h2⟩
  · rw [if_neg h2] at h; exact absurd h (by simp [MR.no])
theorem done_no {r c : Int} {zs : List Int} (h : (MR.done r c zs).ok = false) : MR.done r c zs = MR.no := by
  unfold MR.done at h ⊢
  by_cases h2 : isMat r c zs = true
  · rw [if_pos h2] at h; exact absurd h (by simp)
  · exact if_neg h2
theorem adj_says {r c : Int} {xs : List Int} (h : (adjM r c xs).ok = true) : ∃ n : Nat, r = n ∧ c = n ∧ n ≤ 6 ∧ xs.length = n * n ∧ nums xs = true ∧ isMat r c xs = true ∧ adjM r c xs = ⟨true, n, n, adjL n xs⟩ ∧ isMat n n (adjL n xs) = true := by
  unfold adjM at h ⊢
  by_cases hs : isSq r c xs = true
  · rw [if_pos hs] at h ⊢
    have hm : isMat r c xs = true := by
      have := hs
      unfold isSq at this
      simp only [Bool.and_eq_true] at this
      exact this.1.1
    obtain ⟨n, rfl, rfl, h6, hl, nx⟩ := isSq_says hs
    obtain ⟨h1, h2⟩ := done_says h
    exact ⟨n, rfl, rfl, h6, hl, nx, hm, h1, h2⟩
  · rw [if_neg hs] at h; exact absurd h (by simp [MR.no])
theorem mulB_neg {a : Int} (hor : a = badN ∨ NumP a) (h : mulB a (-1) ≠ badN) : a ≠ badN ∧ mulB a (-1) = -a := by
  unfold mulB at h ⊢
  by_cases hb : a = badN ∨ (-1 : Int) = badN
  · rw [if_pos hb] at h; exact absurd rfl h
  · rw [if_neg hb] at h ⊢
    refine ⟨fun e => hb (.inl e), ?_⟩
    have ha := hor.resolve_left (fun e => hb (.inl e))
    unfold NumP at ha
    rw [wrap_small (by omega), fitB_num (by unfold NumP; omega)]; omega
theorem adjL_at {n i j : Nat} {xs : List Int} (hn : nums (adjL n xs) = true) (hi : i < n) (hj : j < n) : (adjL n xs).getD (j * n + i) 0 = adjX (n - 1) (mxL n xs) j i := by
  obtain ⟨m, rfl⟩ : ∃ m, n = m + 1 := ⟨n - 1, by omega⟩
  have e1 : (adjL (m + 1) xs).getD (j * (m + 1) + i) 0 = adjAt (m + 1) xs i j := by
    unfold adjL
    rw [turnL_at _ _ _ hi hj]
    exact tab_at _ _ _ hi hj
  have hb := nums_at hn (j := j * (m + 1) + i) (by rw [show (adjL (m + 1) xs).length = (m + 1) * (m + 1) from turnL_length _ _ _]; exact idx_lt hj hi)
  rw [e1] at hb ⊢
  have hnb : adjAt (m + 1) xs i j ≠ badN := fun e => by rw [e] at hb; exact bad_not hb
  show _ = sg (i + j) * det m (mnr (mxL (m + 1) xs) i j)
  unfold adjAt at hnb ⊢
  rw [Nat.add_sub_cancel] at hnb ⊢
  by_cases ho : (i + j) % 2 = 1
  · rw [if_pos ho] at hnb ⊢
    obtain ⟨h1, h2⟩ := mulB_neg (detB_or _ _) hnb
    rw [h2, detB_det m _ h1, det_congr (mxL_woL hi hj)]
    unfold sg
    rw [if_neg (by omega)]; omega
  · rw [if_neg ho] at hnb ⊢
    rw [detB_det m _ hnb, det_congr (mxL_woL hi hj)]
    unfold sg
    rw [if_pos (by omega), Int.one_mul]
theorem mxL_adj {n : Nat} {xs : List Int} (hn : nums (adjL n xs) = true) : EqX n (mxL n (adjL n xs)) (adjX (n - 1) (mxL n xs)) := fun _ _ hr hc => adjL_at hn hc hr
theorem mulX_congr {n : Nat} {A B C D : Mx} (h1 : EqX n A C) (h2 : EqX n B D) : EqX n (mulX n A B) (mulX n C D) := fun r c hr hc => sumN_congr fun k hk => by rw [h1 r k hr hk, h2 k c hk hc]
theorem idL_at2 {n r c : Nat} (hr : r < n) (hc : c < n) : (idL n n).getD (r * n + c) 0 = if r = c then 1 else 0 := mxL_idL n r c hr hc
theorem mulL_tab {n : Nat} {xs ys zs : List Int} (hz : zs.length = n * n) (h : ∀ i j, i < n → j < n → mulX n (mxL n xs) (mxL n ys) i j = zs.getD (i * n + j) 0) : mulL n n n xs ys = zs := by
  have : zs = tab n n fun i j => dot n n xs ys i j n := tab_ext hz fun i j hi hj => by
    rw [← h i j hi hj, dot_sum]; rfl
  rw [this]; rfl
theorem scaleL_at {xs : List Int} {q : Int} {p : Nat} (hp : p < xs.length) : (scaleL xs q).getD p 0 = xs.getD p 0 * q := by
  unfold scaleL
  simp only [List.getD, List.getElem?_map, List.getElem?_range hp, Option.map_some, Option.getD_some]
theorem scaleL_len (xs : List Int) (q : Int) : (scaleL xs q).length = xs.length := by simp [scaleL]
/-- A matrix times its adjugate. -/
theorem adj_prod {n : Nat} {xs : List Int} (hn : nums (adjL n xs) = true) : mulL n n n xs (adjL n xs) = scaleL (idL n n) (det n (mxL n xs)) := by
  refine mulL_tab (by rw [scaleL_len, idL_length]) fun i j hi hj => ?_
  rw [scaleL_at (by rw [idL_length]; exact idx_lt hi hj), idL_at2 hi hj, mulX_congr (EqX.refl n _) (mxL_adj hn) i j hi hj]
  obtain ⟨m, rfl⟩ : ∃ m, n = m + 1 := ⟨n - 1, by omega⟩
  rw [Nat.add_sub_cancel, mul_adj m _ i j hi hj]
  by_cases e : i = j
  · rw [if_pos e, if_pos e, Int.one_mul]
  · rw [if_neg e, if_neg e, Int.zero_mul]
theorem sumN_scale (n : Nat) (f : Nat → Int) (d : Int) : sumN n (fun k => f k * d) = sumN n f * d := (sumN_mul n f d).symm
/-- A matrix times its scaled adjugate, for a determinant 1 or -1, on both sides. -/
theorem inv_prod {n : Nat} {xs : List Int} (hn : nums (adjL n xs) = true) (hd : det n (mxL n xs) = 1 ∨ det n (mxL n xs) = -1) :
    mulL n n n xs (scaleL (adjL n xs) (det n (mxL n xs))) = idL n n ∧ mulL n n n (scaleL (adjL n xs) (det n (mxL n xs))) xs = idL n n := by
  have la : (adjL n xs).length = n * n := turnL_length _ _ _
  have es : EqX n (mxL n (scaleL (adjL n xs) (det n (mxL n xs)))) (fun r c => adjX (n - 1) (mxL n xs) r c * det n (mxL n xs)) := fun r c hr hc => by
    show (scaleL _ _).getD (r * n + c) 0 = _
    rw [scaleL_at (by rw [la]; exact idx_lt hr hc), adjL_at hn hc hr]
  have sq : det n (mxL n xs) * det n (mxL n xs) = 1 := by rcases hd with h | h <;> rw [h] <;> decide
  constructor
  · refine mulL_tab (idL_length _ _) fun i j hi hj => ?_
    rw [idL_at2 hi hj, mulX_congr (EqX.refl n _) es i j hi hj]
    show sumN n (fun k => mxL n xs i k * (adjX (n - 1) (mxL n xs) k j * det n (mxL n xs))) = _
    rw [sumN_congr (g := fun k => mxL n xs i k * adjX (n - 1) (mxL n xs) k j * det n (mxL n xs)) (fun k _ => (Int.mul_assoc _ _ _).symm), sumN_scale]
    obtain ⟨m, rfl⟩ : ∃ m, n = m + 1 := ⟨n - 1, by omega⟩
    have := mul_adj m (mxL (m + 1) xs) i j hi hj
    rw [Nat.add_sub_cancel]
    rw [show sumN (m + 1) (fun k => mxL (m + 1) xs i k * adjX m (mxL (m + 1) xs) k j) = _ from this]
    by_cases e : i = j
    · rw [if_pos e, if_pos e, sq]
    · rw [if_neg e, if_neg e, Int.zero_mul]
  · refine mulL_tab (idL_length _ _) fun i j hi hj => ?_
    rw [idL_at2 hi hj, mulX_congr es (EqX.refl n _) i j hi hj]
    show sumN n (fun k => adjX (n - 1) (mxL n xs) i k * det n (mxL n xs) * mxL n xs k j) = _
    rw [sumN_congr (g := fun k => adjX (n - 1) (mxL n xs) i k * mxL n xs k j * det n (mxL n xs)) (fun k _ => by rw [Int.mul_assoc, Int.mul_assoc, Int.mul_comm (det n (mxL n xs))]), sumN_scale]
    obtain ⟨m, rfl⟩ : ∃ m, n = m + 1 := ⟨n - 1, by omega⟩
    have := adj_mul m (mxL (m + 1) xs) i j hi hj
    rw [Nat.add_sub_cancel]
    rw [show sumN (m + 1) (fun k => adjX m (mxL (m + 1) xs) i k * mxL (m + 1) xs k j) = _ from this]
    by_cases e : i = j
    · rw [if_pos e, if_pos e, sq]
    · rw [if_neg e, if_neg e, Int.zero_mul]
theorem idM_nat {n : Nat} (h : n ≤ 24) : idM n = ⟨true, n, n, idL n n⟩ := by unfold idM; rw [if_pos ⟨by omega, by omega⟩]; rfl
theorem adj_want {r c d : Int} {xs : List Int} {mA mP mW : MR} (hA : adjM r c xs = mA) (oA : mA.ok = true) (h1 : (detOf r c xs).1 = d) (h2 : (detOf r c xs).2 = true) (hP : mulM r c xs mA.r mA.c mA.zs = mP) (oP : mP.ok = true)
    (hW : scaleM (idM r).r (idM r).c (idM r).zs d = mW) (oW : mW.ok = true) : mP = mW := by
  obtain ⟨n, rfl, rfl, h6, hl, nx, -, eA, hm⟩ := adj_says (by rw [hA]; exact oA)
  obtain ⟨p, p1, -, -, -, -, -, -, ed⟩ := detOf_says h1 h2
  obtain rfl : n = p := by omega
  rw [hA] at eA
  subst eA
  have hP : mulM n n xs n n (adjL n xs) = mP := hP
  obtain ⟨R, K, C, e1, e2, e3, e4, -, -, e⟩ := mulM_says (by rw [hP]; exact oP)
  obtain rfl : n = R := by omega
  obtain rfl : n = K := by omega
  obtain rfl : n = C := by omega
  rw [hP] at e
  have hn := (isMat_says hm).2.2.2
  rw [adj_prod hn, ← ed] at e
  rw [idM_nat (by omega)] at hW
  have hW : scaleM n n (idL n n) d = mW := hW
  unfold scaleM at hW
  by_cases hc : (isMat n n (idL n n) && decide (NumP d)) = true
  · rw [if_pos hc] at hW
    obtain ⟨h3, -⟩ := done_says (r := n) (c := n) (zs := scaleL (idL n n) d) (by rw [hW]; exact oW)
    rw [e, ← hW, h3]
  · rw [if_neg hc] at hW; rw [← hW] at oW; exact absurd oW (by simp [MR.no])
theorem mulM_of {n : Nat} {xs ys zs : List Int} (h1 : isMat n n xs = true) (h2 : isMat n n ys = true) (h : mulL n n n xs ys = zs) (h3 : isMat n n zs = true) : mulM n n xs n n ys = ⟨true, n, n, zs⟩ := by
  unfold mulM
  rw [if_pos (by rw [h1, h2]; simp)]
  have e : (n : Int).toNat = n := rfl
  rw [e, h]
  unfold MR.done
  rw [if_pos h3]
theorem idL_mat {n : Nat} (h : n ≤ 24) : isMat n n (idL n n) = true := by
  unfold isMat
  rw [decide_eq_true (show SizeP n from ⟨by omega, by omega⟩), idL_nums, decide_eq_true (by rw [idL_length, Int.natCast_mul])]
  rfl
theorem inv_no {r c : Int} {xs : List Int} {mV : MR} (hV : invM r c xs = mV) (oV : mV.ok = false) : mV.zs = [] := by
  unfold invM at hV
  split at hV
  · unfold scaleM at hV
    split at hV
    · have := done_no (by rw [hV]; exact oV)
      rw [hV] at this
      rw [this]; rfl
    · rw [← hV]; rfl
  · rw [← hV]; rfl
theorem inv_law {r c d : Int} {xs : List Int} {mV : MR} (hV : invM r c xs = mV) (oV : mV.ok = true) (h1 : (detOf r c xs).1 = d) :
    (d = 1 ∨ d = -1) ∧ mulM r c xs mV.r mV.c mV.zs = idM r ∧ mulM mV.r mV.c mV.zs r c xs = idM r ∧ (idM r).ok = true := by
  unfold invM at hV
  by_cases hc : uniB r c xs = true ∧ (adjM r c xs).ok = true
  · rw [if_pos hc] at hV
    obtain ⟨hu, ha⟩ := hc
    obtain ⟨n, rfl, rfl, h6, hl, nx, hmx, eA, hm⟩ := adj_says ha
    unfold uniB at hu
    simp only [Bool.and_eq_true, decide_eq_true_eq] at hu
    obtain ⟨hk, hd⟩ := hu
    rw [h1] at hd
    obtain ⟨p, p1, -, -, -, -, -, -, ed⟩ := detOf_says h1 hk
    obtain rfl : n = p := by omega
    rw [eA, h1] at hV
    have hV : scaleM n n (adjL n xs) d = mV := hV
    unfold scaleM at hV
    have hnd : NumP d := by rcases hd with h | h <;> rw [h] <;> decide
    rw [if_pos (by rw [hm, decide_eq_true hnd]; rfl)] at hV
    obtain ⟨h3, h4⟩ := done_says (r := n) (c := n) (zs := scaleL (adjL n xs) d) (by rw [hV]; exact oV)
    rw [h3] at hV
    subst hV
    have hn := (isMat_says hm).2.2.2
    obtain ⟨q1, q2⟩ := inv_prod hn (by rw [← ed]; exact hd)
    rw [← ed] at q1 q2
    rw [idM_nat (by omega)]
    exact ⟨hd, mulM_of hmx h4 q1 (idL_mat (by omega)), mulM_of h4 hmx q2 (idL_mat (by omega)), rfl⟩
  · rw [if_neg hc] at hV; rw [← hV] at oV; exact absurd oV (by simp [MR.no])
end Go.Proofs.Ytdnajkoeojlnbaa
end

section
/-
  Contracts of Go's library at this translation, each one application of a theorem of the guide's library: slices_Equal_int, slices_Equal_int_empty, slices_Equal_int_lens.
-/
namespace Go.Proofs
open Go.Shelf
def Try.lays111_ren : Go.Shelf.Ren := ⟨fun | 111 => 88 | n => n, fun | 28 => 22 | 3 => 3 | 4 => 4 | 0 => 0 | n => n, fun | n => n⟩
theorem Try.lays111 : Go.Proofs.Lays.n111 Try.prog Try.lays111_ren := {
  mixed := by kernel_rfl
  f111 := Try.func88.trans (congrArg some (by kernel_rfl))
  t0 := Try.underlying0
  a0 := Try.isAgg0
  z0 := Try.sizeOf0
  v0 := Try.zeroValue0
  t3 := Try.underlying3
  a3 := Try.isAgg3
  z3 := Try.sizeOf3
  v3 := Try.zeroValue3
  t4 := Try.underlying4
  a4 := Try.isAgg4
  z4 := Try.sizeOf4
  v4 := Try.zeroValue4
  t28 := Try.underlying22
  a28 := Try.isAgg22
  z28 := Try.sizeOf22
  v28 := Try.zeroValue22 }
open Go.RowKit Go.Lib in
theorem Try.slices_Equal_int (b1 o1 n c b2 o2 m d : Nat) (xs ys : List Int) (w : World) (hx : n ≤ xs.length) (hy : m ≤ ys.length) (hbig : n ≤ 9223372036854775807) (hbig2 : m ≤ 9223372036854775807) (hc1 : ∀ j, j < xs.length → w.cell? ⟨b1, o1 + j, none⟩ = some (.int .i64 (xs.getD j 0))) (hc2 : ∀ j, j < ys.length → w.cell? ⟨b2, o2 + j, none⟩ = some (.int .i64 (ys.getD j 0))) :
    Calls Try.prog 88 #[.slice (some ⟨b1, o1, none⟩) n c, .slice (some ⟨b2, o2, none⟩) m d] w fun e w' => e = .returned (.bool (xs.take n == ys.take m)) ∧ ∃ q, w' = w.drewN q := Any.slices_Equal_int Try.lays111 b1 o1 n c b2 o2 m d xs ys w hx hy hbig hbig2 hc1 hc2
open Go.RowKit Go.Lib in
theorem Try.slices_Equal_int_empty (a1 a2 : Option Addr) (c m d : Nat) (w : World) (hbig2 : m ≤ 9223372036854775807) :
    Calls Try.prog 88 #[.slice a1 0 c, .slice a2 m d] w fun e w' => e = .returned (.bool (decide (m = 0))) ∧ w' = w := Any.slices_Equal_int_empty Try.lays111 a1 a2 c m d w hbig2
open Go.RowKit Go.Lib in
theorem Try.slices_Equal_int_lens (a1 a2 : Option Addr) (n c m d : Nat) (w : World) (hnm : n ≠ m) :
    Calls Try.prog 88 #[.slice a1 n c, .slice a2 m d] w fun e w' => e = .returned (.bool false) ∧ w' = w := Any.slices_Equal_int_lens Try.lays111 a1 a2 n c m d w hnm
end Go.Proofs
end

section
/-
  Chapter 3, in the program: slices.Equal over slices of ints; SameMatrix.
-/
namespace Go.Proofs.Ytdnajkoeojlnbaa
open Go.RowKit

theorem iEqual (a b : Option Addr) (m n : Nat) (xs ys : List Int) (w : World) (h : Rd w a xs) (h' : Rd w b ys) (hn : xs.length ≤ 16777216) (hn' : ys.length ≤ 16777216) :
    Calls Try.prog 88 #[.slice a xs.length m, .slice b ys.length n] w fun e w' => e = .returned (.bool (decide (xs = ys))) ∧ ∃ q, w' = w.drewN q := by
  by_cases el : xs.length = ys.length
  · rcases Nat.eq_zero_or_pos xs.length with e | hz
    · obtain rfl : xs = [] := List.eq_nil_of_length_eq_zero e
      obtain rfl : ys = [] := List.eq_nil_of_length_eq_zero (by rw [← el]; rfl)
      exact (Try.slices_Equal_int_empty a b m 0 n w (by omega)).mono fun e w' ⟨h1, h2⟩ => ⟨by rw [h1]; simp, 0, by rw [h2]; rfl⟩
    · obtain ⟨b1, o1, rfl⟩ := h.addr hz
      obtain ⟨b2, o2, rfl⟩ := h'.addr (by omega)
      refine (Try.slices_Equal_int b1 o1 xs.length m b2 o2 ys.length n xs ys w (Nat.le_refl _) (Nat.le_refl _) (by omega) (by omega) h.cells h'.cells).mono fun e w' ⟨h1, h2⟩ => ⟨?_, h2⟩
      rw [h1, List.take_length, List.take_length]
      congr 2
      by_cases e : xs = ys <;> simp [e]
  · refine (Try.slices_Equal_int_lens a b xs.length m ys.length n w el).mono fun e w' ⟨h1, h2⟩ => ⟨?_, 0, by rw [h2]; rfl⟩
    rw [h1, decide_eq_false (fun e => el (by rw [e]))]

set_option maxHeartbeats 400000 in
theorem iSame (r c r' c' : Int) (a b : Option Addr) (m n : Nat) (xs ys : List Int) (w : World) (h : Rd w a xs) (h' : Rd w b ys) (hn : xs.length ≤ 16777216) (hn' : ys.length ≤ 16777216) :
    Calls Try.prog 37 #[.agg #[.int .i64 r, .int .i64 c, .slice a xs.length m], .agg #[.int .i64 r', .int .i64 c', .slice b ys.length n]] w (Gives (.bool (sameM r c xs r' c' ys)) w) := by
  have B0 : ∀ o1 o2, Below w.heap.size w ((w.alloc o1).alloc o2) := fun o1 o2 => ((Below.refl _ _).alloc (Nat.le_refl _) _).alloc (by simp) _
  have BH := Lib.hid B0
  clear B0
  have H := Lib.hid h
  have H' := Lib.hid h'
  clear h h'
  by_cases e1 : r = r'
  · by_cases e2 : c = c'
    · subst e1 e2
      have E : Hid (sameM r c xs r c ys = decide (xs = ys)) := by show sameM r c xs r c ys = _; unfold sameM; simp
      have n1 : (r == r) = true := by simp
      have n2 : (c == c) = true := by simp
      go_enter Try.func37, Try.ntmps37
      go_wp2_with fail
      refine (iEqual a b m n xs ys _ (H.out.below (BH.out _ _)) (H'.out.below (BH.out _ _)) hn hn').mono ?_
      rintro e w1 ⟨rfl, q, rfl⟩
      go_wp2_with fail
      go_ret
      exact ⟨by rw [E.out]; rfl, below_drewN (BH.out _ _) _⟩
    · have E : Hid (sameM r c xs r' c' ys = false) := decide_eq_false (fun t => e2 t.2.1)
      subst e1
      have n1 : (c == c') = false := by simpa using e2
      have n2 : (c != c') = true := by simpa using e2
      clear e2
      go_enter Try.func37, Try.ntmps37
      go_wp2_with fail
      go_ret
      exact ⟨by rw [E.out]; rfl, BH.out _ _⟩
  · have E : Hid (sameM r c xs r' c' ys = false) := decide_eq_false (fun t => e1 t.1)
    have n1 : (r == r') = false := by simpa using e1
    have n2 : (r != r') = true := by simpa using e1
    clear e1
    go_enter Try.func37, Try.ntmps37
    go_wp2_with fail
    go_ret
    exact ⟨by rw [E.out]; rfl, BH.out _ _⟩
end Go.Proofs.Ytdnajkoeojlnbaa
end

section
/-
  Chapter 3, in the model: SameMatrix.
-/
namespace Go.Proofs.Ytdnajkoeojlnbaa
open Go.RowKit

set_option maxHeartbeats 400000 in
theorem sSame (r c r' c' : Int) (a b : Option Addr) (m n : Nat) (xs ys : List Int) (w : World) (h : Rd w a xs) (h' : Rd w b ys) (hn : xs.length ≤ 16777216) :
    Calls Try.prog 43 #[.agg #[.int .i64 r, .int .i64 c, .slice a xs.length m], .agg #[.int .i64 r', .int .i64 c', .slice b ys.length n]] w (Gives (.bool (sameM r c xs r' c' ys)) w) := by
  have B0 : ∀ o1 o2, Below w.heap.size w ((w.alloc o1).alloc o2) := fun o1 o2 => ((Below.refl _ _).alloc (Nat.le_refl _) _).alloc (by simp) _
  have BH := Lib.hid B0
  clear B0
  have H := Lib.hid h
  have H' := Lib.hid h'
  clear h h'
  by_cases e1 : r = r'
  · by_cases e2 : c = c'
    · by_cases e3 : xs.length = ys.length
      · subst e1 e2
        obtain ⟨k0, hk0⟩ : ∃ k0, xs.length = k0 := ⟨_, rfl⟩
        have HX := Lib.hid hk0
        have HY : Hid (ys.length = k0) := e3.symm.trans hk0
        rw [← e3, hk0]
        rw [hk0] at hn
        clear e3 hk0
        go_enter Try.func43, Try.ntmps43
        go_wp2_with fail
        go_loopw [5] (fun i wr => ∃ k : Nat, i = .int .i64 k ∧ k ≤ k0 ∧ (∀ j : Nat, j < k → xs.getD j 0 = ys.getD j 0) ∧ ∃ q, wr = ((w.alloc (.cells #[.int .i64 r, .int .i64 c, .slice a k0 m] 27)).alloc (.cells #[.int .i64 r, .int .i64 c, .slice b k0 n] 27)).drewN q) (fun i _ => k0 - (intOf i).toNat)
        case atStart => exact ⟨0, rfl, by omega, fun j hj => absurd hj (by omega), 0, rfl⟩
        case round =>
          obtain ⟨k, rfl, hk, hall, q, rfl⟩ := hrel
          have HA := Lib.hid hall
          clear hall
          by_cases hlt : k < k0
          · obtain ⟨b1, o1, rfl, hc1⟩ := (H.out.below (BH.out (.cells #[.int .i64 r, .int .i64 c, .slice a k0 m] 27) (.cells #[.int .i64 r, .int .i64 c, .slice b k0 n] 27))) k (by rw [HX.out]; exact hlt)
            obtain ⟨b2, o2, rfl, hc2⟩ := (H'.out.below (BH.out (.cells #[.int .i64 r, .int .i64 c, .slice (some ⟨b1, o1, none⟩) k0 m] 27) (.cells #[.int .i64 r, .int .i64 c, .slice b k0 n] 27))) k (by rw [HY.out]; exact hlt)
            obtain ⟨x, hx⟩ : ∃ x, xs.getD k 0 = x := ⟨_, rfl⟩
            obtain ⟨y, hy⟩ : ∃ y, ys.getD k 0 = y := ⟨_, rfl⟩
            rw [hx] at hc1
            rw [hy] at hc2
            have X := Lib.hid hx
            have Y := Lib.hid hy
            clear hx hy
            by_cases hxy : x = y
            · subst hxy
              go_wp2_with fail
              go_quiet (fail)
              go_wp2_with fail
              go_roundw
              case rel =>
                refine ⟨k + 1, by go_num, by omega, fun j hj => ?_, _, rfl⟩
                rcases Nat.lt_or_ge j k with h1 | h1
                · exact HA.out j h1
                · obtain rfl : j = k := by omega
                  rw [X.out, Y.out]
              case measure => simp [intOf]; omega
            · have E : Hid (sameM r c xs r c ys = false) := decide_eq_false (fun t => hxy (by rw [← X.out, ← Y.out, t.2.2]))
              have n1 : (x != y) = true := by simpa using hxy
              have n2 : (x == y) = false := by simpa using hxy
              clear hxy
              go_wp2_with fail
              go_quiet (fail)
              go_wp2_with fail
              go_ret
              exact ⟨by rw [E.out]; rfl, below_drewN (below_drewN (BH.out _ _) _) _⟩
          · have hkn : k = k0 := by omega
            subst hkn
            have E : Hid (sameM r c xs r c ys = true) := decide_eq_true ⟨rfl, rfl, list_eq HX.out HY.out HA.out⟩
            go_wp2_with fail
            go_ret
            exact ⟨by rw [E.out]; rfl, below_drewN (BH.out _ _) _⟩
      · have E : Hid (sameM r c xs r' c' ys = false) := decide_eq_false (fun t => e3 (by rw [t.2.2]))
        subst e1 e2
        obtain ⟨k0, hk0⟩ : ∃ k0, xs.length = k0 := ⟨_, rfl⟩
        obtain ⟨k1, hk1⟩ : ∃ k1, ys.length = k1 := ⟨_, rfl⟩
        rw [hk0, hk1] at e3
        rw [hk0] at hn ⊢
        rw [hk1]
        have n1 : (k0 == k1) = false := by simpa using e3
        have n2 : (k0 != k1) = true := by simpa using e3
        have n3 : ((k0 : Int) == (k1 : Int)) = false := by simp; omega
        have n4 : ((k0 : Int) != (k1 : Int)) = true := by simp; omega
        clear e3 hk0 hk1
        go_enter Try.func43, Try.ntmps43
        go_wp2_with fail
        go_ret
        exact ⟨by rw [E.out]; rfl, BH.out _ _⟩
    · have E : Hid (sameM r c xs r' c' ys = false) := decide_eq_false (fun t => e2 t.2.1)
      subst e1
      have n1 : (c == c') = false := by simpa using e2
      have n2 : (c != c') = true := by simpa using e2
      clear e2
      go_enter Try.func43, Try.ntmps43
      go_wp2_with fail
      go_ret
      exact ⟨by rw [E.out]; rfl, BH.out _ _⟩
  · have E : Hid (sameM r c xs r' c' ys = false) := decide_eq_false (fun t => e1 t.1)
    have n1 : (r == r') = false := by simpa using e1
    have n2 : (r != r') = true := by simpa using e1
    clear e1
    go_enter Try.func43, Try.ntmps43
    go_wp2_with fail
    go_ret
    exact ⟨by rw [E.out]; rfl, BH.out _ _⟩
end Go.Proofs.Ytdnajkoeojlnbaa
end
