/-
  Texts of this seat, joined: OpDet · LawDet · EchSp · ImL · ElTo · MnMath · MnMem · MnTake · MnNew · MnAcc · MnBits · MnDet · MnDet2 · SqI · DetI
-/
import Derived.StillTailTactics
import Derived.BigQuiet
import Derived.Maps.OwnSet
import Derived.Maps.AppendAt
import Derived.Deep.DeepCutAuto
import Derived.IntWalk
import Derived.Test.YtncplikadacjnaaRows
import Derived.WalkKit
import Derived.Laws.BitsAll
import Derived.Deep.RegionHeld3
import Derived.Test.YtncplikadacjnaaPk1
import Derived.Test.YtncplikadacjnaaPk3
import Derived.Test.YtncplikadacjnaaPk4
import Derived.Test.YtncplikadacjnaaPk6
import Derived.Test.YtncplikadacjnaaPk11

section
/-
  Plain mathematics of chapters 5 and 6: what operations on rows do to the determinant. Nothing of a program is used.
-/
namespace Go.Proofs.Ytncplikadacjnaa

theorem opL_getD {k : Int} {I J : Nat} {t : Int} {C : Nat} {xs : List Int} {p : Nat} (hp : p < xs.length) : (opL k I J t C xs).getD p 0 = opAt k I J t C xs p := by
  unfold opL
  simp only [List.getD, List.getElem?_map, List.getElem?_range hp, Option.map_some, Option.getD_some]
/-- If all cells are numbers in the end, no cell has a mark. -/
theorem opL_raw {k : Int} {I J : Nat} {t : Int} {R C : Nat} {xs : List Int} (hk : k = 0 ∨ k = 1 ∨ k = 2) (hl : xs.length = R * C) (hx : nums xs = true) (hI : I < R) (ht : NumP t) (hn : nums (opL k I J t C xs) = true) (p : Nat) (hp : p < R * C) :
    (opL k I J t C xs).getD p 0 = rwAt k I J t C xs p := by
  have hpr : ∀ q, q < C → k = 2 → NumP (xs.getD (J * C + q) 0 * t) := by
    intro q hq h2
    subst h2
    by_cases hb : NumP (xs.getD (J * C + q) 0 * t)
    · exact hb
    · exfalso
      have hi : I * C + q < xs.length := by rw [hl]; exact idx_lt hI hq
      have e : (opL 2 I J t C xs).getD (I * C + q) 0 = badN := by
        rw [opL_getD hi, opAt_two _ _ _ _ _ hq, mulB_num (nums_def hx _) ht, fitB_bad hb, addB_bad]
      have := nums_at hn (j := I * C + q) (by rw [opL_length]; exact hi)
      rw [e] at this
      exact bad_not this
  have hC : 0 < C := by
    rcases Nat.eq_zero_or_pos C with e | e
    · subst e; omega
    · exact e
  have hp' : p < xs.length := by rw [hl]; exact hp
  have h1 := nums_at hn (j := p) (by rw [opL_length]; exact hp')
  rw [opL_getD hp', opAt_raw k I J t C xs p hk hx ht (fun h2 _ => hpr _ (Nat.mod_lt p hC) h2)] at h1 ⊢
  by_cases hz : NumP (rwAt k I J t C xs p)
  · exact fitB_num hz
  · rw [fitB_bad hz] at h1; exact absurd h1 bad_not
/-- An operation on rows, over matrices. -/
def opX (k : Int) (I J : Nat) (t : Int) (A : Mx) : Mx := fun r c =>
  if k = 0 then (if r = I then A J c else if r = J then A I c else A r c)
  else if k = 1 then (if r = I then - A r c else A r c)
  else (if r = I then A r c + A J c * t else A r c)
theorem rwAt_mx {k : Int} {I J : Nat} {t : Int} {C : Nat} {xs : List Int} {r c : Nat} (hc : c < C) : rwAt k I J t C xs (r * C + c) = opX k I J t (fun r c => xs.getD (r * C + c) 0) r c := by
  unfold rwAt opX
  rw [idx_div hc, idx_mod hc]
theorem opX_mxL {k : Int} {I J : Nat} {t : Int} {n : Nat} {xs : List Int} (hk : k = 0 ∨ k = 1 ∨ k = 2) (hl : xs.length = n * n) (hx : nums xs = true) (hI : I < n) (ht : NumP t) (hn : nums (opL k I J t n xs) = true) :
    EqX n (mxL n (opL k I J t n xs)) (opX k I J t (mxL n xs)) := fun r c hr hc => by
  show (opL k I J t n xs).getD (r * n + c) 0 = _
  rw [opL_raw hk hl hx hI ht hn _ (idx_lt hr hc), rwAt_mx hc]
  rfl
def opSg (k : Int) : Int := if k = 2 then 1 else -1
theorem opX_det {k : Int} {I J : Nat} {t : Int} {n : Nat} (A : Mx) (hk : k = 0 ∨ k = 1 ∨ k = 2) (hI : I < n) (hJ : J < n) (hIJ : k ≠ 1 → I ≠ J) : det n (opX k I J t A) = opSg k * det n A := by
  rcases hk with rfl | rfl | rfl
  · have e : opX 0 I J t A = swR A I J := by
      funext r c
      unfold opX swR
      rw [if_pos rfl]
    rw [e, alt_swap (det_lin n) (det_alt n) (hIJ (by decide)) hI hJ A]
    unfold opSg
    rw [if_neg (by decide)]; omega
  · have e : opX 1 I J t A = stR A I (fun c => (-1) * A I c) := by
      funext r c
      unfold opX stR
      rw [if_neg (by decide), if_pos rfl]
      by_cases h : r = I
      · rw [if_pos h, if_pos h, h]
        show - A I c = (-1) * A I c
        omega
      · rw [if_neg h, if_neg h]
    rw [e, lin_scale (det_lin n) hI A (-1) (A I), stR_self]
    unfold opSg
    rw [if_neg (by decide)]
  · have e : opX 2 I J t A = stR A I (fun c => A I c + t * A J c) := by
      funext r c
      unfold opX stR
      rw [if_neg (by decide), if_neg (by decide)]
      by_cases h : r = I
      · rw [if_pos h, if_pos h, h, Int.mul_comm]
      · rw [if_neg h, if_neg h]
    rw [e, alt_add (det_lin n) (det_alt n) (hIJ (by decide)) hI hJ A t]
    unfold opSg
    rw [if_pos rfl, Int.one_mul]
/-- What an operation that succeeds has made of a square matrix. -/
theorem opM_det {k i j t : Int} {n : Nat} {xs : List Int} (h : (opM k i j t n n xs).ok = true) :
    ∃ ys : List Int, opM k i j t n n xs = ⟨true, n, n, ys⟩ ∧ xs.length = n * n ∧ nums xs = true ∧ ys.length = n * n ∧ nums ys = true ∧ det n (mxL n ys) = opSg k * det n (mxL n xs) := by
  unfold opM at h ⊢
  by_cases h1 : (isMat n n xs && isOp k i j t n) = true
  · rw [if_pos h1] at h ⊢
    simp only [Bool.and_eq_true] at h1
    obtain ⟨hm, ho⟩ := h1
    obtain ⟨-, -, hl, hx⟩ := isMat_says hm
    obtain ⟨hk, -, ⟨i1, i2⟩, ⟨j1, j2⟩, ht, -⟩ := isOp_says ho
    rw [← Int.natCast_mul] at hl
    have hl : xs.length = n * n := by omega
    obtain ⟨I, rfl⟩ := Int.eq_ofNat_of_zero_le i1
    obtain ⟨J, rfl⟩ := Int.eq_ofNat_of_zero_le j1
    have hIJ : k ≠ 1 → I ≠ J := fun h1 => by
      rcases hk with rfl | rfl | rfl
      · have := isOp_rows0 ho; omega
      · exact absurd rfl h1
      · have := isOp_rows2 ho; omega
    unfold MR.done at h ⊢
    by_cases h2 : isMat n n (opL k I J t n xs) = true
    · have hn := (isMat_says h2).2.2.2
      have e : (n : Int).toNat = n := rfl
      refine ⟨opL k I J t n xs, if_pos h2, hl, hx, by rw [opL_length, hl], hn, ?_⟩
      rw [det_congr (opX_mxL hk hl hx (by omega) ht hn)]
      exact opX_det _ hk (by omega) (by omega) hIJ
    · rw [show (if isMat n n (opL k (I : Int).toNat (J : Int).toNat t (n : Int).toNat xs) = true then _ else MR.no) = MR.no from if_neg h2] at h
      exact absurd h (by simp [MR.no])
  · rw [if_neg h1] at h; exact absurd h (by simp [MR.no])
theorem mxL_idL (n : Nat) : EqX n (mxL n (idL n n)) idX := fun r c hr hc => by
  have hp : r * n + c < n * n := idx_lt hr hc
  have e : (idL n n).getD (r * n + c) 0 = if (r * n + c) % (n + 1) = 0 ∧ r * n + c < n * (n + 1) then 1 else 0 := by
    unfold idL
    simp only [List.getD, List.getElem?_map, List.getElem?_range hp, Option.map_some, Option.getD_some]
  show (idL n n).getD (r * n + c) 0 = _
  rw [e]
  have hlt : r * n + c < n * (n + 1) := by rw [Nat.mul_add, Nat.mul_one]; omega
  unfold idX
  rcases Nat.lt_trichotomy r c with h | h | h
  · have e2 : r * n + c = r * (n + 1) + (c - r) := by rw [Nat.mul_add, Nat.mul_one]; omega
    rw [if_neg (fun h' => by rw [e2, idx_mod (by omega)] at h'; omega), if_neg (by omega)]
  · subst h
    have e2 : r * n + r = r * (n + 1) + 0 := by rw [Nat.mul_add, Nat.mul_one]; omega
    rw [if_pos ⟨by rw [e2, idx_mod (by omega)], hlt⟩, if_pos rfl]
  · obtain ⟨p, rfl⟩ : ∃ p, r = p + 1 := ⟨r - 1, by omega⟩
    have e2 : (p + 1) * n + c = p * (n + 1) + (n + c - p) := by rw [Nat.mul_add, Nat.mul_one, Nat.add_mul, Nat.one_mul]; omega
    rw [if_neg (fun h' => by rw [e2, idx_mod (by omega)] at h'; omega), if_neg (by omega)]
theorem idL_nums (n : Nat) : nums (idL n n) = true := by
  refine nums_true fun p hp => ?_
  rw [idL_length] at hp
  unfold idL
  simp only [List.getD, List.getElem?_map, List.getElem?_range hp, Option.map_some, Option.getD_some]
  split
  · exact ⟨by decide, by decide⟩
  · exact ⟨by decide, by decide⟩
theorem idL_det (n : Nat) : det n (mxL n (idL n n)) = 1 := by rw [det_congr (mxL_idL n), det_id]
end Go.Proofs.Ytncplikadacjnaa
end

section
/-
  Plain mathematics of chapter 6: what the laws say. Nothing of a program is used.
-/
namespace Go.Proofs.Ytncplikadacjnaa

theorem detOf_says {r c d : Int} {xs : List Int} (h1 : (detOf r c xs).1 = d) (h2 : (detOf r c xs).2 = true) : ∃ n : Nat, r = n ∧ c = n ∧ n ≤ 6 ∧ xs.length = n * n ∧ nums xs = true ∧ detB n xs = d ∧ NumP d ∧ d = det n (mxL n xs) := by
  have hn := detOf_num r c xs
  rw [h1] at hn
  unfold detOf at h1 h2
  by_cases hs : isSq r c xs = true
  · rw [if_pos hs] at h1 h2
    obtain ⟨n, rfl, rfl, h6, hl, nx⟩ := isSq_says hs
    have e : (n : Int).toNat = n := rfl
    rw [e] at h1 h2
    unfold detM at h1 h2
    by_cases hb : detB n xs = badN
    · rw [if_pos hb] at h2; exact absurd h2 (by decide)
    · rw [if_neg hb] at h1
      have h1 : detB n xs = d := h1
      exact ⟨n, rfl, rfl, h6, hl, nx, h1, hn, by rw [← h1]; exact detB_det n xs hb⟩
  · rw [if_neg hs] at h2; exact absurd h2 (by decide)
theorem mulM_says {r c r' c' : Int} {xs ys : List Int} (h : (mulM r c xs r' c' ys).ok = true) : ∃ R K C : Nat, r = R ∧ c = K ∧ r' = K ∧ c' = C ∧ isMat r c xs = true ∧ isMat r' c' ys = true ∧ mulM r c xs r' c' ys = ⟨true, r, c', mulL R K C xs ys⟩ := by
  unfold mulM at h ⊢
  by_cases h1 : (isMat r c xs && isMat r' c' ys && decide (c = r')) = true
  · rw [if_pos h1] at h ⊢
    simp only [Bool.and_eq_true, decide_eq_true_eq] at h1
    obtain ⟨⟨hm, hm'⟩, rfl⟩ := h1
    obtain ⟨⟨r1, -⟩, ⟨c1, -⟩, -, -⟩ := isMat_says hm
    obtain ⟨-, ⟨c2, -⟩, -, -⟩ := isMat_says hm'
    obtain ⟨R, rfl⟩ := Int.eq_ofNat_of_zero_le r1
    obtain ⟨K, rfl⟩ := Int.eq_ofNat_of_zero_le c1
    obtain ⟨C, rfl⟩ := Int.eq_ofNat_of_zero_le c2
    unfold MR.done at h ⊢
    by_cases h2 : isMat R C (mulL R K C xs ys) = true
    · exact ⟨R, K, C, rfl, rfl, rfl, rfl, hm, hm', if_pos h2⟩
    · rw [show (if isMat R C (mulL (R : Int).toNat (K : Int).toNat (C : Int).toNat xs ys) = true then _ else MR.no) = MR.no from if_neg h2] at h
      exact absurd h (by simp [MR.no])
  · rw [if_neg h1] at h; exact absurd h (by simp [MR.no])
theorem mxL_mul (n : Nat) (xs ys : List Int) : EqX n (mxL n (mulL n n n xs ys)) (mulX n (mxL n xs) (mxL n ys)) := fun r c hr hc => by
  show (mulL n n n xs ys).getD (r * n + c) 0 = sumN n fun k => mxL n xs r k * mxL n ys k c
  unfold mulL
  rw [tab_at n n _ hr hc, dot_sum]
  rfl
/-- The determinant of a product. -/
theorem prod_det {r c r' c' dx dy dz : Int} {xs ys : List Int} {m : MR} (hm : mulM r c xs r' c' ys = m) (ho : m.ok = true) (a1 : (detOf r c xs).1 = dx) (a2 : (detOf r c xs).2 = true) (b1 : (detOf r' c' ys).1 = dy) (b2 : (detOf r' c' ys).2 = true)
    (c1 : (detOf m.r m.c m.zs).1 = dz) (c2 : (detOf m.r m.c m.zs).2 = true) : dx * dy = dz ∧ NumP dx ∧ NumP dy := by
  obtain ⟨n, rfl, rfl, -, -, -, -, na, ea⟩ := detOf_says a1 a2
  obtain ⟨k, rfl, rfl, -, -, -, -, nb, eb⟩ := detOf_says b1 b2
  obtain ⟨R, K, C, e1, e2, e3, e4, -, -, e⟩ := mulM_says (by rw [hm]; exact ho)
  obtain rfl : n = R := by omega
  obtain rfl : n = K := by omega
  obtain rfl : k = n := by omega
  obtain rfl : k = C := by omega
  rw [hm] at e
  subst e
  obtain ⟨p, p1, -, -, -, -, -, -, ec⟩ := detOf_says c1 c2
  have p1 : (k : Int) = (p : Int) := p1
  obtain rfl : k = p := by omega
  refine ⟨?_, na, nb⟩
  rw [ea, eb, ec]
  show _ = det k (mxL k (mulL k k k xs ys))
  rw [det_congr (mxL_mul k xs ys), det_mul]
/-- A matrix turned over. -/
theorem turn_det {r c dx dz : Int} {xs : List Int} (a1 : (detOf r c xs).1 = dx) (a2 : (detOf r c xs).2 = true) (c1 : (detOf (turnM r c xs).r (turnM r c xs).c (turnM r c xs).zs).1 = dz) (c2 : (detOf (turnM r c xs).r (turnM r c xs).c (turnM r c xs).zs).2 = true) : dx = dz := by
  obtain ⟨n, rfl, rfl, -, hl, -, -, na, ea⟩ := detOf_says a1 a2
  obtain ⟨p, p1, p2, -, hl2, -, -, nc, ec⟩ := detOf_says c1 c2
  unfold turnM at p1 ec
  by_cases hm : isMat n n xs = true
  · rw [if_pos hm] at p1 ec
    have p1 : (n : Int) = (p : Int) := p1
    obtain rfl : n = p := by omega
    rw [ea, ec]
    show det n (mxL n xs) = det n (mxL n (turnL n n xs))
    rw [← det_tr n (mxL n xs)]
    refine det_congr fun r c hr hc => ?_
    show xs.getD (c * n + r) 0 = (turnL n n xs).getD (r * n + c) 0
    exact (turnL_at n n xs hc hr).symm
  · exfalso
    unfold detOf isSq at a2
    rw [show isMat n n xs = false by simpa using hm] at a2
    simp at a2
theorem steps_says {r c d : Int} {xs : List Int} (h1 : (detOf r c xs).1 = d) (h2 : (detOf r c xs).2 = true) {e : Int} (hs : (if isSq r c xs = true then stepsM r.toNat xs else (0, false)) = (e, true)) : d = e := by
  obtain ⟨n, rfl, rfl, -, hl, -, -, -, ed⟩ := detOf_says h1 h2
  by_cases hq : isSq n n xs = true
  · rw [if_pos hq] at hs
    rw [ed]
    exact (stepsM_det hl hs).symm
  · rw [if_neg hq] at hs; exact absurd (congrArg Prod.snd hs) (by simp)
end Go.Proofs.Ytncplikadacjnaa
end

section
/-
  Chapter 7, in the model: SameSpace.
-/
namespace Go.Proofs.Ytncplikadacjnaa
set_option maxRecDepth 100000
open Go.RowKit

theorem echR_ok {r c : Int} {xs : List Int} (h : (echR r c xs).ok = true) : isMat r c xs = true ∧ ∃ (R C : Nat) (ys : List Int) (pv : List Nat), r = R ∧ c = C ∧ R ≤ 24 ∧ C ≤ 24 ∧ xs.length = R * C ∧ nums xs = true ∧ echM R C xs = some (ys, pv) ∧ echR r c xs = ⟨R, C, ys, pvI pv, true⟩ ∧ ys.length = R * C ∧ pv.length ≤ R := by
  unfold echR at h
  by_cases hm : isMat r c xs = true
  · rw [if_pos hm] at h
    obtain ⟨⟨r0, r1⟩, ⟨c0, c1⟩, hl, nx⟩ := isMat_says hm
    obtain ⟨R, rfl⟩ := Int.eq_ofNat_of_zero_le r0
    obtain ⟨C, rfl⟩ := Int.eq_ofNat_of_zero_le c0
    have hx : xs.length = R * C := by rw [← Int.natCast_mul] at hl; omega
    have e1 : echR R C xs = ER.of R C (echM R C xs) := if_pos hm
    cases he : echM R C xs with
    | none =>
      have h2 : (ER.of R C (echM R C xs)).ok = true := h
      rw [he] at h2; exact absurd h2 (by simp [ER.of, ER.no])
    | some o =>
      obtain ⟨ys, pv⟩ := o
      obtain ⟨h1, -, -, h4, -, -⟩ := echM_says hx nx he
      rw [he] at e1
      exact ⟨hm, R, C, ys, pv, rfl, rfl, by omega, by omega, hx, nx, he, e1, h4, h1.le⟩
  · rw [if_neg hm] at h; exact absurd h (by simp [ER.no])
def spOf (r c : Int) (xs : List Int) (r2 c2 : Int) (ys : List Int) : Bool × Bool :=
  if (echR r c xs).ok = true ∧ (echR r2 c2 ys).ok = true ∧ c = c2 then
    (decide ((echR r c xs).pv.length = (echR r2 c2 ys).pv.length) && decide (∀ i, i < (echR r c xs).pv.length * c.toNat → (echR r c xs).zs.getD i 0 = (echR r2 c2 ys).zs.getD i 0), true)
  else (false, false)
structure SpSt (w : World) (s2 x y : Nat) (r c r2 c2 : Int) (a a2 qa qd : Option Addr) (L m L2 m2 ca cd : Nat) (A D : ER) (wr : World) : Prop where
  b1 : Blk3 wr w.heap.size 26 (.int .i64 r) (.int .i64 c) (.slice a L m)
  b2 : Blk3 wr s2 26 (.int .i64 r2) (.int .i64 c2) (.slice a2 L2 m2)
  bx : Blk3 wr x 26 (.int .i64 A.r) (.int .i64 A.c) (.slice qa A.zs.length ca)
  by_ : Blk3 wr y 26 (.int .i64 D.r) (.int .i64 D.c) (.slice qd D.zs.length cd)
  rx : Rd wr qa A.zs
  ry : Rd wr qd D.zs
  bel : Below w.heap.size w wr
theorem SpSt.drewN {w : World} {s2 x y : Nat} {r c r2 c2 : Int} {a a2 qa qd : Option Addr} {L m L2 m2 ca cd : Nat} {A D : ER} {wr : World} (h : SpSt w s2 x y r c r2 c2 a a2 qa qd L m L2 m2 ca cd A D wr) (n : Nat) : SpSt w s2 x y r c r2 c2 a a2 qa qd L m L2 m2 ca cd A D (wr.drewN n) :=
  ⟨h.b1.drewN n, h.b2.drewN n, h.bx.drewN n, h.by_.drewN n, h.rx.drewN n, h.ry.drewN n, below_drewN h.bel n⟩
end Go.Proofs.Ytncplikadacjnaa
end

section
/-
  Plain mathematics of chapter 8: what the law of images says.
-/
namespace Go.Proofs.Ytncplikadacjnaa

theorem mod_tmod {x p : Int} (h : x % p = 0) : Int.tmod x p = 0 := by
  obtain ⟨k, rfl⟩ := Int.dvd_of_emod_eq_zero h
  exact Int.mul_tmod_right p k
/-- Where a determinant over the residues is found. -/
theorem img_says {r c p : Int} {xs : List Int} (h : (dtM r c p xs).2 = true) :
    2 ≤ p ∧ p ≤ 10000 ∧ (rkM r c p xs).2 = true ∧ 0 ≤ (rkM r c p xs).1 ∧ 0 ≤ (dtM r c p xs).1 ∧ (dtM r c p xs).1 < p ∧ ((dtM r c p xs).1 == 0) = decide ((rkM r c p xs).1 < r) ∧
    ((detOf r c xs).2 = true → NumP (detOf r c xs).1 ∧ Int.tmod ((detOf r c xs).1 - (dtM r c p xs).1) p = 0) ∧ ((echR r c xs).ok = true → (rkM r c p xs).1 ≤ ((echR r c xs).pv.length : Int)) := by
  rcases Bool.eq_false_or_eq_true (isMat r c xs && prmB p) with hm | hm
  rotate_left
  · rw [(rkM_no hm).2.2] at h
    exact absurd h (by decide)
  obtain ⟨R, C, N, rfl, rfl, hN, hR, hC, hx, hl, hp, -, -, e2, e3⟩ := rkM_yes hm
  by_cases hRC : R = C
  rotate_left
  · rw [e3, if_neg hRC] at h
    exact absurd h (by decide)
  subst hRC
  rw [if_pos rfl] at e3
  obtain ⟨P, p1⟩ := prmB_says hp
  have p0 := P.1
  rw [hN] at hx
  obtain ⟨m1, m2⟩ := elM_det P hx
  rw [m2] at e3
  obtain ⟨q1, q2, -, -, -⟩ := elM_says P hx
  have d0 : 0 ≤ det R (mxC R xs) % p := Int.emod_nonneg _ (by omega)
  have d1 : det R (mxC R xs) % p < p := Int.emod_lt_of_pos _ (by omega)
  rw [e2, e3]
  refine ⟨p0, p1, rfl, Int.natCast_nonneg _, d0, d1, ?_, fun hd => ?_, fun he => ?_⟩
  · show (det R (mxC R xs) % p == 0) = decide (((elM p R R xs).2.1.length : Int) < (R : Int))
    rw [Bool.eq_iff_iff, beq_iff_eq, decide_eq_true_eq, ← m1]
    omega
  · obtain ⟨n, hn, -, -, -, -, -, na, ed⟩ := detOf_says rfl hd
    obtain rfl : R = n := by omega
    refine ⟨na, mod_tmod ?_⟩
    show ((detOf (R : Int) (R : Int) xs).1 - det R (mxC R xs) % p) % p = 0
    rw [ed]
    show (det R (mxC R xs) - det R (mxC R xs) % p) % p = 0
    rw [Int.sub_emod, Int.emod_emod, Int.sub_self, Int.zero_emod]
  · obtain ⟨-, R', C', ys, pv, hr, hc, -, -, hx', nx, hech, ee, -, -⟩ := echR_ok he
    obtain rfl : R = R' := by omega
    obtain rfl : R = C' := by omega
    rw [ee]
    obtain ⟨a1, -, a3, -, -, -⟩ := echM_says hx' nx hech
    have := rank_image P a1 a3 q1 q2
    show ((elM p R R xs).2.1.length : Int) ≤ ((pvI pv).length : Int)
    rw [pvI_length]
    omega
end Go.Proofs.Ytncplikadacjnaa
end

section
/-
  Plain mathematics of chapter 6: a step of the elimination, cell by cell. Nothing of a program is used.
-/
namespace Go.Proofs.Ytncplikadacjnaa

theorem tab_self {n : Nat} {xs : List Int} (hx : xs.length = n * n) : (tab n n fun i j => xs.getD (i * n + j) 0) = xs := (tab_ext hx fun _ _ _ _ => rfl).symm
/-- The cells ahead of row i, column j are done. -/
def elTo (n t : Nat) (last : Int) (xs : List Int) (i j : Nat) : List Int := tab n n fun p q => if t < p ∧ t < q ∧ (p < i ∨ (p = i ∧ q < j)) then elAt n t last xs p q else xs.getD (p * n + q) 0
theorem elTo_length (n t : Nat) (last : Int) (xs : List Int) (i j : Nat) : (elTo n t last xs i j).length = n * n := tab_length _ _ _
theorem elTo_at {n t : Nat} {last : Int} {xs : List Int} {i j p q : Nat} (hp : p < n) (hq : q < n) : (elTo n t last xs i j).getD (p * n + q) 0 = if t < p ∧ t < q ∧ (p < i ∨ (p = i ∧ q < j)) then elAt n t last xs p q else xs.getD (p * n + q) 0 := tab_at n n _ hp hq
theorem elTo_old {n t : Nat} {last : Int} {xs : List Int} {i j p q : Nat} (hp : p < n) (hq : q < n) (h : p ≤ t ∨ q ≤ t ∨ (p = i ∧ j ≤ q)) : (elTo n t last xs i j).getD (p * n + q) 0 = xs.getD (p * n + q) 0 := by
  rw [elTo_at hp hq, if_neg (by omega)]
theorem elTo_start {n t : Nat} {last : Int} {xs : List Int} (hx : xs.length = n * n) : elTo n t last xs (t + 1) (t + 1) = xs := by
  refine (tab_ext hx fun i j _ _ => ?_).symm
  rw [if_neg (by omega)]
theorem elTo_step {n t : Nat} {last : Int} {xs : List Int} {i j : Nat} (hi : i < n) (hj : j < n) (ti : t < i) (tj : t < j) : (elTo n t last xs i j).set (i * n + j) (elAt n t last xs i j) = elTo n t last xs i (j + 1) := by
  refine tab_ext (by rw [List.length_set, elTo_length]) fun p q hp hq => ?_
  rw [getD_set _ _ _ _ (by rw [elTo_length]; exact idx_lt hi hj), elTo_at hp hq]
  by_cases e : p * n + q = i * n + j
  · obtain ⟨rfl, rfl⟩ := idx_inj hq hj e
    rw [if_pos rfl, if_pos (by omega)]
  · rw [if_neg e]
    have : ¬ (p = i ∧ q = j) := fun h => e (by rw [h.1, h.2])
    by_cases h : t < p ∧ t < q ∧ (p < i ∨ (p = i ∧ q < j))
    · rw [if_pos h, if_pos (by omega)]
    · rw [if_neg h, if_neg (by omega)]
theorem elTo_row {n t : Nat} {last : Int} {xs : List Int} {i : Nat} : elTo n t last xs i n = elTo n t last xs (i + 1) (t + 1) := by
  refine tab_ext (elTo_length _ _ _ _ _ _) fun p q hp hq => ?_
  rw [elTo_at hp hq]
  by_cases h : t < p ∧ t < q ∧ (p < i ∨ (p = i ∧ q < n))
  · rw [if_pos h, if_pos (by omega)]
  · rw [if_neg h, if_neg (by omega)]
theorem elTo_all {n t : Nat} {last : Int} {xs : List Int} : elTo n t last xs n (t + 1) = elL n t last xs := by
  refine tab_ext (elTo_length _ _ _ _ _ _) fun p q hp hq => ?_
  rw [elTo_at hp hq]
  by_cases h : t < p ∧ t < q
  · rw [if_pos h, if_pos (by omega)]
  · rw [if_neg h, if_neg (by omega)]
theorem nums_set {zs : List Int} {k : Nat} {z : Int} (h : nums zs = true) (hz : NumP z) : nums (zs.set k z) = true := by
  rcases Nat.lt_or_ge k zs.length with hk | hk
  · refine nums_true fun j hj => ?_
    rw [List.length_set] at hj
    rw [getD_set _ _ _ _ hk]
    by_cases e : j = k
    · rw [if_pos e]; exact hz
    · rw [if_neg e]; exact nums_at h hj
  · rw [List.set_eq_of_length_le hk]; exact h
theorem elL_bad {n t : Nat} {last : Int} {xs : List Int} {i j : Nat} (hi : i < n) (hj : j < n) (ti : t < i) (tj : t < j) (h : ¬ NumP (elAt n t last xs i j)) : nums (elL n t last xs) ≠ true := by
  have := nums_false (zs := elL n t last xs) (j := i * n + j) (by rw [show (elL n t last xs).length = n * n from tab_length _ _ _]; exact idx_lt hi hj) (by rw [show (elL n t last xs).getD (i * n + j) 0 = elAt n t last xs i j from (tab_at n n _ hi hj).trans (if_pos ⟨ti, tj⟩)]; exact h)
  rw [this]; decide
theorem elL_tt {n t : Nat} {last : Int} {xs : List Int} (ht : t < n) : (elL n t last xs).getD (t * n + t) 0 = xs.getD (t * n + t) 0 := (tab_at n n _ ht ht).trans (if_neg (by omega))
theorem tdiv_in {x y b : Int} (h1 : -b ≤ x) (h2 : x ≤ b) : -b ≤ x.tdiv y ∧ x.tdiv y ≤ b := by
  have e : (x.tdiv y).natAbs = x.natAbs / y.natAbs := Int.natAbs_tdiv x y
  have l := Nat.div_le_self x.natAbs y.natAbs
  omega
/-- The swap makes numbers of numbers. -/
theorem pvL_nums {n t : Nat} {xs : List Int} (hx : xs.length = n * n) (hp : pivP n t xs < n) (ht : t < n) (h : nums xs = true) : nums (pvL n t xs) = true := by
  refine nums_true fun p hp' => ?_
  rw [pvL_length, hx] at hp'
  have e : p = p / n * n + p % n := by rw [Nat.mul_comm]; exact (Nat.div_add_mod p n).symm
  have h1 : p / n < n := Nat.div_lt_of_lt_mul hp'
  have h2 : p % n < n := Nat.mod_lt p (by omega)
  rw [e, pvL_at hx h1 h2]
  refine nums_at h ?_
  rw [hx]
  refine idx_lt ?_ h2
  split
  · exact hp
  · split
    · exact ht
    · exact h1
end Go.Proofs.Ytncplikadacjnaa
end

section
/-
  Plain mathematics of chapter 6: determinants of the last of some rows in a set of columns, the columns as the bits of a number. Nothing of a program is used.
-/
namespace Go.Proofs.Ytncplikadacjnaa

/-- The columns of a set, in order. -/
def colsL (n S : Nat) : List Nat := (List.range n).filter fun c => S.testBit c
/-- A set without a column, as 64 bits. -/
def lessS (S c : Nat) : Nat := S &&& (18446744073709551615 - 2 ^ c)
/-- A square matrix: the last rows, as many as there are columns. -/
def rowsD (xs : List Int) (n : Nat) (rows cs : List Nat) : List Int := tab cs.length cs.length fun i j => xs.getD (rows.getD (rows.length - cs.length + i) 0 * n + cs.getD j 0) 0
def setD (n : Nat) (xs : List Int) (rows : List Nat) (S : Nat) : Int := detB (colsL n S).length (rowsD xs n rows (colsL n S))
theorem colsL_succ (c S : Nat) : colsL (c + 1) S = if S.testBit c then colsL c S ++ [c] else colsL c S := by
  unfold colsL
  rw [List.range_succ, List.filter_append]
  by_cases h : S.testBit c = true
  · rw [if_pos h]; simp [h]
  · rw [if_neg h]; simp [h]
theorem colsL_in {c S : Nat} (h : S.testBit c = true) : (colsL (c + 1) S).length = (colsL c S).length + 1 := by rw [colsL_succ, if_pos h]; simp
theorem colsL_out {c S : Nat} (h : S.testBit c = false) : colsL (c + 1) S = colsL c S := by rw [colsL_succ, if_neg (by rw [h]; decide)]
theorem colsL_pre {c n S : Nat} (h : c ≤ n) : ∃ r, colsL n S = colsL c S ++ r := by
  obtain ⟨k, rfl⟩ := Nat.exists_eq_add_of_le h
  unfold colsL
  rw [List.range_add, List.filter_append]
  exact ⟨_, rfl⟩
theorem colsL_at {c n S : Nat} (hc : c < n) (h : S.testBit c = true) : (colsL c S).length < (colsL n S).length ∧ (colsL n S).getD (colsL c S).length 0 = c := by
  obtain ⟨r, e⟩ := colsL_pre (S := S) (show c + 1 ≤ n from hc)
  rw [e, colsL_succ, if_pos h]
  refine ⟨by simp, ?_⟩
  simp [List.getD]
theorem colsL_le {c n S : Nat} (h : c ≤ n) : (colsL c S).length ≤ (colsL n S).length := by
  obtain ⟨r, e⟩ := colsL_pre (S := S) h
  rw [e, List.length_append]; omega
theorem colsL_less : ∀ n, n ≤ 6 → ∀ S, S < 64 → ∀ c, c < n → S.testBit c = true → colsL n (lessS S c) = (colsL n S).eraseIdx (colsL c S).length ∧ lessS S c < 64 := by
  decide +kernel
theorem lessS_lt : ∀ n, n ≤ 6 → ∀ S, S < 2 ^ n → ∀ c, c < n → lessS S c < 2 ^ n := by
  decide +kernel
theorem colsL_none : ∀ n, n ≤ 6 → ∀ S, S < 2 ^ n → (colsL n S).length = 0 → S = 0 := by
  decide +kernel
theorem colsL_full : ∀ n, n ≤ 6 → colsL n (2 ^ n - 1) = List.range n := by decide +kernel
theorem colsL_fullLess : ∀ n, n ≤ 6 → ∀ j, j < n → colsL n (lessS (2 ^ n - 1) j) = (List.range n).eraseIdx j := by decide +kernel
theorem colsL_zero (n : Nat) : colsL n 0 = [] := by unfold colsL; simp
theorem erase_getD (cs : List Nat) (t j : Nat) : (cs.eraseIdx t).getD j 0 = cs.getD (skp t j) 0 := by
  unfold skp
  rw [List.getD, List.getD, List.getElem?_eraseIdx]
  split <;> rfl
theorem rowsD_minor (xs : List Int) (n : Nat) (rows cs : List Nat) (k t : Nat) (hc : cs.length = k + 1) (hr : k + 1 ≤ rows.length) (ht : t < k + 1) :
    woL (k + 1) 0 (t : Int) (rowsD xs n rows cs) ((k + 1) * (k + 1)) = rowsD xs n rows (cs.eraseIdx t) := by
  have hl : (cs.eraseIdx t).length = k := by rw [List.length_eraseIdx, hc, if_pos ht]; omega
  have e := woL_tab k 0 t (rowsD xs n rows cs) (by omega) ht
  rw [show ((0 : Nat) : Int) = 0 from rfl] at e
  rw [e]
  unfold rowsD
  rw [hl, hc]
  have hl2 : (tab k k fun i j => xs.getD (rows.getD (rows.length - k + i) 0 * n + (cs.eraseIdx t).getD j 0) 0).length = k * k := tab_length _ _ _
  refine (tab_ext hl2 fun i j hi hj => ?_).symm
  rw [tab_at k k _ hi hj, tab_at (k + 1) (k + 1) _ (skp_lt hi) (skp_lt hj), erase_getD, skp_zero]
  rw [show rows.length - (k + 1) + (i + 1) = rows.length - k + i by omega]
/-- What the expansion of k + 1 columns meets. -/
theorem setD_first {xs : List Int} {n : Nat} {rows cs : List Nat} {k : Nat} (hc : cs.length = k + 1) (j : Nat) (hj : j < k + 1) : (rowsD xs n rows cs).getD j 0 = xs.getD (rows.getD (rows.length - (k + 1)) 0 * n + cs.getD j 0) 0 := by
  have := tab_at (k + 1) (k + 1) (fun i j => xs.getD (rows.getD (rows.length - (k + 1) + i) 0 * n + cs.getD j 0) 0) (show 0 < k + 1 by omega) hj
  rw [Nat.zero_mul, Nat.zero_add, Nat.add_zero] at this
  unfold rowsD
  rw [hc]
  exact this
theorem setD_zero (n : Nat) (xs : List Int) (rows : List Nat) : setD n xs rows 0 = 1 := by unfold setD; rw [colsL_zero]; rfl
theorem setD_or (n : Nat) (xs : List Int) (rows : List Nat) (S : Nat) : setD n xs rows S = badN ∨ NumP (setD n xs rows S) := detB_or _ _
theorem mnB_less {n S c k : Nat} {xs : List Int} {rows : List Nat} (h6 : n ≤ 6) (hS : S < 64) (hc : c < n) (hb : S.testBit c = true) (hk : (colsL n S).length = k + 1) (hr : k + 1 ≤ rows.length) :
    mnB k (rowsD xs n rows (colsL n S)) (colsL c S).length = setD n xs rows (lessS S c) := by
  obtain ⟨e, -⟩ := colsL_less n h6 S hS c hc hb
  have hp := (colsL_at hc hb).1
  unfold mnB setD
  rw [e, List.length_eraseIdx, hk, if_pos (by omega), Nat.add_sub_cancel, rowsD_minor xs n rows _ k _ hk hr (by omega)]
theorem less_card {n S c k : Nat} (h6 : n ≤ 6) (hS : S < 64) (hc : c < n) (hb : S.testBit c = true) (hk : (colsL n S).length = k + 1) : (colsL n (lessS S c)).length = k := by
  obtain ⟨e, -⟩ := colsL_less n h6 S hS c hc hb
  have hp := (colsL_at hc hb).1
  rw [e, List.length_eraseIdx, hk, if_pos (by omega)]; omega
/-- All rows, all columns. -/
theorem setD_all {n : Nat} {xs : List Int} (h6 : n ≤ 6) (hx : xs.length = n * n) : setD n xs (List.range n) (2 ^ n - 1) = detB n xs := by
  unfold setD
  rw [colsL_full n h6]
  unfold rowsD
  simp only [List.length_range, Nat.sub_self, Nat.zero_add]
  congr 1
  refine (tab_ext hx fun i j hi hj => ?_).symm
  simp [List.getD, hi, hj]
/-- The rows but one. -/
def rowsBut (n : Nat) (e : Int) : List Nat := (List.range n).filter fun (r : Nat) => decide ((r : Int) ≠ e)
theorem rowsBut_all (n : Nat) : rowsBut n (-1) = List.range n := by
  unfold rowsBut
  refine List.filter_eq_self.mpr fun r _ => decide_eq_true (by omega)
theorem rowsBut_one : ∀ n, n ≤ 6 → ∀ i : Nat, i < n → rowsBut n (i : Int) = (List.range (n - 1)).map (skp i) := by decide +kernel
theorem rowsBut_le (n : Nat) (e : Int) : (rowsBut n e).length ≤ n := by
  unfold rowsBut
  have := List.length_filter_le (fun (r : Nat) => decide ((r : Int) ≠ e)) (List.range n)
  simpa using this
theorem rowsBut_lt {n : Nat} {e : Int} {k : Nat} (h : k < (rowsBut n e).length) : (rowsBut n e).getD k 0 < n := by
  have := List.getElem_mem h
  rw [List.getD, List.getElem?_eq_getElem h]
  unfold rowsBut at this
  exact List.mem_range.mp (List.mem_filter.mp this).1
theorem rowsBut_in {e : Int} {r : Nat} (h : (r : Int) ≠ e) : rowsBut (r + 1) e = rowsBut r e ++ [r] := by
  unfold rowsBut
  rw [List.range_succ, List.filter_append]
  simp [h]
theorem rowsBut_out {e : Int} {r : Nat} (h : (r : Int) = e) : rowsBut (r + 1) e = rowsBut r e := by
  unfold rowsBut
  rw [List.range_succ, List.filter_append]
  simp [h]
theorem setD_cross {n i j : Nat} {xs : List Int} (h6 : n ≤ 6) (hx : xs.length = n * n) (hi : i < n) (hj : j < n) : setD n xs (rowsBut n i) (lessS (2 ^ n - 1) j) = detB (n - 1) (woL n i j xs (n * n)) := by
  obtain ⟨p, rfl⟩ : ∃ p, n = p + 1 := ⟨n - 1, by omega⟩
  rw [woL_tab p i j xs hi hj]
  unfold setD
  rw [colsL_fullLess _ h6 j hj, rowsBut_one _ h6 i hi]
  have hl : ((List.range (p + 1)).eraseIdx j).length = p := by rw [List.length_eraseIdx, List.length_range, if_pos hj]; omega
  unfold rowsD
  rw [hl]
  show detB p _ = detB p _
  congr 1
  have hl2 : (tab p p fun a b => xs.getD (skp i a * (p + 1) + skp j b) 0).length = p * p := tab_length _ _ _
  refine (tab_ext hl2 fun a b ha hb => ?_).symm
  rw [tab_at p p _ ha hb, erase_getD]
  have h1 := skp_lt (j := j) hb
  simp [List.getD, ha, h1]
end Go.Proofs.Ytncplikadacjnaa
end

section
/-
  Chapter 6, in the program: a block of five cells, a map of determinants, clear. No function of the program is named.
-/
namespace Go.Proofs.Ytncplikadacjnaa
open Go.RowKit Go.Maps

/-- A block of five cells, none of them frozen. -/
def Blk5 (w : World) (b : Nat) (t : TypeId) (p q r s u : Value) : Prop := w.heap[b]? = some (.cells #[p, q, r, s, u] t (0, 0))
theorem Blk5.all {w : World} {b : Nat} {t : TypeId} {p q r s u : Value} (h : Blk5 w b t p q r s u) : w.cell? ⟨b, 0, none⟩ = some p ∧ w.cell? ⟨b, 1, none⟩ = some q ∧ w.cell? ⟨b, 2, none⟩ = some r ∧ w.cell? ⟨b, 3, none⟩ = some s ∧ w.cell? ⟨b, 4, none⟩ = some u := by
  unfold Blk5 at h
  simp [World.cell?, h]
theorem Blk5.free {w : World} {b : Nat} {t : TypeId} {p q r s u : Value} (h : Blk5 w b t p q r s u) (o : Nat) : w.frozen? ⟨b, o, none⟩ = false := by unfold Blk5 at h; simp [World.frozen?, h]
theorem Blk5.lt {w : World} {b : Nat} {t : TypeId} {p q r s u : Value} (h : Blk5 w b t p q r s u) : b < w.heap.size := lt_of_block h
theorem Blk5.move {w w' : World} {b : Nat} {t : TypeId} {p q r s u : Value} (h : Blk5 w b t p q r s u) (e : w'.heap[b]? = w.heap[b]?) : Blk5 w' b t p q r s u := e.trans h
theorem Blk5.keep {w w' : World} {b B : Nat} {t : TypeId} {p q r s u : Value} (h : Blk5 w b t p q r s u) (hb : Below B w w') (hB : b < B) : Blk5 w' b t p q r s u := h.move (hb.block b hB)
theorem Blk5.old {w : World} {b : Nat} {t : TypeId} {p q r s u : Value} (h : Blk5 w b t p q r s u) (o : Obj) : Blk5 (w.alloc o) b t p q r s u := h.move (Below.heap_alloc w o b h.lt)
theorem Blk5.frs {w w' : World} {b : Nat} {t : TypeId} {p q r s u : Value} {pr : Nat → Prop} (h : Blk5 w b t p q r s u) (hf : FrS pr w w') (hb : ¬ pr b) : Blk5 w' b t p q r s u := h.move (hf.block b h.lt hb)
theorem Blk5.one {w w' : World} {b c : Nat} {t : TypeId} {p q r s u : Value} (h : Blk5 w b t p q r s u) (hg : w.grownBy w' (some c)) (hne : b ≠ c) : Blk5 w' b t p q r s u := h.move (hg.block b h.lt (by simpa using hne))
theorem Blk5.grown {w w' : World} {b : Nat} {row : Option Nat} {t : TypeId} {p q r s u : Value} (h : Blk5 w b t p q r s u) (hg : w.grownBy w' row) (hne : some b ≠ row) : Blk5 w' b t p q r s u := h.move (hg.block b h.lt hne)
theorem Blk5.at_ {w : World} {b : Nat} (t : TypeId) (p q r s u : Value) (hb : b = w.heap.size) : Blk5 (w.alloc (.cells #[p, q, r, s, u] t)) b t p q r s u := by
  subst hb; unfold Blk5; show (w.heap.push _)[w.heap.size]? = _
  rw [Array.getElem?_push, if_pos rfl]
theorem Blk5.set3 {w : World} {b : Nat} {t : TypeId} {p q r s u : Value} (h : Blk5 w b t p q r s u) (v : Value) : Blk5 (w.setCell ⟨b, 3, none⟩ v) b t p q r v u := by
  have hlt := h.lt
  unfold Blk5 at h ⊢
  have h' : w.heap[b] = .cells #[p, q, r, s, u] t (0, 0) := by simpa [Array.getElem?_eq_getElem hlt] using h
  show (w.heap.modify b _)[b]? = _
  rw [Array.getElem?_eq_getElem (by simpa using hlt), Array.getElem_modify_self, h']
  rfl
/-- A map of ints by sets of columns. -/
def Mp (w : World) (bm c : Nat) (D : DataW Unit) : Prop := w.ownsMap Try.prog 61 (plainElem Try.prog 3) bm c D
theorem keyed_cols : Keyed Try.prog 61 := int_keyed (q := .u64) (by kernel_rfl)
theorem und_cols : Try.prog.underlying 61 = some (.int .u64) := by kernel_rfl
theorem und_map : Try.prog.underlying 93 = some (.map 61 3) := by kernel_rfl
theorem und_int : Try.prog.underlying 3 = some (.int .i64) := by kernel_rfl
theorem zero_int (w : World) : (zeroValue 3).run Try.prog w = .ok (.int .i64 0) w := by kernel_rfl
theorem Mp.lt {w : World} {bm c : Nat} {D : DataW Unit} (h : Mp w bm c D) : bm < w.heap.size := World.ownsMap.lt h
theorem Mp.made (w : World) : Mp (w.alloc (.map #[] 0)) w.heap.size 0 (.map []) := World.ownsMap_made w _ _ _
theorem Mp.kept {w w' : World} {bm c : Nat} {D : DataW Unit} {row : Option Nat} (h : Mp w bm c D) (hg : w.grownBy w' row) (hne : some bm ≠ row) : Mp w' bm c D := World.ownsMap.kept h hg hne
theorem Mp.move {w w' : World} {bm c : Nat} {D : DataW Unit} (h : Mp w bm c D) (e : w'.heap[bm]? = w.heap[bm]?) : Mp w' bm c D := by
  obtain ⟨es, clock, hb, r⟩ := h
  exact ⟨es, clock, e.trans hb, r⟩
theorem Mp.mono {w : World} {bm c c' : Nat} {D : DataW Unit} (h : Mp w bm c D) (hc : c ≤ c') : Mp w bm c' D := World.ownsMap.mono h hc
theorem Mp.ne5 {w : World} {bm c b : Nat} {D : DataW Unit} {t : TypeId} {p q r s u : Value} (h : Mp w bm c D) (k : Blk5 w b t p q r s u) : b ≠ bm := by
  obtain ⟨es, clock, hb, -⟩ := h
  rintro rfl
  unfold Blk5 at k
  rw [hb] at k
  cases k
theorem Mp.ne3 {w : World} {bm c b : Nat} {D : DataW Unit} {t : TypeId} {p q r : Value} (h : Mp w bm c D) (k : Blk3 w b t p q r) : b ≠ bm := by
  obtain ⟨es, clock, hb, -⟩ := h
  rintro rfl
  unfold Blk3 at k
  rw [hb] at k
  cases k
theorem Mp.neCell {w : World} {bm c b : Nat} {D : DataW Unit} {o : Nat} {v : Value} (h : Mp w bm c D) (k : w.cell? ⟨b, o, none⟩ = some v) : b ≠ bm := by
  obtain ⟨es, clock, hb, -⟩ := h
  rintro rfl
  simp [World.cell?, hb] at k
theorem Mp.neInts {w : World} {bm c g : Nat} {D : DataW Unit} {zs : List Int} (h : Mp w bm c D) (k : Ints w g zs) : g ≠ bm := by
  obtain ⟨es, clock, hb, -⟩ := h
  obtain ⟨rest, k⟩ := k
  rintro rfl
  rw [hb] at k
  cases k
theorem Rd.map {w w' : World} {bm c : Nat} {D : DataW Unit} {a : Option Addr} {zs : List Int} (h : Rd w a zs) (hm : Mp w bm c D) (hg : w.grownBy w' (some bm)) : Rd w' a zs := fun i hi => by
  obtain ⟨b, o, ha, hc⟩ := h i hi
  exact ⟨b, o, ha, hg.cell hc (by simpa using hm.neCell hc)⟩
/-- clear. -/
theorem Mp.clear {w : World} {bm c : Nat} {D : DataW Unit} (h : Mp w bm c D) (ty : TypeId) :
    ∃ w', (Builtin.clear_ #[93] ty #[.map (some bm)]).run Try.prog w = .ok (.tuple #[]) w' ∧ Mp w' bm 0 (.map []) ∧ w.grownBy w' (some bm) := by
  obtain ⟨es, clock, hb, -⟩ := h
  refine ⟨ChangeMaps.setBlock w bm (.map #[] clock), ?_, ⟨#[], clock, ChangeMaps.heap_setBlock_same hb _, ⟨by simp, MapKept.stamped_empty clock, by simp⟩, Nat.le_refl _, rfl⟩, ⟨rfl, rfl, rfl, by simp [ChangeMaps.setBlock], fun i _ hi => ChangeMaps.heap_setBlock_other hb _ (fun e => hi (by rw [e]))⟩⟩
  simp [Builtin.clear_, run_underlying und_map, MapKept.run_getObj_map hb, MapKept.run_setObj_map _ hb, Result.andThen, ChangeMaps.setBlock]
/-- clear, at the operation. -/
theorem wpList_clear_own (w : World) {ops : Array Oper} {rest : List Oper} {o : Oper} {a : Act} {Q : Exit → Act → World → Prop} (hg : o.guard = none) (m : Operand) (hop : o.op = Op.call { callee := Callee.builtin Builtin.clear, args := #[m], argTypes := #[93] })
    (bm c : Nat) (D : DataW Unit) (hm : a.eval m = .map (some bm)) (hown : Mp w bm c D)
    (hK : ∀ w', Mp w' bm 0 (.map []) → w.grownBy w' (some bm) → wpList Try.prog ops Q rest (a.put o.dst (.tuple #[])) w') : wpList Try.prog ops Q (o :: rest) a w := by
  refine wpList_plain hg fun K' hK' => ?_
  obtain ⟨w', hrun, r1, r2⟩ := hown.clear o.type
  unfold Oper.wp
  simp [execOp, hop, resolve, invoke, builtin, hm, hrun, Result.andThen]
  exact hK' _ _ (hK w' r1 r2)
/-- Each determinant that the map has is the right one, and a number. -/
def Memo (n : Nat) (xs : List Int) (rows : List Nat) (D : DataW Unit) : Prop := ∀ S : Nat, Maps.has D (.int .u64 (S : Int)) = true → setD n xs rows S ≠ badN ∧ D.atKey (.int .u64 (S : Int)) (.lit (.int .i64 0)) = .lit (.int .i64 (setD n xs rows S))
theorem Memo.none (n : Nat) (xs : List Int) (rows : List Nat) : Memo n xs rows (.map []) := fun S h => by
  unfold Maps.has at h
  simp at h
theorem Memo.put {n : Nat} {xs : List Int} {rows : List Nat} {D : DataW Unit} (h : Memo n xs rows D) (hD : IsMap D) (S : Nat) (hb : setD n xs rows S ≠ badN) : Memo n xs rows (D.put (.int .u64 (S : Int)) (.lit (.int .i64 (setD n xs rows S)))) := fun S' hS => by
  by_cases e : S' = S
  · subst e
    exact ⟨hb, Maps.atKey_put_same hD (by trivial) _ _⟩
  · have ne : Lit.int .u64 (S' : Int) ≠ Lit.int .u64 (S : Int) := fun he => e (by injection he with _ he; omega)
    rw [Maps.has_put_other ne] at hS
    rw [Maps.atKey_put_other ne]
    exact h S' hS
/-- What is known of the determinants' block. -/
structure MnSt (n : Nat) (a : Option Addr) (m : Nat) (xs : List Int) (rows : List Nat) (q : Option Addr) (qc px bm c : Nat) (w : World) : Prop where
  blk : Blk5 w px 95 (.int .i64 n) (.int .i64 n) (.slice a (n * n) m) (.slice q rows.length qc) (.map (some bm))
  cells : Rd w a xs
  rws : Rd w q (rows.map fun (r : Nat) => (r : Int))
  memo : ∃ D, Mp w bm c D ∧ Memo n xs rows D
theorem MnSt.ne {n : Nat} {a : Option Addr} {m : Nat} {xs : List Int} {rows : List Nat} {q : Option Addr} {qc px bm c : Nat} {w : World} (h : MnSt n a m xs rows q qc px bm c w) : px ≠ bm := by
  obtain ⟨D, hD, -⟩ := h.memo
  exact hD.ne5 h.blk
theorem MnSt.turn {n : Nat} {a : Option Addr} {m : Nat} {xs : List Int} {rows : List Nat} {q : Option Addr} {qc px bm c c' : Nat} {w w' : World} (h : MnSt n a m xs rows q qc px bm c w) (hg : w.grownBy w' (some bm)) {D : DataW Unit} (hD : Mp w' bm c' D) (hM : Memo n xs rows D) : MnSt n a m xs rows q qc px bm c' w' := by
  obtain ⟨D0, h0, -⟩ := h.memo
  exact ⟨h.blk.one hg h.ne, h.cells.map h0 hg, h.rws.map h0 hg, D, hD, hM⟩
theorem MnSt.mono {n : Nat} {a : Option Addr} {m : Nat} {xs : List Int} {rows : List Nat} {q : Option Addr} {qc px bm c c' : Nat} {w : World} (h : MnSt n a m xs rows q qc px bm c w) (hc : c ≤ c') : MnSt n a m xs rows q qc px bm c' w := by
  obtain ⟨D, hD, hM⟩ := h.memo
  exact ⟨h.blk, h.cells, h.rws, D, hD.mono hc, hM⟩
theorem MnSt.drewN {n : Nat} {a : Option Addr} {m : Nat} {xs : List Int} {rows : List Nat} {q : Option Addr} {qc px bm c : Nat} {w : World} (h : MnSt n a m xs rows q qc px bm c w) (k : Nat) : MnSt n a m xs rows q qc px bm c (w.drewN k) := ⟨h.blk, h.cells, h.rws, h.memo⟩
end Go.Proofs.Ytncplikadacjnaa
end

section
/-
  Chapter 6, in the program: over to all rows but one.
-/
namespace Go.Proofs.Ytncplikadacjnaa
set_option maxRecDepth 100000
open Go.RowKit Go.Maps

theorem own_ne5 {w : World} {B n b k : Nat} {v : Value} {us : List Value} {p q r s u : Value} (h : w.ownsRow B 3 1 v n us) (hk : v.ownBlock = some k) (h5 : Blk5 w b 95 p q r s u) : b ≠ k := by
  rcases h.2 with ⟨rfl, -⟩ | ⟨g, cap, cur, rfl, -, hg, -⟩
  · cases hk
  · injection hk with hk
    subst hk
    rintro rfl
    unfold Blk5 at h5
    change w.heap[b]? = _ at hg
    rw [hg] at h5
    injection h5 with h5
    injection h5 with _ h5 _
    exact absurd h5 (by decide)
theorem own_neM {w : World} {B n bm c k : Nat} {D : DataW Unit} {v : Value} {us : List Value} (h : w.ownsRow B 3 1 v n us) (hk : v.ownBlock = some k) (hm : Mp w bm c D) : bm ≠ k := by
  obtain ⟨es, clock, hb, -⟩ := hm
  rcases h.2 with ⟨rfl, -⟩ | ⟨g, cap, cur, rfl, -, hg, -⟩
  · cases hk
  · injection hk with hk
    subst hk
    rintro rfl
    change w.heap[bm]? = _ at hg
    rw [hg] at hb
    cases hb
theorem FrS.of_row {w w' : World} {row : Option Nat} (h : w.grownBy w' row) : FrS (fun k => row = some k) w w' := ⟨h.os, h.tape, h.output, h.size, fun k hk hn => h.block k hk (fun e => hn e.symm)⟩
theorem Blk5.ne_map {w : World} {b bm c : Nat} {D : DataW Unit} {t : TypeId} {p q r s u : Value} (h : Blk5 w b t p q r s u) (hm : Mp w bm c D) (e : bm = b) : False := hm.ne5 h e.symm
theorem take5 {w w1 : World} {B n b : Nat} {v : Value} {us : List Value} {p q r s u : Value} {o : Obj} (h5 : Blk5 w b 95 p q r s u) (h : w.ownsRow B 3 1 v n us) (hg : (w.alloc o).grownBy w1 v.ownBlock) : Blk5 w1 b 95 p q r s u :=
  (h5.old o).grown hg (fun e => own_ne5 h e.symm h5 rfl)
/-- The rows' slice, in the walk. -/
def TkSt (n : Nat) (A : Value) (px bm c B : Nat) (D : DataW Unit) (V : Value) (e : Int) (w : World) (k : Nat) (wr : World) : Prop := ∃ V', Blk5 wr px 95 (.int .i64 n) (.int .i64 n) A V' (.map (some bm)) ∧ wr.ownsRow B 3 1 V' (rowsBut k e).length ((rowsBut k e).map fun (r : Nat) => Value.int .i64 (r : Int)) ∧ (∀ g, V'.ownBlock = some g → V.ownBlock = some g ∨ w.heap.size ≤ g) ∧ Mp wr bm c D ∧ FrS (fun k => k = px ∨ k = bm ∨ V.ownBlock = some k) w wr
set_option maxHeartbeats 1000000 in
theorem iTake (n N m : Nat) (a : Option Addr) (e : Int) (px bm c B l : Nat) (D : DataW Unit) (V : Value) (us : List Value) (w : World) (h6 : n ≤ 6) (h5 : Blk5 w px 95 (.int .i64 n) (.int .i64 n) (.slice a N m) V (.map (some bm))) (ho : w.ownsRow B 3 1 V l us) (hm : Mp w bm c D) (hB : B ≤ w.heap.size) :
    Calls Try.prog 79 #[.pointer (some ⟨px, 0, none⟩), .int .i64 e] w (fun r w' => Void r ∧ ∃ V', Blk5 w' px 95 (.int .i64 n) (.int .i64 n) (.slice a N m) V' (.map (some bm)) ∧ w'.ownsRow B 3 1 V' (rowsBut n e).length ((rowsBut n e).map fun (r : Nat) => Value.int .i64 (r : Int)) ∧ (∀ g, V'.ownBlock = some g → V.ownBlock = some g ∨ w.heap.size ≤ g) ∧ Mp w' bm 0 (.map []) ∧ FrS (fun k => k = px ∨ k = bm ∨ V.ownBlock = some k) w w') := by
  have H5 := Lib.hid h5
  have MM := Lib.hid hm
  have HB := Lib.hid hB
  have OO := Lib.hid ho
  obtain ⟨b0, b1, b2, b3, b4⟩ := h5.all
  have bf := h5.free 3
  have PN : Hid (∀ g, V.ownBlock = some g → px ≠ g) := fun g hg => own_ne5 ho hg h5
  obtain ⟨fi, hfi, hz0, hz1, hz2⟩ := facts_int
  rcases ho.2 with ⟨rfl, -⟩ | ⟨g, cap, cur, rfl, hg1, hg2, hg3, hg4, hg5, hg6⟩
  · have S0 : Hid (TkSt n (.slice a N m) px bm c B D (.slice none 0 0) e w 0 (w.setCell ⟨px, 3, none⟩ (.slice none 0 0))) :=
      ⟨_, H5.out.set3 _, World.ownsRow_nil _ _ _ _, fun g hg => .inl hg, MM.out.move (Below.heap_setCell _ _ _ _ (Ne.symm (MM.out.ne5 H5.out))), (FrS.refl _ w).set (.inl (.inl rfl)) _⟩
    clear h5 hm hB ho
    go_enter Try.func79, Try.ntmps79
    go_wp2_with fail
    clear b0 b1 b2 b3 b4 bf PN OO
    generalize w.setCell ⟨px, 3, none⟩ (.slice none 0 0) = W at S0
    go_loopw [4, 18] (fun _ i wr => ∃ k : Nat, i = .int .i64 k ∧ k ≤ n ∧ TkSt n (.slice a N m) px bm c B D (.slice none 0 0) e w k wr) (fun _ i _ => n - (intOf i).toNat)
    case atStart => exact ⟨0, rfl, by omega, S0.out⟩
    case round =>
      obtain ⟨k, rfl, hk, hst⟩ := hrel
      have ST := Lib.hid hst
      obtain ⟨V', k5, ko, kn, km, kf⟩ := hst
      obtain ⟨b0, b1, b2, b3, b4⟩ := k5.all
      by_cases hlt : k < n
      · by_cases hr : (k : Int) = e
        · have n1 : ((k : Int) != e) = false := by simp [hr]
          have n2 : ((k : Int) == e) = true := by simp [hr]
          have RE : Hid (rowsBut (k + 1) e = rowsBut k e) := rowsBut_out hr
          clear k5 ko kn km kf hr
          go_wp2_with fail
          go_roundw
          case rel => exact ⟨k + 1, by go_num, by omega, by have := ST.out; unfold TkSt at this ⊢; rw [RE.out]; exact this⟩
          case measure => simp [intOf]; omega
        · have n1 : ((k : Int) != e) = true := by simp [hr]
          have n2 : ((k : Int) == e) = false := by simp [hr]
          have RE : Hid (rowsBut (k + 1) e = rowsBut k e ++ [k]) := rowsBut_in hr
          have LB : (rowsBut k e).length ≤ 6 := Nat.le_trans (rowsBut_le k e) (by omega)
          have hBw : B ≤ wr.heap.size := Nat.le_trans HB.out kf.size
          have K5 := Lib.hid k5
          have KO := Lib.hid ko
          have KN := Lib.hid kn
          have KM := Lib.hid km
          have KF := Lib.hid kf
          have bf := k5.free 3
          clear k5 ko kn km kf hr ST
          have KOA : Hid ((wr.alloc (.cells #[.int .i64 (k : Int)] 3)).ownsRow B 3 1 V' (rowsBut k e).length ((rowsBut k e).map fun (r : Nat) => Value.int .i64 (r : Int))) := KO.out.alloc _
          have G1 : Hid (wr.grownBy (wr.alloc (.cells #[.int .i64 (k : Int)] 3)) V'.ownBlock) := World.grownBy_alloc _ _ _
          obtain ⟨L, hL⟩ : ∃ L, (rowsBut k e).length = L := ⟨_, rfl⟩
          have HL := Lib.hid hL
          rw [hL] at KOA LB
          clear hL
          go_wp2_with (first
            | (at_builtin; refine wpList_append_own_at _ rfl _ _ 24 rfl B 3 fi (.int .i64 0) 1 8 underlying_ints hfi hz0 hz1 hz2 rfl (by decide) _ _ _ rfl KOA.out ⟨wr.heap.size, 0, none⟩ 1 1 [.int .i64 (k : Int)] rfl rfl (cell_one_new _ _ _) (ints_oneCell .i64 [(k : Int)]) (by unfold maxLen; omega) (by omega) (by simp; omega) ?_; intro v' w1 hown' hgrow hnil hloc; obtain ⟨va, vm, vc, rfl⟩ := rows_form hown'; have K51 := take5 K5.out KO.out hgrow; have bf1 := K51.free 3; obtain ⟨-, -, -, q3, -⟩ := K51.all; replace K51 := Lib.hid K51)
            | fail)
          have PK : V'.ownBlock ≠ some px := fun e => own_ne5 KO.out e K5.out rfl
          have PM : V'.ownBlock ≠ some bm := fun e => own_neM KO.out e KM.out rfl
          have NV : ∀ g, (Value.slice va vm vc).ownBlock = some g → (Value.slice none 0 0).ownBlock = some g ∨ w.heap.size ≤ g := fun g hg => by
            rcases hloc with hl | hl
            · exact KN.out g (hl ▸ hg)
            · rw [hl] at hg
              injection hg with hg
              have := KF.out.size
              exact .inr (by rw [← hg]; simp; omega)
          have F1 : FrS (fun k => k = px ∨ V'.ownBlock = some k) wr (w1.setCell ⟨px, 3, none⟩ (.slice va vm vc)) := ((((FrS.refl _ wr).alloc _).trans ((FrS.of_row hgrow).mono (fun k hk => .inr hk)))).set (.inl (.inl rfl)) _
          go_roundw
          case rel =>
            refine ⟨k + 1, by go_num, by omega, _, K51.out.set3 _, ?_, NV, KM.out.move (F1.block bm KM.out.lt ?_), KF.out.transR F1 ?_⟩
            · have : w1.ownsRow B 3 1 (.slice va vm vc) (rowsBut (k + 1) e).length ((rowsBut (k + 1) e).map fun (r : Nat) => Value.int .i64 (r : Int)) := by
                rw [RE.out, List.length_append, List.map_append, HL.out]
                exact hown'
              refine this.kept (row := some px) (grown_set_one (World.grownBy.refl _ _) rfl _) (.inr fun hv => ?_)
              exact own_ne5 this hv K51.out rfl
            · rintro (e1 | e1)
              · exact K5.out.ne_map KM.out e1
              · exact PM e1
            · rintro k0 hk0 (rfl | e1)
              · exact .inl rfl
              · rcases KN.out k0 e1 with h | h
                · exact .inr (.inr h)
                · omega
          case measure => simp [intOf]; omega
      · obtain rfl : k = n := by omega
        have K5 := Lib.hid k5
        have KO := Lib.hid ko
        have KN := Lib.hid kn
        have KM := Lib.hid km
        have KF := Lib.hid kf
        clear k5 ko kn km kf hlt
        obtain ⟨w1, hcl, hm1, hg1⟩ := KM.out.clear 0
        go_wp2_with fail
        go_end0
        refine ⟨rfl, V', K5.out.one hg1 (KM.out.ne5 K5.out), KO.out.kept hg1 ?_, KN.out, hm1, KF.out.transR (FrS.of_row hg1) (fun k _ hk => .inr (.inl (by injection hk with hk; exact hk.symm)))⟩
        cases hv : V'.ownBlock with
        | none => exact .inl rfl
        | some g0 => exact .inr (fun e => own_neM KO.out hv KM.out (by injection e with e; exact e.symm))
  · have S0 : Hid (TkSt n (.slice a N m) px bm c B D (.slice (some ⟨g, 0, none⟩) l cap) e w 0 (w.setCell ⟨px, 3, none⟩ (.slice (some ⟨g, 0, none⟩) 0 cap))) :=
      ⟨_, H5.out.set3 _, ⟨rfl, .inr ⟨g, cap, cur, rfl, hg1, (Below.heap_setCell w ⟨px, 3, none⟩ _ g (Ne.symm (PN.out g rfl))).trans hg2, Nat.zero_le _, hg4, hg5, by simp [rowsBut]⟩⟩, fun g hg => .inl hg, MM.out.move (Below.heap_setCell _ _ _ _ (Ne.symm (MM.out.ne5 H5.out))), (FrS.refl _ w).set (.inl (.inl rfl)) _⟩
    clear h5 hm hB ho hg2 hg3 hg4 hg5 hg6
    go_enter Try.func79, Try.ntmps79
    go_wp2_with fail
    clear b0 b1 b2 b3 b4 bf PN OO
    generalize w.setCell ⟨px, 3, none⟩ (.slice (some ⟨g, 0, none⟩) 0 cap) = W at S0
    go_loopw [4, 18] (fun _ i wr => ∃ k : Nat, i = .int .i64 k ∧ k ≤ n ∧ TkSt n (.slice a N m) px bm c B D (.slice (some ⟨g, 0, none⟩) l cap) e w k wr) (fun _ i _ => n - (intOf i).toNat)
    case atStart => exact ⟨0, rfl, by omega, S0.out⟩
    case round =>
      obtain ⟨k, rfl, hk, hst⟩ := hrel
      have ST := Lib.hid hst
      obtain ⟨V', k5, ko, kn, km, kf⟩ := hst
      obtain ⟨b0, b1, b2, b3, b4⟩ := k5.all
      by_cases hlt : k < n
      · by_cases hr : (k : Int) = e
        · have n1 : ((k : Int) != e) = false := by simp [hr]
          have n2 : ((k : Int) == e) = true := by simp [hr]
          have RE : Hid (rowsBut (k + 1) e = rowsBut k e) := rowsBut_out hr
          clear k5 ko kn km kf hr
          go_wp2_with fail
          go_roundw
          case rel => exact ⟨k + 1, by go_num, by omega, by have := ST.out; unfold TkSt at this ⊢; rw [RE.out]; exact this⟩
          case measure => simp [intOf]; omega
        · have n1 : ((k : Int) != e) = true := by simp [hr]
          have n2 : ((k : Int) == e) = false := by simp [hr]
          have RE : Hid (rowsBut (k + 1) e = rowsBut k e ++ [k]) := rowsBut_in hr
          have LB : (rowsBut k e).length ≤ 6 := Nat.le_trans (rowsBut_le k e) (by omega)
          have hBw : B ≤ wr.heap.size := Nat.le_trans HB.out kf.size
          have K5 := Lib.hid k5
          have KO := Lib.hid ko
          have KN := Lib.hid kn
          have KM := Lib.hid km
          have KF := Lib.hid kf
          have bf := k5.free 3
          clear k5 ko kn km kf hr ST
          have KOA : Hid ((wr.alloc (.cells #[.int .i64 (k : Int)] 3)).ownsRow B 3 1 V' (rowsBut k e).length ((rowsBut k e).map fun (r : Nat) => Value.int .i64 (r : Int))) := KO.out.alloc _
          have G1 : Hid (wr.grownBy (wr.alloc (.cells #[.int .i64 (k : Int)] 3)) V'.ownBlock) := World.grownBy_alloc _ _ _
          obtain ⟨L, hL⟩ : ∃ L, (rowsBut k e).length = L := ⟨_, rfl⟩
          have HL := Lib.hid hL
          rw [hL] at KOA LB
          clear hL
          go_wp2_with (first
            | (at_builtin; refine wpList_append_own_at _ rfl _ _ 24 rfl B 3 fi (.int .i64 0) 1 8 underlying_ints hfi hz0 hz1 hz2 rfl (by decide) _ _ _ rfl KOA.out ⟨wr.heap.size, 0, none⟩ 1 1 [.int .i64 (k : Int)] rfl rfl (cell_one_new _ _ _) (ints_oneCell .i64 [(k : Int)]) (by unfold maxLen; omega) (by omega) (by simp; omega) ?_; intro v' w1 hown' hgrow hnil hloc; obtain ⟨va, vm, vc, rfl⟩ := rows_form hown'; have K51 := take5 K5.out KO.out hgrow; have bf1 := K51.free 3; obtain ⟨-, -, -, q3, -⟩ := K51.all; replace K51 := Lib.hid K51)
            | fail)
          have PK : V'.ownBlock ≠ some px := fun e => own_ne5 KO.out e K5.out rfl
          have PM : V'.ownBlock ≠ some bm := fun e => own_neM KO.out e KM.out rfl
          have NV : ∀ g', (Value.slice va vm vc).ownBlock = some g' → (Value.slice (some ⟨g, 0, none⟩) l cap).ownBlock = some g' ∨ w.heap.size ≤ g' := fun g' hg => by
            rcases hloc with hl | hl
            · exact KN.out g' (hl ▸ hg)
            · rw [hl] at hg
              injection hg with hg
              have := KF.out.size
              exact .inr (by rw [← hg]; simp; omega)
          have F1 : FrS (fun k => k = px ∨ V'.ownBlock = some k) wr (w1.setCell ⟨px, 3, none⟩ (.slice va vm vc)) := ((((FrS.refl _ wr).alloc _).trans ((FrS.of_row hgrow).mono (fun k hk => .inr hk)))).set (.inl (.inl rfl)) _
          go_roundw
          case rel =>
            refine ⟨k + 1, by go_num, by omega, _, K51.out.set3 _, ?_, NV, KM.out.move (F1.block bm KM.out.lt ?_), KF.out.transR F1 ?_⟩
            · have : w1.ownsRow B 3 1 (.slice va vm vc) (rowsBut (k + 1) e).length ((rowsBut (k + 1) e).map fun (r : Nat) => Value.int .i64 (r : Int)) := by
                rw [RE.out, List.length_append, List.map_append, HL.out]
                exact hown'
              refine this.kept (row := some px) (grown_set_one (World.grownBy.refl _ _) rfl _) (.inr fun hv => ?_)
              exact own_ne5 this hv K51.out rfl
            · rintro (e1 | e1)
              · exact K5.out.ne_map KM.out e1
              · exact PM e1
            · rintro k0 hk0 (rfl | e1)
              · exact .inl rfl
              · rcases KN.out k0 e1 with h | h
                · exact .inr (.inr h)
                · omega
          case measure => simp [intOf]; omega
      · obtain rfl : k = n := by omega
        have K5 := Lib.hid k5
        have KO := Lib.hid ko
        have KN := Lib.hid kn
        have KM := Lib.hid km
        have KF := Lib.hid kf
        clear k5 ko kn km kf hlt
        obtain ⟨w1, hcl, hm1, hg1⟩ := KM.out.clear 0
        go_wp2_with fail
        go_end0
        refine ⟨rfl, V', K5.out.one hg1 (KM.out.ne5 K5.out), KO.out.kept hg1 ?_, KN.out, hm1, KF.out.transR (FrS.of_row hg1) (fun k _ hk => .inr (.inl (by injection hk with hk; exact hk.symm)))⟩
        cases hv : V'.ownBlock with
        | none => exact .inl rfl
        | some g0 => exact .inr (fun e => own_neM KO.out hv KM.out (by injection e with e; exact e.symm))
end Go.Proofs.Ytncplikadacjnaa
end

section
/-
  Chapter 6, in the program: the determinants' block is made.
-/
namespace Go.Proofs.Ytncplikadacjnaa
set_option maxRecDepth 100000
open Go.RowKit Go.Maps

/-- A new block of determinants: all rows, nothing known. -/
def MnNewR (n N m : Nat) (a : Option Addr) (w : World) (e : Ending) (w' : World) : Prop := ∃ px bm V, e = .returned (.pointer (some ⟨px, 0, none⟩)) ∧ w.heap.size ≤ px ∧ w.heap.size ≤ bm ∧ Blk5 w' px 95 (.int .i64 n) (.int .i64 n) (.slice a N m) V (.map (some bm)) ∧ w'.ownsRow w.heap.size 3 1 V (rowsBut n (-1)).length ((rowsBut n (-1)).map fun (r : Nat) => Value.int .i64 (r : Int)) ∧ Mp w' bm 0 (.map []) ∧ Below w.heap.size w w'
set_option maxHeartbeats 1000000 in
theorem iMinorsOf (n N m : Nat) (a : Option Addr) (w : World) (h6 : n ≤ 6) : Calls Try.prog 47 #[.agg #[.int .i64 n, .int .i64 n, .slice a N m]] w (MnNewR n N m a w) := by
  have hmm := @run_makeMap Try.prog
  go_enter Try.func47, Try.ntmps47
  go_wp2_with fail
  obtain ⟨W, hW⟩ : ∃ W, ((w.alloc (.cells #[.int .i64 n, .int .i64 n, .slice a N m] 26)).alloc (.map #[] 0)).alloc (.cells #[.int .i64 n, .int .i64 n, .slice a N m, .slice none 0 0, .map (some (w.heap.size + 1))] 95) = W := ⟨_, rfl⟩
  have B5 : Hid (Blk5 W (w.heap.size + 1 + 1) 95 (.int .i64 n) (.int .i64 n) (.slice a N m) (.slice none 0 0) (.map (some (w.heap.size + 1)))) := by
    show Blk5 W _ _ _ _ _ _ _
    rw [← hW]
    exact Blk5.at_ _ _ _ _ _ _ (by simp)
  have MM : Hid (Mp W (w.heap.size + 1) 0 (.map [])) := by
    show Mp W (w.heap.size + 1) 0 (.map [])
    have := Mp.made (w.alloc (.cells #[.int .i64 n, .int .i64 n, .slice a N m] 26))
    have h2 := this.kept (World.grownBy_alloc _ (.cells #[.int .i64 n, .int .i64 n, .slice a N m, .slice none 0 0, .map (some (w.heap.size + 1))] 95) none) (by simp)
    rw [hW] at h2
    simpa using h2
  have BW : Hid (Below w.heap.size w W) := by
    show Below w.heap.size w W
    rw [← hW]
    exact (((Below.refl _ _).alloc (Nat.le_refl _) _).alloc (by simp) _).alloc (by simp <;> omega) _
  rw [hW]
  clear hW
  refine (iTake n N m a (-1) (w.heap.size + 1 + 1) (w.heap.size + 1) 0 w.heap.size 0 (.map []) (.slice none 0 0) [] W h6 B5.out (World.ownsRow_nil _ _ _ _) MM.out BW.out.size).mono ?_
  rintro e w' ⟨rfl, V, h5, ho, hn, hm, hf⟩
  have H : Hid (Below w.heap.size w w') := BW.out.trans (hf.below (fun k hk => by rcases hk with h | h | h; omega; omega; cases h) BW.out.size)
  have R : MnNewR n N m a w (.returned (.pointer (some ⟨w.heap.size + 1 + 1, 0, none⟩))) w' := ⟨_, _, V, rfl, by omega, by omega, h5, ho, hm, H.out⟩
  clear h5 ho hn hm hf
  have RR := Lib.hid R
  clear R
  go_wp2_with fail
  go_ret
  exact RR.out
end Go.Proofs.Ytncplikadacjnaa
end

section
/-
  Plain mathematics of chapter 6: the expansion of a set of columns, column by column. Nothing of a program is used.
-/
namespace Go.Proofs.Ytncplikadacjnaa

/-- The sum of the first p columns of a set, unless a minor that is met has the mark. -/
def accD (n : Nat) (xs : List Int) (rows : List Nat) (S p : Nat) : Option Int := detAcc (fun j => (rowsD xs n rows (colsL n S)).getD j 0) (mnB ((colsL n S).length - 1) (rowsD xs n rows (colsL n S))) p
theorem accD_zero (n : Nat) (xs : List Int) (rows : List Nat) (S : Nat) : accD n xs rows S 0 = some 0 := rfl
def detR (d : Int) : Int × Bool := if d = badN then (0, false) else (d, true)
def exR : Option Int → Int × Bool
  | none => (0, false)
  | some s => (s, true)
theorem detR_bad {d : Int} (h : d = badN) : detR d = (0, false) := if_pos h
theorem detR_num {d : Int} (h : d ≠ badN) : detR d = (d, true) := if_neg h
theorem NumP.ne_bad {d : Int} (h : NumP d) : d ≠ badN := by
  unfold NumP at h
  unfold badN
  omega
/-- What the determinant of a set of columns is. -/
theorem setD_acc {n S k : Nat} {xs : List Int} {rows : List Nat} (hk : (colsL n S).length = k + 1) : setD n xs rows S = match accD n xs rows S (k + 1) with
    | none => badN
    | some s => fitB s := by
  unfold setD accD
  rw [hk]
  rfl
theorem setD_none {n S k : Nat} {xs : List Int} {rows : List Nat} (hk : (colsL n S).length = k + 1) (h : accD n xs rows S (k + 1) = none) : setD n xs rows S = badN := by rw [setD_acc hk, h]
theorem setD_bad {n S k : Nat} {xs : List Int} {rows : List Nat} {s : Int} (hk : (colsL n S).length = k + 1) (h : accD n xs rows S (k + 1) = some s) (hs : ¬ NumP s) : setD n xs rows S = badN := by
  rw [setD_acc hk, h]
  exact if_neg hs
theorem setD_num {n S k : Nat} {xs : List Int} {rows : List Nat} {s : Int} (hk : (colsL n S).length = k + 1) (h : accD n xs rows S (k + 1) = some s) (hs : NumP s) : setD n xs rows S = s := by
  rw [setD_acc hk, h]
  exact if_pos hs
/-- The cell of a column in the first row that is left. -/
theorem acc_cell {n S c k : Nat} {xs : List Int} {rows : List Nat} (hc : c < n) (hb : S.testBit c = true) (hk : (colsL n S).length = k + 1) :
    (rowsD xs n rows (colsL n S)).getD (colsL c S).length 0 = xs.getD (rows.getD (rows.length - (k + 1)) 0 * n + c) 0 := by
  obtain ⟨h1, h2⟩ := colsL_at hc hb
  rw [setD_first hk _ (by omega), h2]
section
variable {n S c k : Nat} {xs : List Int} {rows : List Nat} {s : Int}
theorem acc_skip (hc : c < n) (hb : S.testBit c = true) (hk : (colsL n S).length = k + 1) (h : accD n xs rows S (colsL c S).length = some s) (h0 : xs.getD (rows.getD (rows.length - (k + 1)) 0 * n + c) 0 = 0) :
    accD n xs rows S (colsL (c + 1) S).length = some s := by
  rw [colsL_in hb]
  exact detAcc_skip h (by show (rowsD xs n rows (colsL n S)).getD _ 0 = 0; rw [acc_cell hc hb hk]; exact h0)
theorem acc_bad (h6 : n ≤ 6) (hS : S < 64) (hr : k + 1 ≤ rows.length) (hc : c < n) (hb : S.testBit c = true) (hk : (colsL n S).length = k + 1) (h : accD n xs rows S (colsL c S).length = some s) (h0 : xs.getD (rows.getD (rows.length - (k + 1)) 0 * n + c) 0 ≠ 0) (h1 : setD n xs rows (lessS S c) = badN) :
    accD n xs rows S (k + 1) = none := by
  refine detAcc_none (detAcc_bad h (by rw [acc_cell hc hb hk]; exact h0) ?_) (by have := (colsL_at hc hb).1; omega)
  rw [hk, Nat.add_sub_cancel, mnB_less h6 hS hc hb hk hr]
  exact h1
theorem acc_add (h6 : n ≤ 6) (hS : S < 64) (hr : k + 1 ≤ rows.length) (hc : c < n) (hb : S.testBit c = true) (hk : (colsL n S).length = k + 1) (h : accD n xs rows S (colsL c S).length = some s) (h0 : xs.getD (rows.getD (rows.length - (k + 1)) 0 * n + c) 0 ≠ 0) (h1 : setD n xs rows (lessS S c) ≠ badN) :
    accD n xs rows S (colsL (c + 1) S).length = some (s + sg (colsL c S).length * xs.getD (rows.getD (rows.length - (k + 1)) 0 * n + c) 0 * setD n xs rows (lessS S c)) := by
  have e : mnB ((colsL n S).length - 1) (rowsD xs n rows (colsL n S)) (colsL c S).length = setD n xs rows (lessS S c) := by rw [hk, Nat.add_sub_cancel, mnB_less h6 hS hc hb hk hr]
  have := detAcc_add h (by show (rowsD xs n rows (colsL n S)).getD _ 0 ≠ 0; rw [acc_cell hc hb hk]; exact h0) (by rw [e]; exact h1)
  rw [acc_cell hc hb hk, e] at this
  rw [colsL_in hb]
  exact this
end
theorem rowsD_nums {n k : Nat} {xs : List Int} {rows cs : List Nat} (nx : nums xs = true) (hc : cs.length = k + 1) (j : Nat) (hj : j < k + 1) : NumP ((rowsD xs n rows cs).getD j 0) := by
  rw [setD_first hc j hj]
  obtain ⟨p, hp⟩ : ∃ p, rows.getD (rows.length - (k + 1)) 0 * n + cs.getD j 0 = p := ⟨_, rfl⟩
  rw [hp]
  rcases Nat.lt_or_ge p xs.length with h1 | h1
  · exact nums_at nx h1
  · rw [List.getD, List.getElem?_eq_none h1]; exact ⟨by decide, by decide⟩
theorem acc_bd {n S k p : Nat} {xs : List Int} {rows : List Nat} {s : Int} (nx : nums xs = true) (hk : (colsL n S).length = k + 1) (hp : p ≤ k + 1) (h : accD n xs rows S p = some s) : -((p : Int) * 160000000000000000) ≤ s ∧ s ≤ (p : Int) * 160000000000000000 :=
  detAcc_bd (fun j hj => rowsD_nums nx hk j (by omega)) (fun j _ => detB_or _ _) h
theorem cols_card : ∀ n, n ≤ 6 → ∀ S, S < 2 ^ n → (colsL 6 S).length = (colsL n S).length := by decide +kernel
theorem pow_64 : ∀ n, n ≤ 6 → 2 ^ n ≤ 64 := by decide
end Go.Proofs.Ytncplikadacjnaa
end

section
/-
  Chapter 6, in the program: sets of columns as bits.
-/
namespace Go.Proofs.Ytncplikadacjnaa
set_option maxRecDepth 100000
open Go.RowKit

theorem iOnes64 (S : Nat) (h : S < 64) (w : World) : Calls Try.prog 112 #[.int .u64 S] w fun e w' => e = .returned (.int .i64 ((colsL 6 S).length : Int)) ∧ w' = w := by
  go_enter Try.func112, Try.ntmps112
  go_wp2
  go_ret
  refine ⟨congrArg Ending.returned (congrArg (Value.int .i64) ?_), rfl⟩
  revert S
  decide +kernel
theorem iOnes (S : Nat) (h : S < 64) (w : World) : Calls Try.prog 101 #[.int .u64 S] w fun e w' => e = .returned (.int .i64 ((colsL 6 S).length : Int)) ∧ w' = w := by
  go_enter Try.func101, Try.ntmps101
  go_wp2_with fail
  refine (iOnes64 S h _).mono ?_
  rintro e w' ⟨rfl, rfl⟩
  go_wp2_with fail
  go_ret
  exact ⟨rfl, rfl⟩
theorem iHas (S c : Nat) (h : S < 64) (hc : c < 6) (w : World) : Calls Try.prog 102 #[.int .u64 S, .int .i64 c] w fun e w' => e = .returned (.bool (S.testBit c)) ∧ w' = w := by
  have c0 : (0 : Int) ≤ (c : Int) := by omega
  have c1 : (c : Int) ≤ 64 := by omega
  go_enter Try.func102, Try.ntmps102
  go_wp2
  go_ret
  refine ⟨congrArg Ending.returned (congrArg Value.bool ?_), rfl⟩
  clear c0 c1
  revert c
  revert S
  decide +kernel
theorem iWithout (S c : Nat) (h : S < 64) (hc : c < 6) (w : World) : Calls Try.prog 103 #[.int .u64 S, .int .i64 c] w fun e w' => e = .returned (.int .u64 (lessS S c)) ∧ w' = w := by
  have c0 : (0 : Int) ≤ (c : Int) := by omega
  have c1 : (c : Int) ≤ 64 := by omega
  go_enter Try.func103, Try.ntmps103
  go_wp2
  go_ret
  refine ⟨congrArg Ending.returned (congrArg (Value.int .u64) ?_), rfl⟩
  clear c0 c1
  revert c
  revert S
  decide +kernel
theorem iFirst (n : Nat) (h : n ≤ 6) (w : World) : Calls Try.prog 49 #[.int .i64 n] w fun e w' => e = .returned (.int .u64 ((2 ^ n - 1 : Nat) : Int)) ∧ w' = w := by
  have c0 : (0 : Int) ≤ (n : Int) := by omega
  have c1 : (n : Int) ≤ 64 := by omega
  go_enter Try.func49, Try.ntmps49
  go_wp2
  go_ret
  refine ⟨congrArg Ending.returned (congrArg (Value.int .u64) ?_), rfl⟩
  clear c0 c1
  revert n
  decide +kernel
end Go.Proofs.Ytncplikadacjnaa
end

section
/-
  Chapter 6, in the program: determinants of a set of columns, expanded with a memory.
-/
namespace Go.Proofs.Ytncplikadacjnaa
set_option maxRecDepth 100000
open Go.RowKit Go.Maps

/-- What is returned for a set of k columns. -/
def MinorAt (n : Nat) (a : Option Addr) (m : Nat) (xs : List Int) (rows : List Nat) (q : Option Addr) (qc px bm k : Nat) : Prop := ∀ (S c : Nat) (w : World), S < 2 ^ n → (colsL n S).length = k → MnSt n a m xs rows q qc px bm c w → c + 7 ^ k ≤ 1000000 →
  Calls Try.prog 48 #[.pointer (some ⟨px, 0, none⟩), .int .u64 S] w (fun e w' => e = .returned (.tuple #[.int .i64 (detR (setD n xs rows S)).1, .bool (detR (setD n xs rows S)).2]) ∧ MnSt n a m xs rows q qc px bm (c + 7 ^ k) w' ∧ w.grownBy w' (some bm))
set_option maxHeartbeats 2000000 in
theorem iExpand (n : Nat) (a : Option Addr) (m : Nat) (xs : List Int) (rows : List Nat) (q : Option Addr) (qc px bm k : Nat) (h6 : n ≤ 6) (hx : xs.length = n * n) (nx : nums xs = true) (hrn : ∀ i, i < rows.length → rows.getD i 0 < n) (hk : k + 1 ≤ rows.length) (hrl : rows.length ≤ 6) (ih : MinorAt n a m xs rows q qc px bm k)
    (S c : Nat) (w : World) (hS : S < 2 ^ n) (hc : (colsL n S).length = k + 1) (st : MnSt n a m xs rows q qc px bm c w) (hcb : c + 6 * 7 ^ k ≤ 1000000) :
    Calls Try.prog 80 #[.pointer (some ⟨px, 0, none⟩), .int .u64 S] w (fun e w' => e = .returned (.tuple #[.int .i64 (exR (accD n xs rows S (k + 1))).1, .bool (exR (accD n xs rows S (k + 1))).2]) ∧ MnSt n a m xs rows q qc px bm (c + 6 * 7 ^ k) w' ∧ w.grownBy w' (some bm)) := by
  have h64 : S < 64 := Nat.lt_of_lt_of_le hS (pow_64 n h6)
  have IH := Lib.hid ih
  have ON : Hid (∀ w', Calls Try.prog 101 #[.int .u64 S] w' fun e w2 => e = .returned (.int .i64 ((k + 1 : Nat) : Int)) ∧ w2 = w') := fun w' => by
    have := iOnes S h64 w'
    rw [cols_card n h6 S hS, hc] at this
    exact this
  have HA : Hid (∀ j (w' : World), j < n → Calls Try.prog 102 #[.int .u64 S, .int .i64 j] w' fun e w2 => e = .returned (.bool (S.testBit j)) ∧ w2 = w') := fun j w' hj => iHas S j h64 (by omega) w'
  have WI : Hid (∀ j (w' : World), j < n → Calls Try.prog 103 #[.int .u64 S, .int .i64 j] w' fun e w2 => e = .returned (.int .u64 (lessS S j)) ∧ w2 = w') := fun j w' hj => iWithout S j h64 (by omega) w'
  obtain ⟨I, hI⟩ : ∃ I, rows.length = I + (k + 1) := ⟨rows.length - (k + 1), by omega⟩
  have hI2 : rows.length - (k + 1) = I := by omega
  obtain ⟨r, hr⟩ : ∃ r, rows.getD I 0 = r := ⟨_, rfl⟩
  have rn : r < n := by rw [← hr]; exact hrn I (by omega)
  have LS : Hid (∀ j, j < n → S.testBit j = true → lessS S j < 2 ^ n ∧ (colsL n (lessS S j)).length = k ∧ (colsL j S).length ≤ 6 ∧ (colsL (j + 1) S).length = (colsL j S).length + 1 ∧ (colsL j S).length < k + 1) := fun j hj hb => ⟨lessS_lt n h6 S hS j hj, less_card h6 h64 hj hb hc, Nat.le_trans (Nat.le_of_lt (colsL_at hj hb).1) (by have := colsL_le (S := S) (Nat.le_refl n); have := List.length_filter_le (fun c => S.testBit c) (List.range n); simp only [List.length_range] at this; unfold colsL; omega), colsL_in hb, by have := (colsL_at hj hb).1; omega⟩
  have CE : Hid (∀ j, j < n → S.testBit j = true → ∀ s, accD n xs rows S (colsL j S).length = some s → (xs.getD (r * n + j) 0 = 0 → accD n xs rows S (colsL (j + 1) S).length = some s) ∧ (xs.getD (r * n + j) 0 ≠ 0 → setD n xs rows (lessS S j) = badN → accD n xs rows S (k + 1) = none) ∧ (xs.getD (r * n + j) 0 ≠ 0 → setD n xs rows (lessS S j) ≠ badN → accD n xs rows S (colsL (j + 1) S).length = some (s + sg (colsL j S).length * xs.getD (r * n + j) 0 * setD n xs rows (lessS S j)))) := fun j hj hb s h => by
    have e : rows.getD (rows.length - (k + 1)) 0 = r := by rw [hI2, hr]
    rw [← e]
    exact ⟨fun h0 => acc_skip hj hb hc h h0, fun h0 h1 => acc_bad h6 h64 hk hj hb hc h h0 h1, fun h0 h1 => acc_add h6 h64 hk hj hb hc h h0 h1⟩
  have BD : Hid (∀ j s, j < n → S.testBit j = true → accD n xs rows S (colsL (j + 1) S).length = some s → -2000000000000000000 ≤ s ∧ s ≤ 2000000000000000000) := fun j s hj hb h => by
    have h1 := LS.out j hj hb
    have := acc_bd nx hc (by omega) h
    omega
  have OUT : Hid (∀ j, S.testBit j = false → colsL (j + 1) S = colsL j S) := fun j h => colsL_out h
  have SO : Hid (∀ j, setD n xs rows (lessS S j) = badN ∨ NumP (setD n xs rows (lessS S j))) := fun j => setD_or _ _ _ _
  have ZN : Hid (∀ j, j < n → NumP (xs.getD (r * n + j) 0) ∧ r * n + j < xs.length) := fun j hj => by
    have := idx_lt rn hj
    exact ⟨nums_at nx (by omega), by omega⟩
  have FIN : Hid ((colsL n S).length = k + 1) := hc
  have ST := Lib.hid st
  have rc : w.cell? ⟨px, 3, none⟩ = some (.slice q rows.length qc) := st.blk.all.2.2.2.1
  obtain ⟨gq, oq, hq⟩ := st.rws.addr (by simp; omega)
  have ri : w.cell? ⟨gq, oq + I, none⟩ = some (.int .i64 (r : Int)) := by
    have := st.rws
    rw [hq] at this
    have := this.cells I (by simp; omega)
    rw [this]
    simp [← hr, List.getD, show I < rows.length by omega]
  obtain ⟨G, hG⟩ : ∃ G, 7 ^ k = G := ⟨_, rfl⟩
  have v1 : IntKind.i64.wrap ((rows.length : Int) - ((k + 1 : Nat) : Int)) = (I : Int) := by
    rw [show (rows.length : Int) - ((k + 1 : Nat) : Int) = (I : Int) by omega]
    exact IntWalk.i64_in _ (by omega)
  have i0 : (0 : Int) ≤ (I : Int) := by omega
  have i1 : (I : Int) < (rows.length : Int) := by omega
  obtain ⟨b0, b1, b2, b3, b4⟩ := st.blk.all
  subst hq
  rw [hG] at hcb ⊢
  obtain ⟨L, hL⟩ : ∃ L, rows.length = L := ⟨_, rfl⟩
  rw [hL] at b3 rc v1 i1 hrl
  have HG := Lib.hid hG
  have K6 : k + 1 ≤ 6 := by omega
  have HI := Lib.hid hI
  have NX := Lib.hid nx
  have HX := Lib.hid hx
  obtain ⟨K, hK⟩ : ∃ K, k + 1 = K := ⟨_, rfl⟩
  rw [hK] at ON v1 LS CE FIN K6 ⊢
  clear hG hI hI2 nx hx hr st hrn ih hc hL rc
  go_enter Try.func80, Try.ntmps80
  go_upto_region 1 with fail
  go_quiet ((refine (ON.out _).mono ?_; rintro e w' ⟨rfl, rfl⟩; exact ⟨rfl, _, rfl⟩))
  go_wp2_with fail
  clear b0 b1 b2 b3 b4 ri v1 i0 i1
  have W0 := Lib.hid (ST.out.drewN nq)
  have G0 : Hid (w.grownBy (w.drewN nq) (some bm)) := grown_drewN_one (World.grownBy.refl _ _) nq
  have NE := Lib.hid ST.out.ne
  generalize w.drewN nq = W at W0 G0
  go_loopw [4, 5, 7, 8, 9, 10, 11, 12, 32] (fun _ _ v7 v8 _ _ _ _ v32 wr => ∃ (j : Nat) (s : Int) (c' : Nat), v32 = .int .i64 j ∧ j ≤ n ∧ v7 = .int .i64 s ∧ v8 = .int .i64 (sg (colsL j S).length) ∧ accD n xs rows S (colsL j S).length = some s ∧ MnSt n a m xs rows (some ⟨gq, oq, none⟩) qc px bm c' wr ∧ w.grownBy wr (some bm) ∧ c' ≤ c + (colsL j S).length * G) (fun _ _ _ _ _ _ _ _ v32 _ => n - (intOf v32).toNat)
  case atStart => exact ⟨0, 0, c, rfl, by omega, rfl, rfl, rfl, W0.out, G0.out, by omega⟩
  case round =>
    obtain ⟨j, s, c', rfl, hj, rfl, rfl, hs, hst, hg, hc'⟩ := hrel
    have E := Lib.hid hs
    have M := Lib.hid hst
    have GR := Lib.hid hg
    obtain ⟨b0, b1, b2, b3, b4⟩ := hst.blk.all
    clear hs hst hg
    by_cases hlt : j < n
    · rcases Bool.eq_false_or_eq_true (S.testBit j) with hb | hb
      · have HAj : Hid (∀ w', Calls Try.prog 102 #[.int .u64 S, .int .i64 j] w' fun e w2 => e = .returned (.bool true) ∧ w2 = w') := fun w' => by
          have := HA.out j w' hlt
          rw [hb] at this
          exact this
        obtain ⟨l1, l2, l3, l4, l5⟩ := LS.out j hlt hb
        obtain ⟨e1, e2, e3⟩ := CE.out j hlt hb s E.out
        have BDj : Hid (∀ s, accD n xs rows S (colsL (j + 1) S).length = some s → -2000000000000000000 ≤ s ∧ s ≤ 2000000000000000000) := fun s => BD.out j s hlt hb
        have E1 := Lib.hid e1
        have E2 := Lib.hid e2
        have E3 := Lib.hid e3
        have L1 := Lib.hid l1
        have L2 := Lib.hid l2
        have L4 := Lib.hid l4
        have so := SO.out j
        have SOJ := Lib.hid so
        obtain ⟨zn, zl⟩ := ZN.out j hlt
        have dz : r * n + j < n * n := by rw [← HX.out]; exact zl
        have M36 : n * n ≤ 6 * 6 := Nat.mul_le_mul h6 h6
        obtain ⟨ga, oa, ha⟩ := M.out.cells.addr (by rw [HX.out]; omega)
        have zc : wr.cell? ⟨ga, oa + (r * n + j), none⟩ = some (.int .i64 (xs.getD (r * n + j) 0)) := by
          have := M.out.cells
          rw [ha] at this
          exact this.cells _ zl
        subst ha
        obtain ⟨z, hz⟩ : ∃ z, xs.getD (r * n + j) 0 = z := ⟨_, rfl⟩
        rw [hz] at zc zn E1 E2 E3
        obtain ⟨P, hP⟩ : ∃ P, r * n + j = P := ⟨_, rfl⟩
        rw [hP] at zc dz
        have c1 : (r : Int) * (n : Int) = ((r * n : Nat) : Int) := (Int.natCast_mul _ _).symm
        have u1 : IntKind.i64.wrap ((r : Int) * (n : Int)) = (r : Int) * (n : Int) := IntWalk.i64_in _ (by rw [c1]; omega)
        have u2 : IntKind.i64.wrap ((r : Int) * (n : Int) + (j : Int)) = (P : Int) := by
          rw [show (r : Int) * (n : Int) + (j : Int) = (P : Int) by rw [c1, ← hP]; omega]
          exact IntWalk.i64_in _ (by omega)
        have p0 : (0 : Int) ≤ (P : Int) := by omega
        have p1 : (P : Int) < ((n * n : Nat) : Int) := by omega
        obtain ⟨sn, hsn⟩ : ∃ z, sg (colsL j S).length = z := ⟨_, rfl⟩
        have s1 : sn = 1 ∨ sn = -1 := by rw [← hsn]; exact sg_or _
        have vn : IntKind.i64.wrap (-sn) = -sn := IntWalk.i64_in _ (by omega)
        have SS : Hid (sg (colsL (j + 1) S).length = -sn) := by show _ = _; rw [L4.out, sg_succ, hsn]
        rw [hsn] at E3 ⊢
        obtain ⟨p, hp⟩ : ∃ p, (colsL j S).length = p := ⟨_, rfl⟩
        have CC : Hid (c' ≤ c + (colsL (j + 1) S).length * G ∧ c' + G ≤ c + (colsL (j + 1) S).length * G ∧ c' + G ≤ c + 6 * G) := by
          have t1 : (p + 1) * G ≤ 6 * G := Nat.mul_le_mul_right G (by omega)
          rw [Nat.succ_mul] at t1
          show _ ∧ _ ∧ _
          rw [L4.out, hp, Nat.succ_mul]
          rw [hp] at hc'
          omega
        have WIj : Hid (∀ w', Calls Try.prog 103 #[.int .u64 S, .int .i64 j] w' fun e w2 => e = .returned (.int .u64 (lessS S j)) ∧ w2 = w') := fun w' => WI.out j w' hlt
        obtain ⟨T, hT⟩ : ∃ T, lessS S j = T := ⟨_, rfl⟩
        rw [hT] at L1 L2 SOJ E2 E3 WIj
        obtain ⟨d, hd⟩ : ∃ d, setD n xs rows T = d := ⟨_, rfl⟩
        have DT : Hid (∀ w', MnSt n (some ⟨ga, oa, none⟩) m xs rows (some ⟨gq, oq, none⟩) qc px bm c' w' → Calls Try.prog 48 #[.pointer (some ⟨px, 0, none⟩), .int .u64 T] w' (fun e w2 => e = .returned (.tuple #[.int .i64 (detR d).1, .bool (detR d).2]) ∧ MnSt n (some ⟨ga, oa, none⟩) m xs rows (some ⟨gq, oq, none⟩) qc px bm (c' + G) w2 ∧ w'.grownBy w2 (some bm))) := fun w' h => by
          have := IH.out T c' w' L1.out L2.out h (by rw [HG.out]; have := CC.out; omega)
          rw [HG.out, hd] at this
          exact this
        rw [hd] at SOJ E2 E3
        clear hb l1 l2 l3 l4 l5 e1 e2 e3 so zl hz hP c1 hsn hp hT hd hc'
        by_cases h0 : z = 0
        · have n1 : (z != 0) = false := by simp [h0]
          have A := Lib.hid (E1.out h0)
          clear h0 s1 zn
          go_wp2_with fail
          refine (HAj.out _).mono ?_
          rintro e w2 ⟨rfl, rfl⟩
          go_upto_region 7 with fail
          go_quiet (fail)
          go_wp2_with fail
          go_roundw
          case rel => exact ⟨j + 1, s, c', by go_num, by omega, rfl, by rw [SS.out], A.out, M.out.drewN nq, grown_drewN_one GR.out nq, CC.out.1⟩
          case measure => simp [intOf]; omega
        · have n1 : (z != 0) = true := by simp [h0]
          have H0 := Lib.hid h0
          clear h0
          go_wp2_with fail
          refine (HAj.out _).mono ?_
          rintro e w2 ⟨rfl, rfl⟩
          go_upto_region 7 with fail
          go_quiet (fail)
          go_wp2_with fail
          refine (WIj.out _).mono ?_
          rintro e w2 ⟨rfl, rfl⟩
          go_wp2_with fail
          refine (DT.out _ (M.out.drewN nq)).mono ?_
          rintro e w2 ⟨rfl, hm2, hg2⟩
          have M2 := Lib.hid hm2
          have GR2 := Lib.hid ((grown_drewN_one GR.out nq).trans hg2)
          clear hm2 hg2
          by_cases h1 : d = badN
          · have A := Lib.hid (E2.out H0.out h1)
            have R := detR_bad h1
            have M3 := Lib.hid (M2.out.mono CC.out.2.2)
            rw [R]
            clear h1 R s1 zn
            go_wp2_with fail
            exact bodyPost_ret (v := .tuple #[.int .i64 0, .bool false]) (by simp [results, Try.results80, go_sem]) rfl ⟨by rw [A.out]; rfl, M3.out, GR2.out⟩
          · have A := Lib.hid (E3.out H0.out h1)
            have R := detR_num h1
            have bd := BDj.out _ A.out
            have mx : NumP (sn * z) := by unfold NumP at *; rcases s1 with rfl | rfl <;> omega
            have my := mul_num _ _ mx (SOJ.out.resolve_left h1)
            unfold NumP at mx
            have v1 : IntKind.i64.wrap (sn * z) = sn * z := IntWalk.i64_in _ (by omega)
            have v2 : IntKind.i64.wrap (sn * z * d) = sn * z * d := IntWalk.i64_in _ (by omega)
            have v3 : IntKind.i64.wrap (s + sn * z * d) = s + sn * z * d := IntWalk.i64_in _ (by omega)
            rw [R]
            clear h1 R s1 zn bd mx my
            go_wp2_with fail
            go_roundw
            case rel => exact ⟨j + 1, s + sn * z * d, c' + G, by go_num, by omega, rfl, by rw [SS.out], A.out, M2.out, GR2.out, CC.out.2.1⟩
            case measure => simp [intOf]; omega
      · have O := Lib.hid (OUT.out j hb)
        have HAj : Hid (∀ w', Calls Try.prog 102 #[.int .u64 S, .int .i64 j] w' fun e w2 => e = .returned (.bool false) ∧ w2 = w') := fun w' => by
          have := HA.out j w' hlt
          rw [hb] at this
          exact this
        clear hb
        go_wp2_with fail
        refine (HAj.out _).mono ?_
        rintro e w2 ⟨rfl, rfl⟩
        go_wp2_with fail
        go_roundw
        case rel => exact ⟨j + 1, s, c', by go_num, by omega, rfl, by rw [O.out], by rw [O.out]; exact E.out, M.out, GR.out, by rw [O.out]; exact hc'⟩
        case measure => simp [intOf]; omega
    · obtain rfl : j = n := by omega
      rw [FIN.out] at hc'
      have E2 : Hid (accD j xs rows S K = some s) := by
        have := E.out
        rw [FIN.out] at this
        exact this
      have K7 : K * G ≤ 6 * G := Nat.mul_le_mul_right G K6
      have M2 := Lib.hid (M.out.mono (show c' ≤ c + 6 * G by omega))
      clear hlt hc' K7
      go_wp2_with fail
      exact bodyPost_ret (v := .tuple #[.int .i64 s, .bool true]) (by simp [results, Try.results80, go_sem]) rfl ⟨by rw [E2.out]; rfl, M2.out, GR.out⟩
end Go.Proofs.Ytncplikadacjnaa
end

section
/-
  Chapter 6, in the program: determinants of a set of columns, with a memory.
-/
namespace Go.Proofs.Ytncplikadacjnaa
set_option maxRecDepth 100000
open Go.RowKit Go.Maps

theorem wf_cols {S : Nat} (h : S < 64) : (Lit.int .u64 (S : Int)).wf = true := by
  revert S
  decide +kernel
theorem wf_num {s : Int} (h : NumP s) : (Lit.int .i64 s).wf = true := by
  unfold NumP at h
  exact WalkArith.wf_i64 (by omega)
set_option maxHeartbeats 1000000 in
theorem iMinor (n : Nat) (a : Option Addr) (m : Nat) (xs : List Int) (rows : List Nat) (q : Option Addr) (qc px bm : Nat) (h6 : n ≤ 6) (hx : xs.length = n * n) (nx : nums xs = true) (hrn : ∀ i, i < rows.length → rows.getD i 0 < n) (hrl : rows.length ≤ 6) :
    ∀ k, k ≤ rows.length → MinorAt n a m xs rows q qc px bm k := by
  intro k
  induction k with
  | zero =>
    intro _ S c w hS hc st hcb
    obtain rfl : S = 0 := colsL_none n h6 S hS hc
    have V : Hid (detR (setD n xs rows 0) = (1, true)) := by show _ = _; rw [setD_zero]; exact detR_num (by decide)
    have M := Lib.hid (st.mono (show c ≤ c + 7 ^ 0 by omega))
    rw [V.out]
    clear st
    go_enter Try.func48, Try.ntmps48
    go_wp2_with fail
    exact bodyPost_ret (v := .tuple #[.int .i64 1, .bool true]) (by simp [results, Try.results48, go_sem]) rfl ⟨rfl, M.out, World.grownBy.refl _ _⟩
  | succ k ih =>
    intro hk S c w hS hc st hcb
    have h64 : S < 64 := Nat.lt_of_lt_of_le hS (pow_64 n h6)
    have s0 : S ≠ 0 := by
      rintro rfl
      rw [colsL_zero] at hc
      simp at hc
    have n1 : ((S : Int) == 0) = false := by simp; omega
    have p7 : 7 ^ (k + 1) = 7 * 7 ^ k := by rw [Nat.pow_succ, Nat.mul_comm]
    have p1 : 1 ≤ 7 ^ k := Nat.one_le_pow _ _ (by omega)
    have EX : Hid (∀ w', MnSt n a m xs rows q qc px bm c w' → Calls Try.prog 80 #[.pointer (some ⟨px, 0, none⟩), .int .u64 S] w' (fun e w2 => e = .returned (.tuple #[.int .i64 (exR (accD n xs rows S (k + 1))).1, .bool (exR (accD n xs rows S (k + 1))).2]) ∧ MnSt n a m xs rows q qc px bm (c + 6 * 7 ^ k) w2 ∧ w'.grownBy w2 (some bm))) := fun w' h => iExpand n a m xs rows q qc px bm k h6 hx nx hrn hk hrl (ih (by omega)) S c w' hS hc h (by omega)
    have D0 : Hid (accD n xs rows S (k + 1) = none → setD n xs rows S = badN) := fun h => setD_none hc h
    have D1 : Hid (∀ s, accD n xs rows S (k + 1) = some s → ¬ NumP s → setD n xs rows S = badN) := fun s h h1 => setD_bad hc h h1
    have D2 : Hid (∀ s, accD n xs rows S (k + 1) = some s → NumP s → setD n xs rows S = s) := fun s h h1 => setD_num hc h h1
    have KY : keyOf Try.prog 61 (.int .u64 (S : Int)) = some (.int .u64 (S : Int)) := keyOf_int_mk und_cols (wf_cols h64)
    obtain ⟨b0, b1, b2, b3, b4⟩ := st.blk.all
    have ST := Lib.hid st
    obtain ⟨D, hD, hM⟩ := st.memo
    have MP := Lib.hid hD
    have ME := Lib.hid hM
    obtain ⟨d, hd⟩ : ∃ d, setD n xs rows S = d := ⟨_, rfl⟩
    have DD := Lib.hid hd
    rw [p7] at hcb ⊢
    generalize 7 ^ k = G at EX p1 hcb ⊢
    rw [hd] at D0 D1 D2 ⊢
    clear st hD hM hd p7 ih hx nx hrn hrl hk hc s0
    rcases Bool.eq_false_or_eq_true (Maps.has D (.int .u64 (S : Int))) with hh | hh
    · obtain ⟨hb, ha⟩ := ME.out S hh
      rw [DD.out] at hb ha
      have R : Hid (detR d = (d, true)) := detR_num hb
      have HA := Lib.hid ha
      have M := Lib.hid (ST.out.mono (show c ≤ c + 7 * G by omega))
      clear hb ha
      rw [R.out]
      go_enter Try.func48, Try.ntmps48
      go_wp2_with (first
        | (at_lookup; refine wpList_lookup_own_ok_int _ rfl _ _ 93 rfl 61 3 .i64 keyed_cols und_map und_int (zero_int _) bm c D rfl MP.out _ _ rfl KY ?_; intro v hat hwc)
        | fail)
      obtain rfl : v = d := by
        rw [HA.out] at hat
        injection hat with hat
        injection hat with _ hat
        exact hat.symm
      exact bodyPost_ret (v := .tuple #[.int .i64 v, .bool true]) (by simp [results, Try.results48, go_sem]) rfl ⟨rfl, M.out, World.grownBy.refl _ _⟩
    · cases hac : accD n xs rows S (k + 1) with
      | none =>
        have R : Hid (detR d = (0, false)) := detR_bad (D0.out hac)
        rw [hac, show exR none = (0, false) from rfl] at EX
        clear hac
        rw [R.out]
        go_enter Try.func48, Try.ntmps48
        go_wp2_with (first
          | (at_lookup; refine wpList_lookup_own_ok_int _ rfl _ _ 93 rfl 61 3 .i64 keyed_cols und_map und_int (zero_int _) bm c D rfl MP.out _ _ rfl KY ?_; intro v hat hwc)
          | fail)
        refine (EX.out _ ST.out).mono ?_
        rintro e w2 ⟨rfl, hm2, hg2⟩
        have M2 := Lib.hid (hm2.mono (show c + 6 * G ≤ c + 7 * G by omega))
        have GR := Lib.hid hg2
        clear hm2 hg2
        go_wp2_with fail
        exact bodyPost_ret (v := .tuple #[.int .i64 0, .bool false]) (by simp [results, Try.results48, go_sem]) rfl ⟨rfl, M2.out, GR.out⟩
      | some s =>
        rw [hac, show exR (some s) = (s, true) from rfl] at EX
        by_cases hs : NumP s
        · have e : d = s := D2.out s hac hs
          subst e
          have R : Hid (detR d = (d, true)) := detR_num hs.ne_bad
          have WF := wf_num hs
          have NB := Lib.hid hs.ne_bad
          have n2 : decide (NumP d) = true := decide_eq_true hs
          clear hac hs
          rw [R.out]
          go_enter Try.func48, Try.ntmps48
          go_wp2_with (first
            | (at_lookup; refine wpList_lookup_own_ok_int _ rfl _ _ 93 rfl 61 3 .i64 keyed_cols und_map und_int (zero_int _) bm c D rfl MP.out _ _ rfl KY ?_; intro v hat hwc)
            | fail)
          refine (EX.out _ ST.out).mono ?_
          rintro e w2 ⟨rfl, hm2, hg2⟩
          clear b0 b1 b2 b3 b4
          obtain ⟨b0, b1, b2, b3, b4⟩ := hm2.blk.all
          have M2 := Lib.hid hm2
          obtain ⟨E, hE, hF⟩ := hm2.memo
          have MP2 := Lib.hid hE
          have ME2 := Lib.hid hF
          have GR := Lib.hid hg2
          clear hm2 hg2 hE hF
          go_wp2_with fail
          refine (iIsNum d _).mono ?_
          rintro e w3 ⟨rfl, rfl⟩
          rw [n2]
          go_wp2_with (first
            | (at_mapUpdate; refine wpList_mapUpdate_own _ rfl _ _ _ 93 rfl 61 3 keyed_cols und_map _ bm (c + 6 * G) E rfl MP2.out (by unfold maxLen; omega) _ _ _ rfl rfl KY _ [] (plainElem_int und_int WF) ?_; intro w4 hown4 hg4)
            | fail)
          have hP := ME2.out.put (World.ownsMap.isMap MP2.out) S (by rw [DD.out]; exact NB.out)
          rw [DD.out] at hP
          exact bodyPost_ret (v := .tuple #[.int .i64 d, .bool true]) (by simp [results, Try.results48, go_sem]) rfl ⟨rfl, (M2.out.turn hg4 hown4 hP).mono (by omega), GR.out.trans hg4⟩
        · have R : Hid (detR d = (0, false)) := detR_bad (D1.out s hac hs)
          have n2 : decide (NumP s) = false := decide_eq_false hs
          clear hac hs
          rw [R.out]
          go_enter Try.func48, Try.ntmps48
          go_wp2_with (first
            | (at_lookup; refine wpList_lookup_own_ok_int _ rfl _ _ 93 rfl 61 3 .i64 keyed_cols und_map und_int (zero_int _) bm c D rfl MP.out _ _ rfl KY ?_; intro v hat hwc)
            | fail)
          refine (EX.out _ ST.out).mono ?_
          rintro e w2 ⟨rfl, hm2, hg2⟩
          have M2 := Lib.hid (hm2.mono (show c + 6 * G ≤ c + 7 * G by omega))
          have GR := Lib.hid hg2
          clear hm2 hg2
          go_wp2_with fail
          refine (iIsNum s _).mono ?_
          rintro e w3 ⟨rfl, rfl⟩
          rw [n2]
          go_wp2_with fail
          exact bodyPost_ret (v := .tuple #[.int .i64 0, .bool false]) (by simp [results, Try.results48, go_sem]) rfl ⟨rfl, M2.out, GR.out⟩
end Go.Proofs.Ytncplikadacjnaa
end

section
/-
  Chapter 6, in the program: IsSquare.
-/
namespace Go.Proofs.Ytncplikadacjnaa
set_option maxRecDepth 100000
open Go.RowKit

set_option maxHeartbeats 1000000 in
theorem iIsSq (r c : Int) (a : Option Addr) (m : Nat) (xs : List Int) (w : World) (h : Rd w a xs) (hn : xs.length ≤ 16777216) :
    Calls Try.prog 46 #[.agg #[.int .i64 r, .int .i64 c, .slice a xs.length m]] w (Gives (.bool (isSq r c xs)) w) := by
  have H := Lib.hid h
  obtain ⟨n, hx⟩ : ∃ n, xs.length = n := ⟨_, rfl⟩
  have HX := Lib.hid hx
  rw [hx] at hn ⊢
  clear hx h
  have B0 : ∀ o1, Below w.heap.size w (w.alloc o1) := fun o1 => (Below.refl _ _).alloc (Nat.le_refl _) _
  have BH := Lib.hid B0
  clear B0
  have fin : ∀ b (w' : World), isSq r c xs = b → Below w.heap.size w w' → Gives (.bool (isSq r c xs)) w (.returned (.bool b)) w' := fun b w' h1 h2 => ⟨by rw [h1], h2⟩
  have FIN := Lib.hid fin
  clear fin
  go_enter Try.func46, Try.ntmps46
  go_wp2_with fail
  have ST := iIsMat r c a m xs _ (H.out.below (BH.out (.cells #[.int .i64 r, .int .i64 c, .slice a n m] 26))) (by rw [HX.out]; omega)
  rw [HX.out] at ST
  refine ST.mono ?_
  clear ST
  rintro e w1 ⟨rfl, hb⟩
  have K0 : Hid (Blk3 w1 w.heap.size 26 (.int .i64 r) (.int .i64 c) (.slice a n m)) := (Blk3.at_ _ _ _ _ rfl).keep hb (by simp)
  have B : Hid (Below w.heap.size w w1) := (BH.out _).trans (hb.mono (by simp))
  clear hb
  obtain ⟨ca0, ca1, ca2, -, -, -⟩ := K0.out.all
  obtain ⟨bm, hbm⟩ : ∃ b, isMat r c xs = b := ⟨_, rfl⟩
  rw [hbm]
  cases bm with
  | false =>
    have V : Hid (isSq r c xs = false) := by show isSq r c xs = false; unfold isSq; rw [hbm]; rfl
    clear hbm
    go_wp2_with fail
    go_ret
    exact FIN.out _ _ V.out B.out
  | true =>
    by_cases h1 : r = c
    · by_cases h2 : r ≤ 6
      · have V : Hid (isSq r c xs = true) := by show isSq r c xs = true; unfold isSq; rw [hbm, decide_eq_true h1, decide_eq_true h2]; rfl
        clear hbm
        subst h1
        go_wp2_with fail
        go_ret
        exact FIN.out _ _ V.out B.out
      · have V : Hid (isSq r c xs = false) := by show isSq r c xs = false; unfold isSq; rw [hbm, decide_eq_false h2]; simp
        clear hbm
        subst h1
        go_wp2_with fail
        go_ret
        exact FIN.out _ _ (by rw [V.out]; exact (decide_eq_false (by omega)).symm) B.out
    · have V : Hid (isSq r c xs = false) := by show isSq r c xs = false; unfold isSq; rw [hbm, decide_eq_false h1]; simp
      have n1 : (r == c) = false := by simpa using h1
      clear hbm
      go_wp2_with fail
      go_ret
      exact FIN.out _ _ V.out B.out
end Go.Proofs.Ytncplikadacjnaa
end

section
/-
  Chapter 6, in the program: DeterminantOf.
-/
namespace Go.Proofs.Ytncplikadacjnaa
set_option maxRecDepth 100000
open Go.RowKit Go.Maps

theorem rows_rd {w : World} {B l : Nat} {q : Option Addr} {qc : Nat} {rows : List Nat} (h : w.ownsRow B 3 1 (.slice q l qc) rows.length (rows.map fun (r : Nat) => Value.int .i64 (r : Int))) (hr : rows.length ≤ 6) : l = rows.length ∧ Rd w q (rows.map fun (r : Nat) => (r : Int)) := by
  have h2 : w.ownsRow B 3 1 (.slice q l qc) (rows.map fun (r : Nat) => (r : Int)).length ((rows.map fun (r : Nat) => (r : Int)).map (Value.int .i64)) := by
    rw [List.length_map, List.map_map]
    exact h
  have ho := Own.of_row h2 (by rw [List.length_map]; omega)
  rcases ho with ⟨hv, e⟩ | ⟨g, cap, hv, _, hi, _⟩
  · injection hv with e1 e2 e3
    subst e1
    rw [e]
    refine ⟨?_, Rd.nil _ _⟩
    have := congrArg List.length e
    rw [List.length_map] at this
    rw [e2, this]; rfl
  · injection hv with e1 e2 e3
    subst e1
    rw [List.length_map] at e2
    exact ⟨e2, hi.rd⟩
/-- A new block of determinants as the state that the expansion wants. -/
theorem new_st {n : Nat} {a : Option Addr} {m : Nat} {xs : List Int} {rows : List Nat} {q : Option Addr} {l qc px bm B : Nat} {w : World} (h5 : Blk5 w px 95 (.int .i64 n) (.int .i64 n) (.slice a (n * n) m) (.slice q l qc) (.map (some bm))) (ho : w.ownsRow B 3 1 (.slice q l qc) rows.length (rows.map fun (r : Nat) => Value.int .i64 (r : Int))) (hm : Mp w bm 0 (.map [])) (h : Rd w a xs) (hr : rows.length ≤ 6) :
    MnSt n a m xs rows q qc px bm 0 w := by
  obtain ⟨rfl, hq⟩ := rows_rd ho hr
  exact ⟨h5, h, hq, _, hm, Memo.none _ _ _⟩
theorem rowsBut_pick (n : Nat) (e : Int) (i : Nat) (h : i < (rowsBut n e).length) : (rowsBut n e).getD i 0 < n := rowsBut_lt h
theorem keepD {w0 W w' : World} {b : Nat} {p q v : Value} (h : W.cell? ⟨b, 0, none⟩ = some p ∧ W.cell? ⟨b, 1, none⟩ = some q ∧ W.cell? ⟨b, 2, none⟩ = some v ∧ Below w0.heap.size w0 W) (hb : Below W.heap.size W w') :
    w'.cell? ⟨b, 0, none⟩ = some p ∧ w'.cell? ⟨b, 1, none⟩ = some q ∧ w'.cell? ⟨b, 2, none⟩ = some v ∧ Below w0.heap.size w0 w' :=
  ⟨(hb.cell (World.block_lt_of_cell? W _ h.1)).trans h.1, (hb.cell (World.block_lt_of_cell? W _ h.2.1)).trans h.2.1, (hb.cell (World.block_lt_of_cell? W _ h.2.2.1)).trans h.2.2.1, h.2.2.2.trans (hb.mono h.2.2.2.size)⟩
theorem keepG {w0 W w' : World} {b bm : Nat} {p q v : Value} (h : W.cell? ⟨b, 0, none⟩ = some p ∧ W.cell? ⟨b, 1, none⟩ = some q ∧ W.cell? ⟨b, 2, none⟩ = some v ∧ Below w0.heap.size w0 W) (hb : W.grownBy w' (some bm)) (h1 : b < bm) (h2 : w0.heap.size ≤ bm) :
    w'.cell? ⟨b, 0, none⟩ = some p ∧ w'.cell? ⟨b, 1, none⟩ = some q ∧ w'.cell? ⟨b, 2, none⟩ = some v ∧ Below w0.heap.size w0 w' :=
  ⟨hb.cell h.1 (by simp; omega), hb.cell h.2.1 (by simp; omega), hb.cell h.2.2.1 (by simp; omega), h.2.2.2.trans (below_of_one hb h2 h.2.2.2.size)⟩
theorem pow7 : ∀ n, n ≤ 6 → 0 + 7 ^ n ≤ 1000000 := by decide
set_option maxHeartbeats 1000000 in
theorem iDetOf (r c : Int) (a : Option Addr) (m : Nat) (xs : List Int) (w : World) (h : Rd w a xs) (hn : xs.length ≤ 16777216) :
    Calls Try.prog 16 #[.agg #[.int .i64 r, .int .i64 c, .slice a xs.length m]] w (Gives (.tuple #[.int .i64 (detOf r c xs).1, .bool (detOf r c xs).2]) w) := by
  have H := Lib.hid h
  obtain ⟨l, hx⟩ : ∃ n, xs.length = n := ⟨_, rfl⟩
  have HX := Lib.hid hx
  rw [hx] at hn ⊢
  clear hx h
  have B0 : Hid (∀ o1, Below w.heap.size w (w.alloc o1)) := fun o1 => (Below.refl _ _).alloc (Nat.le_refl _) _
  have SQ : Hid (∀ w', Below w.heap.size w w' → Calls Try.prog 46 #[.agg #[.int .i64 r, .int .i64 c, .slice a l m]] w' (Gives (.bool (isSq r c xs)) w')) := fun w' hb => by
    have := iIsSq r c a m xs w' (H.out.below hb) (by rw [HX.out]; exact hn)
    rw [HX.out] at this
    exact this
  rcases Bool.eq_false_or_eq_true (isSq r c xs) with hs | hs
  · obtain ⟨n, rfl, rfl, h6, hl, nx⟩ := isSq_says hs
    have V : Hid (detOf n n xs = detM n xs) := by show detOf n n xs = _; unfold detOf; rw [if_pos hs]; rfl
    have LN : l = n * n := by rw [← HX.out]; exact hl
    subst LN
    have NW : Hid (∀ w', Calls Try.prog 47 #[.agg #[.int .i64 n, .int .i64 n, .slice a (n * n) m]] w' (MnNewR n (n * n) m a w')) := fun w' => iMinorsOf n (n * n) m a w' h6
    have FC : Hid (∀ w', Calls Try.prog 49 #[.int .i64 n] w' fun e w2 => e = .returned (.int .u64 ((2 ^ n - 1 : Nat) : Int)) ∧ w2 = w') := fun w' => iFirst n h6 w'
    have RL : (rowsBut n (-1)).length = n := by rw [rowsBut_all, List.length_range]
    have MI : Hid (∀ (px bm B : Nat) (V : Value) (w' : World), Blk5 w' px 95 (.int .i64 n) (.int .i64 n) (.slice a (n * n) m) V (.map (some bm)) → w'.ownsRow B 3 1 V (rowsBut n (-1)).length ((rowsBut n (-1)).map fun (r : Nat) => Value.int .i64 (r : Int)) → Mp w' bm 0 (.map []) → Below w.heap.size w w' →
        Calls Try.prog 48 #[.pointer (some ⟨px, 0, none⟩), .int .u64 ((2 ^ n - 1 : Nat) : Int)] w' (fun e w2 => e = .returned (.tuple #[.int .i64 (detM n xs).1, .bool (detM n xs).2]) ∧ w'.grownBy w2 (some bm))) := fun px bm B V w' h5 ho hm hb => by
      obtain ⟨q, l, qc, rfl⟩ := rows_form ho
      have := iMinor n a m xs (rowsBut n (-1)) q qc px bm h6 hl nx (fun i hi => rowsBut_lt hi) (by omega) n (by omega) (2 ^ n - 1) 0 w' (by have := Nat.two_pow_pos n; omega) (by rw [colsL_full n h6, List.length_range]) (new_st h5 ho hm (H.out.below hb) (by omega)) (pow7 n h6)
      rw [rowsBut_all, setD_all h6 hl] at this
      refine this.mono ?_
      rintro e w2 ⟨rfl, -, hg⟩
      exact ⟨rfl, hg⟩
    obtain ⟨dn, hdn⟩ : ∃ d, (detM n xs).1 = d := ⟨_, rfl⟩
    obtain ⟨db, hdb⟩ : ∃ d, (detM n xs).2 = d := ⟨_, rfl⟩
    rw [V.out]
    rw [hdn, hdb] at MI ⊢
    obtain ⟨F, hF⟩ : ∃ F, (2 ^ n - 1 : Nat) = F := ⟨_, rfl⟩
    rw [hF] at MI FC
    clear V hdn hdb hF RL
    rw [hs] at SQ
    clear hs
    go_enter Try.func16, Try.ntmps16
    go_wp2_with fail
    refine (SQ.out _ (B0.out _)).mono ?_
    rintro e w1 ⟨rfl, hb⟩
    have K0 : Hid (Blk3 w1 w.heap.size 26 (.int .i64 n) (.int .i64 n) (.slice a (n * n) m)) := (Blk3.at_ _ _ _ _ rfl).keep hb (by simp)
    have B : Hid (Below w.heap.size w w1) := (B0.out _).trans (hb.mono (by simp))
    clear hb
    obtain ⟨a0, a1, a2, -, -, -⟩ := K0.out.all
    have hS := Lib.hid (And.intro a0 (And.intro a1 (And.intro a2 B.out)))
    have SZ : w.heap.size < w1.heap.size := K0.out.lt
    go_upto_region 3 with fail
    go_region_held3 (fun w' => w'.cell? ⟨w.heap.size, 0, none⟩ = some (.int .i64 n) ∧ w'.cell? ⟨w.heap.size, 1, none⟩ = some (.int .i64 n) ∧ w'.cell? ⟨w.heap.size, 2, none⟩ = some (.slice a (n * n) m) ∧ Below w.heap.size w w') (first | exact keepD hS.out (Below.refl _ _).drew | with_reducible exact keepD ‹_› ‹Below _ _ _› | with_reducible exact keepG ‹_› ‹World.grownBy _ _ _› ‹_› (Nat.le_of_lt ‹_›))
      (first
      | (go_at_call 47; (with_reducible refine (NW.out _).mono ?_); rintro e w2 ⟨px, bm, V, rfl, -, x2, x3, x4, x5, hb1⟩; replace x2 : w.heap.size < bm := Nat.lt_of_lt_of_le SZ x2)
      | (go_at_call 49; (with_reducible refine (FC.out _).mono ?_); rintro e w3 ⟨rfl, rfl⟩; have hb3 := Below.refl w3.heap.size w3)
      | (go_at_call 48; (with_reducible refine (MI.out _ _ _ _ _ ‹_› ‹_› ‹_› (And.right (And.right (And.right ‹_›)))).mono ?_); rintro e w4 ⟨rfl, hg4⟩))
    all_goals
      go_wp2_with fail
      exact bodyPost_ret (v := .tuple #[.int .i64 dn, .bool db]) (by simp [results, Try.results16, go_sem]) rfl ⟨rfl, (And.right (And.right (And.right ‹_ ∧ _ ∧ _ ∧ Below w.heap.size w _›)))⟩
  · have V : Hid (detOf r c xs = (0, false)) := by show detOf r c xs = _; unfold detOf; rw [if_neg (by rw [hs]; decide)]
    rw [hs] at SQ
    clear hs
    rw [V.out]
    go_enter Try.func16, Try.ntmps16
    go_wp2_with fail
    refine (SQ.out _ (B0.out _)).mono ?_
    rintro e w1 ⟨rfl, hb⟩
    have B : Hid (Below w.heap.size w w1) := (B0.out _).trans (hb.mono (by simp))
    clear hb
    go_wp2_with fail
    exact bodyPost_ret (v := .tuple #[.int .i64 0, .bool false]) (by simp [results, Try.results16, go_sem]) rfl ⟨rfl, B.out⟩
end Go.Proofs.Ytncplikadacjnaa
end
