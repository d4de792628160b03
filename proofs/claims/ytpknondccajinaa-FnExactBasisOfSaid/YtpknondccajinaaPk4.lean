/-
  Texts of this seat, joined: RingMath · NumMath · NumAbs · NumGcdS · PrimS · AppI · EchS · EchT · EchI · MatI · RwI
-/
import Derived.WalkKit
import Derived.Test.YtpknondccajinaaRows
import Derived.BigQuiet
import Derived.Deep.QuietTactic
import Derived.Lib.Hide
import Derived.StillTailTactics
import Derived.Deep.DeepCutAuto
import Derived.IntWalk
import Derived.Test.YtpknondccajinaaPk1
import Derived.Test.YtpknondccajinaaPk2
import Derived.Test.YtpknondccajinaaPk3

section
/-
  Plain mathematics of chapter 3: products can be grouped in any way, and distribute over sums. Nothing of a program is used.
-/
namespace Go.Proofs.Ytpknondccajinaa

theorem dot_sum (K C : Nat) (xs ys : List Int) (i j : Nat) : ∀ n : Nat, dot K C xs ys i j n = sumN n (fun k => xs.getD (i * K + k) 0 * ys.getD (k * C + j) 0) := by
  intro n
  induction n with
  | zero => rfl
  | succ n ih => show dot K C xs ys i j n + _ = _; rw [ih]; rfl
theorem mul_assoc (R K C D : Nat) (xs ys zs : List Int) : mulL R C D (mulL R K C xs ys) zs = mulL R K D xs (mulL K C D ys zs) := by
  refine tab_ext (mulL_length _ _ _ _ _) fun i j hi hj => ?_
  rw [mulL_at R C D _ _ hi hj, dot_sum, dot_sum]
  have h1 : sumN C (fun k => (mulL R K C xs ys).getD (i * C + k) 0 * zs.getD (k * D + j) 0) = sumN C (fun k => sumN K (fun l => xs.getD (i * K + l) 0 * ys.getD (l * C + k) 0 * zs.getD (k * D + j) 0)) := by
    refine sumN_congr fun k hk => ?_
    rw [mulL_at R K C xs ys hi hk, dot_sum, sumN_mul]
  have h2 : sumN K (fun l => xs.getD (i * K + l) 0 * (mulL K C D ys zs).getD (l * D + j) 0) = sumN K (fun l => sumN C (fun k => xs.getD (i * K + l) 0 * ys.getD (l * C + k) 0 * zs.getD (k * D + j) 0)) := by
    refine sumN_congr fun l hl => ?_
    rw [mulL_at K C D ys zs hl hj, dot_sum, sumN_mul_left]
    exact sumN_congr fun k _ => (Int.mul_assoc _ _ _).symm
  rw [h1, h2, sumN_swap]
theorem addL_at (xs ys : List Int) (i : Nat) (h : i < xs.length) : (addL xs ys).getD i 0 = xs.getD i 0 + ys.getD i 0 := by
  simp [addL, List.getD, h]
theorem addL_length (xs ys : List Int) : (addL xs ys).length = xs.length := by simp [addL]
theorem scale_two (xs : List Int) : scaleL xs 2 = addL xs xs := by
  unfold scaleL addL
  refine List.map_congr_left fun i _ => ?_
  omega
theorem mul_double (R K C : Nat) (xs ys : List Int) (hy : ys.length = K * C) : mulL R K C xs (addL ys ys) = addL (mulL R K C xs ys) (mulL R K C xs ys) := by
  refine list_eq (n := R * C) (mulL_length _ _ _ _ _) (by rw [addL_length, mulL_length]) fun p hp => ?_
  have hC : 0 < C := by
    rcases Nat.eq_zero_or_pos C with e | e
    · rw [e, Nat.mul_zero] at hp; omega
    · exact e
  have hi : p / C < R := Nat.div_lt_of_lt_mul (by rw [Nat.mul_comm]; exact hp)
  have hj : p % C < C := Nat.mod_lt p hC
  have e : p / C * C + p % C = p := by rw [Nat.mul_comm]; exact Nat.div_add_mod p C
  rw [addL_at _ _ _ (by rw [mulL_length]; exact hp)]
  rw [← e, mulL_at R K C xs _ hi hj, mulL_at R K C xs ys hi hj, dot_sum, dot_sum, ← sumN_add]
  refine sumN_congr fun k hk => ?_
  rw [addL_at _ _ _ (by rw [hy]; exact idx_lt hk hj), Int.mul_add]
/-- Products can be grouped in any way. -/
theorem ring_assoc {R K C : Nat} {xs ys zs : List Int} {r c : Int} {y z w : MR}
    (hy : mulM R C (mulL R K C xs ys) r c zs = y) (hz : mulM K C ys r c zs = z) (hw : mulM R K xs z.r z.c z.zs = w) (oy : y.ok = true) (oz : z.ok = true) (ow : w.ok = true) : y = w := by
  rcases mul_cases R C (mulL R K C xs ys) r c zs with h | ⟨R', C', D, e1, e2, e3, e4, -, m2, -, h⟩
  · rw [h] at hy; rw [← hy] at oy; cases oy
  obtain rfl : R = R' := by omega
  obtain rfl : C = C' := by omega
  subst e3 e4
  rw [h] at hy
  rcases mul_cases K C ys C D zs with h' | ⟨K', C'', D', e1, e2, e3, e4, -, -, m3, h'⟩
  · rw [h'] at hz; rw [← hz] at oz; cases oz
  obtain rfl : K = K' := by omega
  obtain rfl : C = C'' := by omega
  obtain rfl : D = D' := by omega
  rw [h'] at hz
  rw [← hz] at hw
  dsimp only at hw
  rcases mul_cases R K xs K D (mulL K C D ys zs) with h'' | ⟨R'', K'', D'', e1, e2, e3, e4, -, -, -, h''⟩
  · rw [h''] at hw; rw [← hw] at ow; cases ow
  rw [← hy, ← hw, h'', mul_assoc]
  obtain rfl : R = R'' := by omega
  obtain rfl : K = K'' := by omega
  obtain rfl : D = D'' := by omega
  rfl
theorem add_cases {R C : Nat} {xs : List Int} (h : isMat R C xs = true) : addM R C xs R C xs = MR.no ∨ (addM R C xs R C xs = ⟨true, R, C, addL xs xs⟩ ∧ isMat R C (addL xs xs) = true) := by
  unfold addM MR.done
  rw [h, decide_eq_true (show (R : Int) = R ∧ (C : Int) = C from ⟨rfl, rfl⟩)]
  simp only [Bool.and_self, if_true]
  by_cases h2 : isMat R C (addL xs xs) = true
  · rw [if_pos h2]; exact .inr ⟨rfl, h2⟩
  · rw [if_neg h2]; exact .inl rfl
/-- Products distribute over sums. -/
theorem ring_dist {R K C : Nat} {xs ys : List Int} (h2 : isMat K C ys = true) (h3 : isMat R C (mulL R K C xs ys) = true) {s t u v : MR}
    (hs : addM K C ys K C ys = s) (ht : mulM R K xs s.r s.c s.zs = t) (hu : addM R C (mulL R K C xs ys) R C (mulL R K C xs ys) = u) (hv : scaleM R C (mulL R K C xs ys) 2 = v)
    (os : s.ok = true) (ot : t.ok = true) (ou : u.ok = true) : t = u ∧ u = v := by
  have ly : ys.length = K * C := by
    obtain ⟨-, -, l, -⟩ := isMat_says h2
    rw [← Int.natCast_mul] at l; omega
  rcases add_cases h2 with h | ⟨h, m⟩
  · rw [h] at hs; rw [← hs] at os; cases os
  rw [h] at hs
  rcases add_cases h3 with h' | ⟨h', m'⟩
  · rw [h'] at hu; rw [← hu] at ou; cases ou
  rw [h'] at hu
  have hv2 : v = ⟨true, R, C, addL (mulL R K C xs ys) (mulL R K C xs ys)⟩ := by
    rw [← hv]
    unfold scaleM MR.done
    rw [h3, scale_two, decide_eq_true (show NumP 2 by unfold NumP; omega)]
    simp only [Bool.and_self, if_true]
    rw [if_pos m']
  rw [← hs] at ht
  dsimp only at ht
  rcases mul_cases R K xs K C (addL ys ys) with h'' | ⟨R'', K'', C'', e1, e2, e3, e4, -, -, -, h''⟩
  · rw [h''] at ht; rw [← ht] at ot; cases ot
  rw [h''] at ht
  obtain rfl : R = R'' := by omega
  obtain rfl : K = K'' := by omega
  obtain rfl : C = C'' := by omega
  refine ⟨?_, ?_⟩
  · rw [← ht, ← hu, mul_double R K C xs ys ly]
  · rw [← hu, hv2]
end Go.Proofs.Ytpknondccajinaa
end

section
/-
  Plain mathematics of chapter 1: Euclid's steps on triples, their sizes, and what they lead to. Nothing of a program is imported.
-/
namespace Go.Proofs.Ytpknondccajinaa

/-- Euclid's steps: (g, x, y) and (h, u, v), at most n of them. -/
def egN : Nat → Int → Int → Int → Int → Int → Int → Int × Int × Int
  | 0, g, x, y, _, _, _ => (g, x, y)
  | n + 1, g, x, y, h, u, v => if h = 0 then (g, x, y) else egN n h u v (g - g.tdiv h * h) (x - g.tdiv h * u) (y - g.tdiv h * v)

theorem rem_lt (g h : Int) (hh : h ≠ 0) : (g - g.tdiv h * h).natAbs < h.natAbs := by
  have e : g - g.tdiv h * h = g.tmod h := by have := Int.tdiv_mul_add_tmod g h; omega
  rw [e, Int.natAbs_tmod]
  exact Nat.mod_lt _ (by omega)

theorem egN_fuel : ∀ (n m : Nat) (g x y h u v : Int), h.natAbs ≤ n → h.natAbs ≤ m → egN n g x y h u v = egN m g x y h u v := by
  intro n
  induction n with
  | zero =>
    intro m g x y h u v hn _
    have h0 : h = 0 := by omega
    subst h0
    cases m <;> simp [egN]
  | succ n ih =>
    intro m g x y h u v hn hm
    by_cases h0 : h = 0
    · subst h0; cases m <;> simp [egN]
    · cases m with
      | zero => omega
      | succ m =>
        have := rem_lt g h h0
        simp only [egN, if_neg h0]
        exact ih m _ _ _ _ _ _ (by omega) (by omega)

/-- The steps to the end. -/
def eg (g x y h u v : Int) : Int × Int × Int := egN h.natAbs g x y h u v
theorem eg_end (g x y u v : Int) : eg g x y 0 u v = (g, x, y) := by simp [eg, egN]
theorem eg_step (g x y h u v : Int) (hh : h ≠ 0) : eg g x y h u v = eg h u v (g - g.tdiv h * h) (x - g.tdiv h * u) (y - g.tdiv h * v) := by
  have hl := rem_lt g h hh
  unfold eg
  obtain ⟨k, hk⟩ : ∃ k, h.natAbs = k + 1 := ⟨h.natAbs - 1, by omega⟩
  rw [hk]
  simp only [egN, if_neg hh]
  exact egN_fuel _ _ _ _ _ _ _ _ (by omega) (by omega)

/-- One column of the steps: the products g*u and h*x stand on two sides, and together they are c. -/
def Half (c g x h u : Int) : Prop := ∃ s : Int, (s = 1 ∨ s = -1) ∧ 0 ≤ s * (g * u) ∧ s * (h * x) ≤ 0 ∧ s * (g * u) - s * (h * x) = c

theorem between (k g m : Int) (h : 0 ≤ k * g) (hm : (0 ≤ m ∧ m ≤ g) ∨ (g ≤ m ∧ m ≤ 0)) : 0 ≤ k * m := by
  rcases Int.lt_trichotomy m 0 with h1 | h1 | h1
  · have hg : g < 0 := by omega
    have hk : k ≤ 0 := by
      rcases Int.lt_or_le 0 k with hp | hp
      · have := Int.mul_neg_of_pos_of_neg hp hg; omega
      · exact hp
    exact Int.mul_nonneg_of_nonpos_of_nonpos hk (by omega)
  · subst h1; simp
  · have hg : 0 < g := by omega
    have hk : 0 ≤ k := by
      rcases Int.lt_or_le k 0 with hp | hp
      · have := Int.mul_neg_of_neg_of_pos hp hg; omega
      · exact hp
    exact Int.mul_nonneg hk (by omega)

theorem tdiv_between (g h : Int) :
    ((0 ≤ g.tdiv h * h ∧ g.tdiv h * h ≤ g) ∨ (g ≤ g.tdiv h * h ∧ g.tdiv h * h ≤ 0)) ∧ ((0 ≤ g - g.tdiv h * h ∧ g - g.tdiv h * h ≤ g) ∨ (g ≤ g - g.tdiv h * h ∧ g - g.tdiv h * h ≤ 0)) := by
  have e := Int.tdiv_mul_add_tmod g h
  rcases Int.lt_or_le g 0 with hg | hg
  · have h1 : (-g).tmod h = - g.tmod h := Int.neg_tmod g h
    have h2 : 0 ≤ (-g).tmod h := Int.tmod_nonneg h (by omega)
    have h3 : (-g).tdiv h * h = - (g.tdiv h * h) := by rw [Int.neg_tdiv, Int.neg_mul]
    have h4 : (-g).tmod h ≤ -g := by
      have := Int.natAbs_tmod (-g) h
      have := Nat.mod_le (-g).natAbs h.natAbs
      omega
    omega
  · have h2 : 0 ≤ g.tmod h := Int.tmod_nonneg h hg
    have h4 : g.tmod h ≤ g := by
      have := Int.natAbs_tmod g h
      have := Nat.mod_le g.natAbs h.natAbs
      omega
    omega

theorem Half.step {c g x h u : Int} (hf : Half c g x h u) : Half c h u (g - g.tdiv h * h) (x - g.tdiv h * u) := by
  obtain ⟨s, hs, h1, h2, h3⟩ := hf
  obtain ⟨b1, b2⟩ := tdiv_between g h
  have k1 : 0 ≤ (s * u) * g := by have : (s * u) * g = s * (g * u) := by rw [Int.mul_assoc, Int.mul_comm u g]
                                  omega
  have m1 := between _ _ _ k1 b1
  have m2 := between _ _ _ k1 b2
  have e1 : -s * (h * (x - g.tdiv h * u)) = (s * u) * (g.tdiv h * h) - s * (h * x) := by
    simp only [Int.mul_sub, Int.neg_mul]
    have : s * (h * (g.tdiv h * u)) = s * u * (g.tdiv h * h) := by
      simp only [Int.mul_assoc, Int.mul_comm, Int.mul_left_comm]
    omega
  have e2 : -s * ((g - g.tdiv h * h) * u) = -((s * u) * (g - g.tdiv h * h)) := by
    rw [Int.neg_mul]; congr 1
    rw [Int.mul_assoc, Int.mul_comm u]
  have e3 : (s * u) * (g.tdiv h * h) + (s * u) * (g - g.tdiv h * h) = s * (g * u) := by
    rw [← Int.mul_add, show g.tdiv h * h + (g - g.tdiv h * h) = g from by omega, Int.mul_assoc, Int.mul_comm u]
  refine ⟨-s, by omega, ?_, ?_, ?_⟩
  · rw [e1]; omega
  · rw [e2]; omega
  · rw [e1, e2]; omega

theorem abs_le_of_mul (k x c : Int) (hk : k ≠ 0) (h1 : -c ≤ k * x) (h2 : k * x ≤ c) : -c ≤ x ∧ x ≤ c := by
  have e : (k * x).natAbs = k.natAbs * x.natAbs := Int.natAbs_mul k x
  have h3 : x.natAbs ≤ k.natAbs * x.natAbs := Nat.le_mul_of_pos_left _ (by omega)
  omega

/-- The sizes: as long as h is not 0, x is at most c. -/
theorem Half.small {c g x h u : Int} (hf : Half c g x h u) (hh : h ≠ 0) : -c ≤ x ∧ x ≤ c := by
  obtain ⟨s, hs, h1, h2, h3⟩ := hf
  refine abs_le_of_mul h x c hh ?_ ?_ <;> rcases hs with rfl | rfl <;> omega
theorem Half.small2 {c g x h u : Int} (hf : Half c g x h u) (hg : g ≠ 0) : -c ≤ u ∧ u ≤ c := by
  obtain ⟨s, hs, h1, h2, h3⟩ := hf
  refine abs_le_of_mul g u c hg ?_ ?_ <;> rcases hs with rfl | rfl <;> omega

theorem half_first (a b : Int) : Half (b.natAbs : Int) a 1 b 0 := by
  rcases Int.lt_or_le b 0 with hb | hb
  · exact ⟨1, .inl rfl, by simp, by omega, by omega⟩
  · exact ⟨-1, .inr rfl, by simp, by omega, by omega⟩
theorem half_second (a b : Int) : Half (a.natAbs : Int) a 0 b 1 := by
  rcases Int.lt_or_le a 0 with hb | hb
  · exact ⟨-1, .inr rfl, by omega, by simp, by omega⟩
  · exact ⟨1, .inl rfl, by omega, by simp, by omega⟩

/-- What holds of the numbers at each step. -/
structure Inv (a b g x y h u v : Int) : Prop where
  g0 : -400000000 ≤ g ∧ g ≤ 400000000
  h0 : -400000000 ≤ h ∧ h ≤ 400000000
  x0 : -400000000 ≤ x ∧ x ≤ 400000000
  y0 : -400000000 ≤ y ∧ y ≤ 400000000
  u0 : -400000000 ≤ u ∧ u ≤ 400000000
  v0 : -400000000 ≤ v ∧ v ≤ 400000000
  gc : a * x + b * y = g
  hc : a * u + b * v = h
  hx : Half (b.natAbs : Int) g x h u
  hy : Half (a.natAbs : Int) g y h v
  gd : Int.gcd g h = Int.gcd a b

theorem Inv.start (a b : Int) (ha : -400000000 ≤ a ∧ a ≤ 400000000) (hb : -400000000 ≤ b ∧ b ≤ 400000000) : Inv a b a 1 0 b 0 1 :=
  ⟨ha, hb, by omega, by omega, by omega, by omega, by omega, by omega, half_first a b, half_second a b, rfl⟩

theorem gcd_sub_mul (g h q : Int) : Int.gcd h (g - q * h) = Int.gcd g h := by
  rw [Int.gcd_comm g h, show g - q * h = g + h * (-q) from by rw [Int.mul_neg, Int.mul_comm h q]; omega]
  exact Int.gcd_add_mul_left_right h g (-q)

theorem Inv.step {a b g x y h u v : Int} (ha : -400000000 ≤ a ∧ a ≤ 400000000) (hb : -400000000 ≤ b ∧ b ≤ 400000000) (i : Inv a b g x y h u v) (hh : h ≠ 0) :
    Inv a b h u v (g - g.tdiv h * h) (x - g.tdiv h * u) (y - g.tdiv h * v) := by
  have hl := rem_lt g h hh
  have h0 := i.h0
  have kx := i.hx.step
  have ky := i.hy.step
  have bx := kx.small2 hh
  have by' := ky.small2 hh
  refine ⟨i.h0, by omega, i.u0, i.v0, by omega, by omega, i.hc, ?_, kx, ky, ?_⟩
  · have g1 := i.gc
    have h1 := i.hc
    rw [Int.mul_sub, Int.mul_sub]
    have e : ∀ q : Int, a * (q * u) + b * (q * v) = q * h := fun q => by
      rw [← h1, Int.mul_add, Int.mul_left_comm a, Int.mul_left_comm b]
    have e' := e (g.tdiv h)
    omega
  · rw [gcd_sub_mul]; exact i.gd

/-- What the walk needs of one step: no sum and no product is too large. -/
theorem Inv.fits {a b g x y h u v : Int} (ha : -400000000 ≤ a ∧ a ≤ 400000000) (hb : -400000000 ≤ b ∧ b ≤ 400000000) (i : Inv a b g x y h u v) (hh : h ≠ 0) :
    (-400000000 ≤ g.tdiv h ∧ g.tdiv h ≤ 400000000) ∧ (-800000000 ≤ g.tdiv h * h ∧ g.tdiv h * h ≤ 800000000) ∧ (-800000000 ≤ g.tdiv h * u ∧ g.tdiv h * u ≤ 800000000) ∧ (-800000000 ≤ g.tdiv h * v ∧ g.tdiv h * v ≤ 800000000) := by
  have j := i.step ha hb hh
  have g0 := i.g0; have x0 := i.x0; have y0 := i.y0; have h0 := i.h0
  have h1 := j.h0; have u1 := j.u0; have v1 := j.v0
  have q : (g.tdiv h).natAbs ≤ g.natAbs := by rw [Int.natAbs_tdiv]; exact Nat.div_le_self _ _
  refine ⟨by omega, by omega, by omega, by omega⟩

/-- The end: g is the greatest common divisor, but for its sign. -/
theorem Inv.last {a b g x y u v : Int} (i : Inv a b g x y 0 u v) : (g.natAbs : Int) = (Int.gcd a b : Int) := by
  have := i.gd
  rw [Int.gcd_zero_right] at this
  omega

/-! ### Remainders, quotients rounded down -/
theorem gcd_round (x y : Int) : Int.gcd y (x.tmod y) = Int.gcd x y := by
  rw [show x.tmod y = x - x.tdiv y * y from by have := Int.tdiv_mul_add_tmod x y; omega]
  exact gcd_sub_mul x y _
theorem tmod_small (x y : Int) (hy : y ≠ 0) : (x.tmod y).natAbs < y.natAbs := by
  rw [Int.natAbs_tmod]; exact Nat.mod_lt _ (by omega)

theorem ediv_of (n d q r : Int) (hd : 0 < d) (h : n = q * d + r) (h0 : 0 ≤ r) (h1 : r < d) : n / d = q ∧ n % d = r :=
  (Int.ediv_emod_unique hd).2 ⟨by rw [h, Int.mul_comm]; omega, h0, h1⟩
theorem tdiv_up (n d : Int) (hd : 0 < d) (h : 0 ≤ n.tmod d) : n / d = n.tdiv d ∧ n % d = n.tmod d := by
  have e := Int.tdiv_mul_add_tmod n d
  have l := tmod_small n d (by omega)
  exact ediv_of n d _ _ hd (by omega) h (by omega)
theorem tdiv_down (n d : Int) (hd : 0 < d) (h : n.tmod d < 0) : n / d = n.tdiv d - 1 ∧ n % d = n.tmod d + d := by
  have e := Int.tdiv_mul_add_tmod n d
  have l := tmod_small n d (by omega)
  exact ediv_of n d _ _ hd (by rw [Int.sub_mul]; omega) (by omega) (by omega)
theorem tdiv_bd (n d : Int) (h1 : -400000000 ≤ n) (h2 : n ≤ 400000000) : -400000000 ≤ n.tdiv d ∧ n.tdiv d ≤ 400000000 := by
  have q : (n.tdiv d).natAbs ≤ n.natAbs := by rw [Int.natAbs_tdiv]; exact Nat.div_le_self _ _
  omega
theorem ediv_bd (n d : Int) (hd : 0 < d) (h1 : -400000000 ≤ n) (h2 : n ≤ 400000000) : -400000001 ≤ n / d ∧ n / d ≤ 400000000 := by
  have b := tdiv_bd n d h1 h2
  rcases Int.lt_or_le (n.tmod d) 0 with h | h
  · have := (tdiv_down n d hd h).1; omega
  · have := (tdiv_up n d hd h).1; omega
theorem mul_ediv_bd (n d : Int) (hd : 0 < d) : n - d < d * (n / d) ∧ d * (n / d) ≤ n := by
  have e := Int.mul_ediv_add_emod n d
  have l := Int.emod_lt_of_pos n hd
  have l' := Int.emod_nonneg n (show d ≠ 0 by omega)
  omega

theorem iDiv_pos (n d : Int) (hd0 : d ≠ 0) (h : 0 ≤ n.tmod d) : n / d = n.tdiv d ∧ n % d = n.tmod d := by
  rcases Int.lt_or_le 0 d with hd | hd
  · exact tdiv_up n d hd h
  · obtain ⟨c, rfl⟩ : ∃ c, d = -c := ⟨-d, by omega⟩
    rw [Int.ediv_neg, Int.emod_neg, Int.tdiv_neg, Int.tmod_neg]
    rw [Int.tmod_neg] at h
    have := tdiv_up n c (by omega) h
    exact ⟨by rw [this.1], this.2⟩
theorem iDiv_neg (n c : Int) (hc : 0 < c) (h : n.tmod (-c) < 0) : n / -c = n.tdiv (-c) + 1 ∧ n % -c = n.tmod (-c) - -c := by
  rw [Int.ediv_neg, Int.emod_neg, Int.tdiv_neg, Int.tmod_neg]
  rw [Int.tmod_neg] at h
  have := tdiv_down n c hc h
  omega


end Go.Proofs.Ytpknondccajinaa
end

section
/-
  Chapter 1, in the model: |n|.
-/
namespace Go.Proofs.Ytpknondccajinaa
open Go.RowKit

theorem tdiv_bdw (n d : Int) (h1 : -4000000000000000000 ≤ n) (h2 : n ≤ 4000000000000000000) : -4000000000000000000 ≤ n.tdiv d ∧ n.tdiv d ≤ 4000000000000000000 := by
  have q : (n.tdiv d).natAbs ≤ n.natAbs := by rw [Int.natAbs_tdiv]; exact Nat.div_le_self _ _
  omega
theorem sAbs_p (n : Int) (w : World) (h1 : 0 ≤ n) (h2 : n ≤ 9223372036854775807) :
    Calls Try.prog 90 #[.int .i64 n] w fun e w' => e = .returned (.int .i64 n) ∧ w = w' := by
  go_enter Try.func90, Try.ntmps90
  go_wp2
  all_goals
    go_ret
    exact ⟨ret_int (by omega), rfl⟩
theorem sAbs_n (n : Int) (w : World) (h1 : 0 < n) (h2 : n ≤ 9223372036854775807) :
    Calls Try.prog 90 #[.int .i64 (-n)] w fun e w' => e = .returned (.int .i64 n) ∧ w = w' := by
  go_enter Try.func90, Try.ntmps90
  go_wp2
  all_goals
    go_ret
    exact ⟨ret_int (by omega), rfl⟩
theorem sAbs (n : Int) (w : World) (h1 : -9000000000000000000 ≤ n) (h2 : n ≤ 9000000000000000000) :
    Calls Try.prog 90 #[.int .i64 n] w fun e w' => e = .returned (.int .i64 (n.natAbs : Int)) ∧ w = w' := by
  rcases Int.lt_or_le n 0 with h | h
  · obtain ⟨m, rfl⟩ : ∃ m, n = -m := ⟨-n, by omega⟩
    rw [show (((-m).natAbs : Nat) : Int) = m by omega]
    exact sAbs_n m w (by omega) (by omega)
  · rw [show ((n.natAbs : Nat) : Int) = n by omega]
    exact sAbs_p n w (by omega) (by omega)
end Go.Proofs.Ytpknondccajinaa
end

section
/-
  Chapter 1, in the model: GcdOf.
-/
namespace Go.Proofs.Ytpknondccajinaa
open Go.RowKit

set_option maxHeartbeats 400000 in
theorem sGcd (a b : Int) (w : World) (ha : -400000000 ≤ a ∧ a ≤ 400000000) (hb : -400000000 ≤ b ∧ b ≤ 400000000) :
    Calls Try.prog 54 #[.int .i64 a, .int .i64 b] w fun e w' => e = .returned (.int .i64 (Int.gcd a b : Int)) ∧ ∃ n, w' = w.drewN n := by
  obtain ⟨ha1, ha2⟩ := ha
  obtain ⟨hb1, hb2⟩ := hb
  go_enter Try.func54, Try.ntmps54
  go_wp2_with (go_at_call 84; refine (sIsNum_t _ _ (by omega) (by omega)).mono ?_; rintro e w' ⟨rfl, rfl⟩)
  go_loopw [0, 1] (fun x y wr => ∃ p q : Int, x = .int .i64 p ∧ y = .int .i64 q ∧ -400000000 ≤ p ∧ p ≤ 400000000 ∧ -400000000 ≤ q ∧ q ≤ 400000000 ∧ Int.gcd p q = Int.gcd a b ∧ ∃ n, wr = w.drewN n) (fun _ y _ => (intOf y).natAbs)
  case atStart => exact ⟨a, b, rfl, rfl, ha1, ha2, hb1, hb2, rfl, 0, rfl⟩
  case round =>
    obtain ⟨p, q, rfl, rfl, p1, p2, q1, q2, hg, n, rfl⟩ := hrel
    have HG := Lib.hid hg
    clear hg
    by_cases hq : q = 0
    · subst hq
      go_wp2
      all_goals
        go_ret
        exact ⟨by rw [← HG.out, Int.gcd_zero_right]; exact ret_int (by omega), n, rfl⟩
    · have t1 := tmod_small p q hq
      have t2 := gcd_round p q
      have b1 : -400000000 ≤ p.tmod q := by omega
      have b2 : p.tmod q ≤ 400000000 := by omega
      have T1 := Lib.hid t1
      have T2 := Lib.hid t2
      clear t1 t2
      have hq' : (q == 0) = false := by simpa using hq
      go_wp2
      go_quiet (fail)
      go_wp2
      go_roundw
      case rel => exact ⟨q, p.tmod q, rfl, rfl, q1, q2, b1, b2, T2.out.trans HG.out, _, by rw [World.drewN_drewN]⟩
      case measure => simpa [intOf] using T1.out
theorem sGcd_f (a b : Int) (w : World) (h : ¬ ((-400000000 ≤ a ∧ a ≤ 400000000) ∧ (-400000000 ≤ b ∧ b ≤ 400000000))) :
    Calls Try.prog 54 #[.int .i64 a, .int .i64 b] w fun e w' => e = .returned (.int .i64 0) ∧ w = w' := by
  by_cases ha : -400000000 ≤ a ∧ a ≤ 400000000
  · have hb : b < -400000000 ∨ 400000000 < b := by omega
    clear h
    go_enter Try.func54, Try.ntmps54
    go_wp2_with fail
    refine (sIsNum_t _ _ ha.1 ha.2).mono ?_
    rintro e w' ⟨rfl, rfl⟩
    go_wp2_with fail
    refine (sIsNum_f _ _ hb).mono ?_
    rintro e w' ⟨rfl, rfl⟩
    go_wp2_with fail
    go_ret
    exact ⟨rfl, rfl⟩
  · have ha' : a < -400000000 ∨ 400000000 < a := by omega
    clear h ha
    go_enter Try.func54, Try.ntmps54
    go_wp2_with fail
    refine (sIsNum_f _ _ ha').mono ?_
    rintro e w' ⟨rfl, rfl⟩
    go_wp2_with fail
    go_ret
    exact ⟨rfl, rfl⟩

end Go.Proofs.Ytpknondccajinaa
end

section
/-
  Chapter 7, in the model: a row made primitive.
-/
namespace Go.Proofs.Ytpknondccajinaa
set_option maxRecDepth 100000
open Go.RowKit

/-- The worlds of the walk: the argument's block, the row's block, nothing else is touched. -/
structure PrSt (w : World) (r c : Nat) (g N cap : Nat) (ys : List Int) (wr : World) : Prop where
  blk : Blk3 wr w.heap.size 26 (.int .i64 r) (.int .i64 c) (.slice (some ⟨g, 0, none⟩) N cap)
  ints : Ints wr g ys
  grw : w.grownBy wr (some g)
theorem PrSt.put {w : World} {r c g N cap : Nat} {ys : List Int} {wr : World} (h : PrSt w r c g N cap ys wr) (hne : w.heap.size ≠ g) (P : Nat) (z : Int) : PrSt w r c g N cap (ys.set P z) (wr.setCell ⟨g, P, none⟩ (.int .i64 z)) := ⟨h.blk.far hne _, h.ints.set P z, grown_set_one h.grw rfl _⟩
theorem PrSt.drewN {w : World} {r c g N cap : Nat} {ys : List Int} {wr : World} (h : PrSt w r c g N cap ys wr) (n : Nat) : PrSt w r c g N cap ys (wr.drewN n) := ⟨h.blk.drewN n, h.ints.drewN n, grown_drewN_one h.grw n⟩
theorem prV_one {c : Nat} {v : Nat → Int} {k : Nat} (h : gcdN c v ≠ 0) : prV c v k = (sgnN c v * v k).tdiv (gcdN c v) := if_neg h
theorem prV_nil {c : Nat} {v : Nat → Int} {k : Nat} (h : gcdN c v = 0) : prV c v k = v k := if_pos h
theorem sgn_step {n : Nat} {f : Nat → Int} : sgnN (n + 1) f = if sgnN n f = 0 ∧ f n ≠ 0 then (if f n < 0 then -1 else 1) else sgnN n f := rfl
set_option maxHeartbeats 2000000 in
theorem sPrim (r c i N g cap : Nat) (xs : List Int) (w : World) (hN : N = r * c) (hx : xs.length = N) (hr : r ≤ 24) (hc : c ≤ 24) (hi : i < r) (nx : nums xs = true) (hg : Ints w g xs) :
    Calls Try.prog 85 #[.agg #[.int .i64 r, .int .i64 c, .slice (some ⟨g, 0, none⟩) N cap], .int .i64 i] w (fun e w' => Void e ∧ Ints w' g (prL r c i xs) ∧ w.grownBy w' (some g)) := by
  have hle : r * c ≤ 24 * 24 := Nat.mul_le_mul hr hc
  rw [← hN] at hle
  have HN := Lib.hid hN
  have HX := Lib.hid hx
  have NX := Lib.hid nx
  have lg := hg.lt
  have ST : Hid (PrSt w r c g N cap xs (w.alloc (.cells #[.int .i64 r, .int .i64 c, .slice (some ⟨g, 0, none⟩) N cap] 26))) := ⟨Blk3.at_ _ _ _ _ rfl, hg.old _, World.grownBy_alloc _ _ _⟩
  have IX : Hid (∀ j, j < c → ∃ P : Nat, i * c + j = P ∧ P < N ∧ IntKind.i64.wrap ((i : Int) * (c : Int)) = (i : Int) * (c : Int) ∧ IntKind.i64.wrap ((i : Int) * (c : Int) + (j : Int)) = (P : Int)) := fun j hj => by
    have h1 : i * c + j < r * c := idx_lt hi hj
    have c1 : (i : Int) * (c : Int) = ((i * c : Nat) : Int) := (Int.natCast_mul _ _).symm
    refine ⟨i * c + j, rfl, by omega, IntWalk.i64_in _ (by rw [c1]; omega), ?_⟩
    rw [show (i : Int) * (c : Int) + (j : Int) = ((i * c + j : Nat) : Int) by rw [c1]; omega]
    exact IntWalk.i64_in _ (by omega)
  obtain ⟨v, hv⟩ : ∃ v, mxC c xs i = v := ⟨_, rfl⟩
  have VN : Hid (∀ j, j < c → NumP (v j)) := fun j hj => by rw [← hv]; exact mx_nums (by rw [hx, hN]) nx hi hj
  have VX : Hid (∀ j P, i * c + j = P → xs.getD P 0 = v j) := fun j P h => by rw [← hv, ← h]; rfl
  have PV : Hid (prL r c i xs = rowTo r c i (prV c v) xs c) := by show _ = _; rw [rowTo_all, prL_row, hv]
  have RZ : Hid (rowTo r c i (prV c v) xs 0 = xs) := rowTo_zero (by rw [hx, hN])
  have PZ : Hid (∀ j, gcdN c v = 0 → rowTo r c i (prV c v) xs j = xs) := fun j h => by
    refine (tab_ext (by rw [hx, hN]) fun p q hp hq => ?_).symm
    by_cases e : p = i ∧ q < j
    · obtain ⟨rfl, hqj⟩ := e
      rw [if_pos ⟨rfl, hqj⟩, prV_nil h, ← hv]; rfl
    · rw [if_neg e]; rfl
  have UN : Hid (∀ j, j < c → NumP (prV c v j)) := fun j hj => prV_num (fun k hk => VN.out k hk) hj
  clear hN hx nx hg hv
  go_enter Try.func85, Try.ntmps85
  go_wp2_with fail
  generalize w.alloc (.cells #[.int .i64 r, .int .i64 c, .slice (some ⟨g, 0, none⟩) N cap] 26) = W at ST ⊢
  go_loopw [4, 5, 6, 7] (fun v4 v5 v6 _ wr => ∃ j : Nat, v6 = .int .i64 j ∧ j ≤ c ∧ v4 = .int .i64 (gcdN j v) ∧ v5 = .int .i64 (sgnN j v) ∧ PrSt w r c g N cap xs wr) (fun _ _ v6 _ _ => c - (intOf v6).toNat)
  case atStart => exact ⟨0, rfl, by omega, rfl, rfl, ST.out⟩
  case round =>
    clear ST
    obtain ⟨j, rfl, hj, rfl, rfl, hst⟩ := hrel
    have ST := Lib.hid hst
    clear hst
    obtain ⟨p0, p1, p2, -, -, -⟩ := ST.out.blk.all
    by_cases hlt : j < c
    · obtain ⟨P, hP, hPN, u1, u2⟩ := IX.out j hlt
      have P0 : (0 : Int) ≤ (P : Int) := by omega
      have P1 : (P : Int) < (N : Int) := by omega
      have hcell := ST.out.ints.cell (i := P) (by rw [HX.out]; exact hPN)
      rw [VX.out j P hP] at hcell
      have hb := VN.out j hlt
      have hgb := gcdN_num (n := j) (f := v) (fun k hk => VN.out k (by omega))
      have GS : Hid (gcdN (j + 1) v = ((gcdN j v).gcd (v j) : Int)) := rfl
      have SS := Lib.hid (sgn_step (n := j) (f := v))
      generalize hs0 : sgnN j v = s at SS
      generalize gcdN j v = gg at hgb GS
      obtain ⟨x, hx⟩ : ∃ x, v j = x := ⟨_, rfl⟩
      rw [hx] at hcell hb GS SS
      unfold NumP at hb hgb
      have GC : Hid (∀ w', Calls Try.prog 54 #[.int .i64 gg, .int .i64 x] w' fun e w2 => e = .returned (.int .i64 (gg.gcd x : Int)) ∧ ∃ n, w2 = w'.drewN n) := fun w' => sGcd gg x w' hgb hb
      clear hP hx hs0
      by_cases h1 : s = 0 ∧ x ≠ 0
      · obtain ⟨rfl, hx0⟩ := h1
        have n1 : (x != 0) = true := by simpa using hx0
        have n2 : (x == 0) = false := by simpa using hx0
        rw [if_pos ⟨rfl, hx0⟩] at SS
        rcases Int.lt_or_lt_of_ne hx0 with hneg | hpos
        · obtain ⟨y, rfl⟩ : ∃ y, x = -y := ⟨-x, by omega⟩
          rw [if_pos hneg] at SS
          have q1 : Int.tdiv (-y) y = -1 := by rw [Int.neg_tdiv, Int.tdiv_self (by omega)]
          have q2 : (y == 0) = false := by simp; omega
          have q3 : IntKind.i64.wrap (-1) = -1 := by decide
          have q4 : ¬ y = 0 := by omega
          clear hx0
          go_wp2_with fail
          refine (sAbs_n y _ (by omega) (by omega)).mono ?_
          rintro e w2 ⟨rfl, rfl⟩
          go_wp2_with fail
          refine (GC.out _).mono ?_
          rintro e w2 ⟨rfl, nq, rfl⟩
          go_wp2_with fail
          go_roundw
          case rel => exact ⟨j + 1, by go_num, by omega, by first | (rw [GS.out]; done) | (rw [GS.out]; simp), by rw [SS.out], by first | exact ST.out.drewN nq | exact (ST.out.drewN 1).drewN nq⟩
          case measure => simp [intOf]; omega
        · rw [if_neg (by omega)] at SS
          have q1 : Int.tdiv x x = 1 := Int.tdiv_self (by omega)
          have q3 : IntKind.i64.wrap 1 = 1 := by decide
          have q4 : ¬ x = 0 := by omega
          clear hx0
          go_wp2_with fail
          refine (sAbs_p x _ (by omega) (by omega)).mono ?_
          rintro e w2 ⟨rfl, rfl⟩
          go_wp2_with fail
          refine (GC.out _).mono ?_
          rintro e w2 ⟨rfl, nq, rfl⟩
          go_wp2_with fail
          go_roundw
          case rel => exact ⟨j + 1, by go_num, by omega, by first | (rw [GS.out]; done) | (rw [GS.out]; simp), by rw [SS.out], by first | exact ST.out.drewN nq | exact (ST.out.drewN 1).drewN nq⟩
          case measure => simp [intOf]; omega
      · rw [if_neg h1] at SS
        rcases Bool.eq_false_or_eq_true (s == 0) with n1 | n1
        · have hs : s = 0 := by simpa using n1
          have hx0 : x = 0 := Classical.byContradiction fun h2 => h1 ⟨hs, h2⟩
          have n2 : (x != 0) = false := by simp [hx0]
          have n3 : (x == 0) = true := by simp [hx0]
          clear hs hx0 h1
          go_wp2_with fail
          refine (GC.out _).mono ?_
          rintro e w2 ⟨rfl, nq, rfl⟩
          go_wp2_with fail
          go_roundw
          case rel => exact ⟨j + 1, by go_num, by omega, by first | (rw [GS.out]; done) | (rw [GS.out]; simp), by rw [SS.out], by first | exact ST.out.drewN nq | exact (ST.out.drewN 1).drewN nq⟩
          case measure => simp [intOf]; omega
        · clear h1
          go_wp2_with fail
          refine (GC.out _).mono ?_
          rintro e w2 ⟨rfl, nq, rfl⟩
          go_wp2_with fail
          go_roundw
          case rel => exact ⟨j + 1, by go_num, by omega, by first | (rw [GS.out]; done) | (rw [GS.out]; simp), by rw [SS.out], by first | exact ST.out.drewN nq | exact (ST.out.drewN 1).drewN nq⟩
          case measure => simp [intOf]; omega
    · obtain rfl : c = j := by omega
      clear hlt
      have SG := sgnN_or c v
      have GB := gcdN_num (n := c) (f := v) (fun k hk => VN.out k hk)
      have G0 := gcdN_nonneg c v
      have PO : Hid (∀ k, gcdN c v ≠ 0 → prV c v k = (sgnN c v * v k).tdiv (gcdN c v)) := fun k h => prV_one h
      have RT : Hid (∀ k, k < c → (rowTo r c i (prV c v) xs k).set (i * c + k) (prV c v k) = rowTo r c i (prV c v) xs (k + 1)) := fun k hk => rowTo_step hi hk
      have RX : Hid (∀ k, k < c → (rowTo r c i (prV c v) xs k).getD (i * c + k) 0 = xs.getD (i * c + k) 0) := fun k hk => rowTo_old hi hk (.inr (Nat.le_refl _))
      have RL : Hid (∀ k, (rowTo r c i (prV c v) xs k).length = N) := fun k => by rw [rowTo_length, HN.out]
      rw [← RZ.out] at ST
      have SX : Hid (xs = rowTo r c i (prV c v) xs 0) := RZ.out.symm
      generalize prV c v = u at PO PV RZ PZ UN RT RX RL ST SX
      generalize sgnN c v = sg at SG PO ⊢
      generalize gcdN c v = gg at GB G0 PO PZ ⊢
      unfold NumP at GB
      obtain ⟨gb1, gb2⟩ := GB
      go_wp2_with fail
      clear p0 p1 p2
      go_loopw [8] (fun v8 wr => ∃ j : Nat, v8 = .int .i64 j ∧ j ≤ c ∧ PrSt w r c g N cap (rowTo r c i u xs j) wr) (fun v8 _ => c - (intOf v8).toNat)
      case atStart => exact ⟨0, rfl, by omega, ST.out⟩
      case round =>
        clear ST
        obtain ⟨j, rfl, hj, hst⟩ := hrel
        have ST := Lib.hid hst
        clear hst
        obtain ⟨p0, p1, p2, -, -, -⟩ := ST.out.blk.all
        by_cases hlt : j < c
        · by_cases hg0 : 0 < gg
          · obtain ⟨P, hP, hPN, u1, u2⟩ := IX.out j hlt
            have P0 : (0 : Int) ≤ (P : Int) := by omega
            have P1 : (P : Int) < (N : Int) := by omega
            have hcell := ST.out.ints.cell (i := P) (by rw [RL.out]; exact hPN)
            have hfr := ST.out.ints.free P
            rw [← hP, RX.out j hlt, VX.out j _ rfl, hP] at hcell
            have hb := VN.out j hlt
            have ho := UN.out j hlt
            rw [PO.out j (by omega)] at ho
            have RS := Lib.hid (RT.out j hlt)
            rw [PO.out j (by omega), hP] at RS
            obtain ⟨x, hx⟩ : ∃ x, v j = x := ⟨_, rfl⟩
            rw [hx] at hcell hb ho RS
            have hy : NumP (sg * x) := by
              unfold NumP at hb ⊢
              rcases SG with rfl | rfl | rfl <;> omega
            unfold NumP at hb hy ho
            have z1 : IntKind.i64.wrap (sg * x) = sg * x := IntWalk.i64_in _ (by omega)
            have z2 : IntKind.i64.wrap ((sg * x).tdiv gg) = (sg * x).tdiv gg := IntWalk.i64_in _ (by omega)
            have z3 : (gg == 0) = false := by simp; omega
            have z4 : ¬ gg = 0 := by omega
            clear hx hP
            go_wp2_with fail
            go_still_tail 23, (by kernel_rfl)
            go_wp2_with fail
            go_roundw
            case rel =>
              refine ⟨j + 1, by go_num, by omega, ?_⟩
              rw [← RS.out]
              first | exact ST.out.put (by omega) P _ | exact (ST.out.drewN 1).put (by omega) P _
            case measure => simp [intOf]; omega
          · have hg1 : gg = 0 := by omega
            have EQ : Hid (prL r c i xs = rowTo r c i u xs j) := by show _ = _; rw [PV.out, PZ.out c hg1, PZ.out j hg1]
            go_wp2_with fail
            go_end0
            exact ⟨rfl, by rw [EQ.out]; exact ST.out.ints, ST.out.grw⟩
        · obtain rfl : c = j := by omega
          clear hlt
          go_wp2_with fail
          go_end0
          exact ⟨rfl, by rw [PV.out]; exact ST.out.ints, ST.out.grw⟩
end Go.Proofs.Ytpknondccajinaa
end

section
/-
  A row of ints of a call's own, that append may go on with.
-/
namespace Go.Proofs.Ytpknondccajinaa
open Go.RowKit

def OwnQ (B : Nat) (w : World) (v : Value) (zs : List Int) : Prop := w.ownsRow B 3 1 v zs.length (zs.map (Value.int .i64))
theorem OwnQ.le {B : Nat} {w : World} {v : Value} {zs : List Int} (h : OwnQ B w v zs) {k : Nat} (hk : v.ownBlock = some k) : B ≤ k := by
  rcases h.2 with ⟨rfl, -⟩ | ⟨g, cap, cur, rfl, hB, -⟩
  · cases hk
  · simp [Value.ownBlock] at hk; omega
theorem OwnQ.move {B : Nat} {w w' : World} {v : Value} {zs : List Int} (h : OwnQ B w v zs) (hb : ∀ k, v.ownBlock = some k → w'.heap[k]? = w.heap[k]?) : OwnQ B w' v zs := by
  obtain ⟨h1, ⟨h2, h3⟩ | ⟨g, cap, cur, rfl, hB, hg, rest⟩⟩ := h
  · exact ⟨h1, .inl ⟨h2, h3⟩⟩
  · exact ⟨h1, .inr ⟨g, cap, cur, rfl, hB, (hb g rfl).trans hg, rest⟩⟩
theorem OwnQ.lt {B : Nat} {w : World} {v : Value} {zs : List Int} (h : OwnQ B w v zs) {k : Nat} (hk : v.ownBlock = some k) : k < w.heap.size := by
  rcases h.2 with ⟨rfl, -⟩ | ⟨g, cap, cur, rfl, hB, hg, -⟩
  · cases hk
  · simp only [Value.ownBlock, Option.some.injEq] at hk
    subst hk
    exact lt_of_block hg
theorem OwnQ.one {B rb : Nat} {w w' : World} {v : Value} {zs : List Int} (h : OwnQ B w v zs) (hg : w.grownBy w' (some rb)) (hr : rb < B) : OwnQ B w' v zs :=
  h.move fun k hk => hg.block k (h.lt hk) (by have := h.le hk; simp; omega)
theorem OwnQ.drewN {B : Nat} {w : World} {v : Value} {zs : List Int} (h : OwnQ B w v zs) (n : Nat) : OwnQ B (w.drewN n) v zs := h
theorem OwnQ.keep {B : Nat} {w w' : World} {v : Value} {zs : List Int} (h : OwnQ B w v zs) (hb : Below w.heap.size w w') : OwnQ B w' v zs := h.move fun k hk => hb.block k (h.lt hk)
theorem OwnQ.lower {B B' : Nat} {w : World} {v : Value} {zs : List Int} (h : OwnQ B w v zs) (hB : B' ≤ B) : OwnQ B' w v zs := by
  obtain ⟨h1, h2 | ⟨g, cap, cur, e, hg, rest⟩⟩ := h
  · exact ⟨h1, .inl h2⟩
  · exact ⟨h1, .inr ⟨g, cap, cur, e, by omega, rest⟩⟩
theorem OwnQ.form {B : Nat} {w : World} {v : Value} {zs : List Int} (h : OwnQ B w v zs) : ∃ a c, v = .slice a zs.length c := by
  obtain ⟨h1, ⟨h2, h3⟩ | ⟨g, cap, cur, e, hB, hg, rest⟩⟩ := h
  · exact ⟨_, _, by rw [h2, h3]⟩
  · exact ⟨_, _, e⟩
theorem OwnQ.own {B : Nat} {w : World} {v : Value} {zs : List Int} (h : OwnQ B w v zs) (hn : zs.length ≤ 16777216) : Own B w v zs := Own.of_row h hn
theorem OwnQ.nil (B : Nat) (w : World) : OwnQ B w (.slice none 0 0) [] := ⟨rfl, .inl ⟨rfl, rfl⟩⟩
theorem OwnQ.none_ {B : Nat} {w : World} {g : Nat} (hB : B ≤ g) (h : IntsC w g 0 []) : OwnQ B w (.slice (some ⟨g, 0, none⟩) 0 0) [] := h.row hB
end Go.Proofs.Ytpknondccajinaa
end

section
/-
  Chapter 7, in the model: the elimination.
-/
namespace Go.Proofs.Ytpknondccajinaa
set_option maxRecDepth 100000
open Go.RowKit

def pvI (pv : List Nat) : List Int := pv.map fun (k : Nat) => (k : Int)
/-- The worlds of the walk: the copy, the result's block, the pivots. -/
structure EcSt (w : World) (B b rb r c g N cap : Nat) (ys : List Int) (v : Value) (pv : List Nat) (wr : World) : Prop where
  blk : Blk3 wr b 26 (.int .i64 r) (.int .i64 c) (.slice (some ⟨g, 0, none⟩) N cap)
  ret : Blk3 wr rb 26 (.int .i64 0) (.int .i64 0) (.slice none 0 0)
  ints : Ints wr g ys
  own : OwnQ B wr v (pvI pv)
  bel : Below w.heap.size w wr
  le : B ≤ wr.heap.size
theorem EcSt.one {w : World} {B b rb r c g N cap : Nat} {ys ys' : List Int} {v : Value} {pv : List Nat} {wr w' : World} (h : EcSt w B b rb r c g N cap ys v pv wr) (hi : Ints w' g ys') (hg : wr.grownBy w' (some g)) (hb : b ≠ g) (hr : rb ≠ g) (hB : g < B) (hw : w.heap.size ≤ g) : EcSt w B b rb r c g N cap ys' v pv w' :=
  ⟨h.blk.keepOne hg hb, h.ret.keepOne hg hr, hi, h.own.one hg hB, h.bel.trans (below_of_one hg hw h.bel.size), Nat.le_trans h.le hg.size⟩
theorem EcSt.put {w : World} {B b rb r c g N cap : Nat} {ys : List Int} {v : Value} {pv : List Nat} {wr : World} (h : EcSt w B b rb r c g N cap ys v pv wr) (hb : b ≠ g) (hr : rb ≠ g) (hB : g < B) (hw : w.heap.size ≤ g) (P : Nat) (z : Int) : EcSt w B b rb r c g N cap (ys.set P z) v pv (wr.setCell ⟨g, P, none⟩ (.int .i64 z)) :=
  h.one (h.ints.set P z) (grown_set_one (World.grownBy.refl _ _) rfl _) hb hr hB hw
theorem EcSt.drewN {w : World} {B b rb r c g N cap : Nat} {ys : List Int} {v : Value} {pv : List Nat} {wr : World} (h : EcSt w B b rb r c g N cap ys v pv wr) (n : Nat) : EcSt w B b rb r c g N cap ys v pv (wr.drewN n) :=
  ⟨h.blk.drewN n, h.ret.drewN n, h.ints.drewN n, h.own.drewN n, below_drewN h.bel n, h.le⟩
theorem prL_self {r c i : Nat} {xs : List Int} (hx : xs.length = r * c) (h : i < r → Norm c (mxC c xs i)) : prL r c i xs = xs := by
  rw [prL_row]
  exact rowL_self hx fun hi q hq => prV_id (h hi) hq
theorem EcSt.drew {w : World} {B b rb r c g N cap : Nat} {ys : List Int} {v : Value} {pv : List Nat} {wr : World} (h : EcSt w B b rb r c g N cap ys v pv wr) : EcSt w B b rb r c g N cap ys v pv wr.drew := h.drewN 1
/-- What the elimination gives. -/
def EchP (w : World) (r c : Nat) (o : Option (List Int × List Nat)) (e : Ending) (w' : World) : Prop :=
  (∃ (va vb : Value) (ys : List Int) (pv : List Nat), o = some (ys, pv) ∧ e = .returned (.tuple #[.agg #[.int .i64 r, .int .i64 c, va], vb, .bool true]) ∧ Own w.heap.size w' va ys ∧ Own w.heap.size w' vb (pvI pv) ∧ (∀ k, va.ownBlock = some k → vb.ownBlock ≠ some k) ∧ Below w.heap.size w w')
  ∨ (∃ vb : Value, o = none ∧ e = .returned (.tuple #[.agg #[.int .i64 0, .int .i64 0, .slice none 0 0], vb, .bool false]) ∧ Own w.heap.size w' vb [] ∧ Below w.heap.size w w')
theorem OwnQ.far {B : Nat} {w : World} {v : Value} {zs : List Int} (h : OwnQ B w v zs) {a : Addr} (ha : a.block < B) (u : Value) : OwnQ B (w.setCell a u) v zs :=
  h.move fun k hk => Below.heap_setCell w a u k (by have := h.le hk; omega)
theorem pvI_length (pv : List Nat) : (pvI pv).length = pv.length := List.length_map ..
theorem EcSt.end_ {w : World} {B b rb r c g N cap : Nat} {ys : List Int} {q : Option Addr} {n qc : Nat} {pv : List Nat} {wr : World} (h : EcSt w B b rb r c g N cap ys (.slice q n qc) pv wr) (hl : ys.length = N) (hcap : N ≤ cap) (hN : N ≤ 576) (hpv : pv.length ≤ 24) (hgB : g < B) (hw : w.heap.size ≤ g) (hrw : w.heap.size ≤ rb) (hrg : rb ≠ g) (hrB : rb < B) (x y z : Value) :
    EchP w r c (some (ys, pv)) (.returned (.tuple #[.agg #[.int .i64 r, .int .i64 c, .slice (some ⟨g, 0, none⟩) N cap], .slice q n qc, .bool true])) (((wr.setCell ⟨rb, 0, none⟩ x).setCell ⟨rb, 1, none⟩ y).setCell ⟨rb, 2, none⟩ z) := by
  refine .inl ⟨_, _, ys, pv, rfl, rfl, .inr ⟨g, cap, by rw [hl], hw, ?_, by omega, by omega⟩, ?_, fun k hk e => ?_, ?_⟩
  · exact ((h.ints.far (a := ⟨rb, 0, none⟩) hrg.symm x).far (a := ⟨rb, 1, none⟩) hrg.symm y).far (a := ⟨rb, 2, none⟩) hrg.symm z
  · exact ((((h.own.far (a := ⟨rb, 0, none⟩) hrB x).far (a := ⟨rb, 1, none⟩) hrB y).far (a := ⟨rb, 2, none⟩) hrB z).lower (by omega)).own (by rw [pvI_length]; omega)
  · simp only [Value.ownBlock, Option.some.injEq] at hk
    have := h.own.le e
    omega
  · exact ((h.bel.setCell hrw x).setCell hrw y).setCell hrw z
theorem EcSt.bad {w : World} {B b rb r c g N cap : Nat} {ys : List Int} {v : Value} {pv : List Nat} {wr : World} (h : EcSt w B b rb r c g N cap ys v pv wr) (hw : w.heap.size ≤ B) (hrw : w.heap.size ≤ rb) (hrB : rb < B) (x y z : Value) :
    EchP w r c none (.returned (.tuple #[.agg #[.int .i64 0, .int .i64 0, .slice none 0 0], .slice (some ⟨wr.heap.size, 0, none⟩) 0 0, .bool false])) ((((wr.alloc (.cells #[] 3)).setCell ⟨rb, 0, none⟩ x).setCell ⟨rb, 1, none⟩ y).setCell ⟨rb, 2, none⟩ z) := by
  have hl := h.le
  have o : OwnQ B (wr.alloc (.cells #[] 3)) (.slice (some ⟨wr.heap.size, 0, none⟩) 0 0) [] := OwnQ.none_ h.le ⟨Nat.zero_le _, [], rfl, heap_alloc_new wr _⟩
  refine .inr ⟨_, rfl, rfl, ?_, ?_⟩
  · exact ((((o.far (a := ⟨rb, 0, none⟩) hrB x).far (a := ⟨rb, 1, none⟩) hrB y).far (a := ⟨rb, 2, none⟩) hrB z).lower hw).own (by simp)
  · exact (((h.bel.alloc h.bel.size _).setCell hrw x).setCell hrw y).setCell hrw z
theorem tdiv_bb {x y b : Int} (h1 : -b ≤ x) (h2 : x ≤ b) : -b ≤ x.tdiv y ∧ x.tdiv y ≤ b := by
  have h := Int.natAbs_tdiv_le_natAbs x y
  omega
theorem swC_nums {r c p t : Nat} {xs : List Int} (hx : xs.length = r * c) (hn : nums xs = true) (hp : p < r) (ht : t < r) : nums (swC p t c xs) = true := nums_true fun k hk => by
  rw [swC_length, hx] at hk
  have hc : 0 < c := by
    rcases Nat.eq_zero_or_pos c with e | e
    · subst e; omega
    · exact e
  have e : k = k / c * c + k % c := by rw [Nat.mul_comm]; exact (Nat.div_add_mod k c).symm
  have h1 : k / c < r := Nat.div_lt_of_lt_mul (by rw [Nat.mul_comm]; exact hk)
  have := swC_at (p := p) (t := t) hx h1 (Nat.mod_lt k hc)
  unfold mxC at this
  rw [e, this]
  refine mx_nums hx hn ?_ (Nat.mod_lt k hc)
  split
  · exact ht
  · split <;> omega
theorem EcSt.app {w : World} {B b rb r c g N cap : Nat} {ys : List Int} {v v' : Value} {pv pv' : List Nat} {wr w' : World} (h : EcSt w B b rb r c g N cap ys v pv wr) {o : Obj} (hg : (wr.alloc o).grownBy w' v.ownBlock) (ho : OwnQ B w' v' (pvI pv')) (hb : b < B) (hr : rb < B) (hgB : g < B) (hw : w.heap.size ≤ B) : EcSt w B b rb r c g N cap ys v' pv' w' := by
  have keep : ∀ k, k < B → k < wr.heap.size → w'.heap[k]? = wr.heap[k]? := fun k hk hl => (hg.block k (by simp; omega) (fun e => by have := h.own.le e.symm; omega)).trans (Below.heap_alloc wr o k hl)
  have hs := hg.size
  simp at hs
  have hl := h.le
  exact ⟨(keep b hb h.blk.lt).trans h.blk, (keep rb hr h.ret.lt).trans h.ret, h.ints.move (keep g hgB h.ints.lt), ho, h.bel.trans ⟨hg.os, hg.tape, hg.output, by omega, fun k hk => keep k (by omega) (by omega)⟩, by omega⟩
set_option maxHeartbeats 4000000 in
theorem sEch (r c N : Nat) (a : Option Addr) (m : Nat) (xs : List Int) (w : World) (h : Rd w a xs) (ha : Spot a) (hx : xs.length = N) (hN : N = r * c) (hr : r ≤ 24) (hc : c ≤ 24) (nx : nums xs = true) :
    Calls Try.prog 45 #[.agg #[.int .i64 r, .int .i64 c, .slice a N m]] w (EchP w r c (echM r c xs)) := by
  have hle : r * c ≤ 24 * 24 := Nat.mul_le_mul hr hc
  rw [← hN] at hle
  have CP : Hid (∀ w', Below w.heap.size w w' → Calls Try.prog 58 #[.agg #[.int .i64 r, .int .i64 c, .slice a N m]] w' (fun e w2 => ∃ g cap : Nat, e = .returned (.agg #[.int .i64 r, .int .i64 c, .slice (some ⟨g, 0, none⟩) N cap]) ∧ w'.heap.size ≤ g ∧ IntsC w2 g cap xs ∧ Below w'.heap.size w' w2)) := fun w' hb => sCopyA r c a m N xs w' (h.below hb) ha hx (by omega)
  have IX : Hid (∀ i j, i < r → j < c → ∃ P : Nat, i * c + j = P ∧ P < N ∧ IntKind.i64.wrap ((i : Int) * (c : Int)) = (i : Int) * (c : Int) ∧ IntKind.i64.wrap ((i : Int) * (c : Int) + (j : Int)) = (P : Int)) := fun i j hi hj => by
    have h1 : i * c + j < r * c := idx_lt hi hj
    have c1 : (i : Int) * (c : Int) = ((i * c : Nat) : Int) := (Int.natCast_mul _ _).symm
    refine ⟨i * c + j, rfl, by omega, IntWalk.i64_in _ (by rw [c1]; omega), ?_⟩
    rw [show (i : Int) * (c : Int) + (j : Int) = ((i * c + j : Nat) : Int) by rw [c1]; omega]
    exact IntWalk.i64_in _ (by omega)
  have HR : Hid (echC r c c 0 (prTo r c r xs) [] = echM r c xs) := rfl
  have PR : Hid (∀ ys pv, echM r c xs = some (ys, pv) → (∀ i, i < r → prL r c i ys = ys) ∧ pv.length ≤ r ∧ ys.length = N ∧ nums ys = true) := fun ys pv he => by
    obtain ⟨h1, -, -, h4, h5, h6⟩ := echM_says (by rw [hx, hN]) nx he
    exact ⟨fun i hi => prL_self h4 fun hi => h6 i hi, h1.le, by rw [h4, hN], h5⟩
  generalize echM r c xs = RES at HR PR ⊢
  have HN := Lib.hid hN
  have HX := Lib.hid hx
  have NX := Lib.hid nx
  clear hN hx nx h ha
  go_enter Try.func45, Try.ntmps45
  go_upto_region 1 with fail
  have K0 : Hid (Blk3 ((w.alloc (.cells #[.int .i64 r, .int .i64 c, .slice a N m] 26)).alloc (.cells #[.int .i64 0, .int .i64 0, .slice none 0 0] 26)) w.heap.size 26 (.int .i64 r) (.int .i64 c) (.slice a N m)) := (Blk3.at_ _ _ _ _ rfl).old _
  have R0 : Hid (Blk3 ((w.alloc (.cells #[.int .i64 r, .int .i64 c, .slice a N m] 26)).alloc (.cells #[.int .i64 0, .int .i64 0, .slice none 0 0] 26)) (w.heap.size + 1) 26 (.int .i64 0) (.int .i64 0) (.slice none 0 0)) := Blk3.at_ _ _ _ _ (by simp)
  have B0 : Hid (Below w.heap.size w ((w.alloc (.cells #[.int .i64 r, .int .i64 c, .slice a N m] 26)).alloc (.cells #[.int .i64 0, .int .i64 0, .slice none 0 0] 26))) := ((Below.refl _ _).alloc (Nat.le_refl _) _).alloc (by simp) _
  have S0 : Hid (((w.alloc (.cells #[.int .i64 r, .int .i64 c, .slice a N m] 26)).alloc (.cells #[.int .i64 0, .int .i64 0, .slice none 0 0] 26)).heap.size = w.heap.size + 2) := by show _ = _; simp
  generalize (w.alloc (.cells #[.int .i64 r, .int .i64 c, .slice a N m] 26)).alloc (.cells #[.int .i64 0, .int .i64 0, .slice none 0 0] 26) = W0 at K0 R0 B0 S0 ⊢
  obtain ⟨p0, p1, p2, -, -, -⟩ := K0.out.all
  go_wp2_with fail
  refine (CP.out _ B0.out).mono ?_
  rintro e w1 ⟨g, cap, rfl, hg, hi, hb⟩
  have gl := hi.lt
  have hcap := hi.le
  have s0 := S0.out
  have I0 := Lib.hid (hi.ints.old (.cells #[.int .i64 r, .int .i64 c, .slice (some ⟨g, 0, none⟩) N cap] 26))
  have R1 := Lib.hid ((R0.out.step hb).old (.cells #[.int .i64 r, .int .i64 c, .slice (some ⟨g, 0, none⟩) N cap] 26))
  have K1 : Hid (Blk3 (w1.alloc (.cells #[.int .i64 r, .int .i64 c, .slice (some ⟨g, 0, none⟩) N cap] 26)) w1.heap.size 26 (.int .i64 r) (.int .i64 c) (.slice (some ⟨g, 0, none⟩) N cap)) := Blk3.at_ _ _ _ _ rfl
  have Bx := B0.out.trans (hb.mono (by omega))
  have B1 := Lib.hid (Bx.alloc Bx.size (.cells #[.int .i64 r, .int .i64 c, .slice (some ⟨g, 0, none⟩) N cap] 26))
  have S1 : Hid ((w1.alloc (.cells #[.int .i64 r, .int .i64 c, .slice (some ⟨g, 0, none⟩) N cap] 26)).heap.size = w1.heap.size + 1) := by show _ = _; simp
  rw [HX.out] at hcap
  have sb := hb.size
  clear hb hi Bx K0 R0 B0 S0 p0 p1 p2
  go_upto_region 2 with fail
  generalize w1.alloc (.cells #[.int .i64 r, .int .i64 c, .slice (some ⟨g, 0, none⟩) N cap] 26) = W at I0 R1 K1 B1 S1 ⊢
  obtain ⟨b, hbb⟩ : ∃ b, w1.heap.size = b := ⟨_, rfl⟩
  rw [hbb] at K1 S1 gl sb ⊢
  have lgb : g < b := gl
  have lrb : w.heap.size + 1 < g := by omega
  have lwg : w.heap.size < g := by omega
  have s1 := S1.out
  clear hbb S1 s0 gl sb hg
  obtain ⟨rb, hrb⟩ : ∃ rb, w.heap.size + 1 = rb := ⟨_, rfl⟩
  rw [hrb] at R1 lrb ⊢
  clear w1
  have lwr : w.heap.size < rb := by omega
  clear hrb
  go_upto_region 3 with fail
  have ST : Hid (EcSt w (b + 1) b rb r c g N cap xs (.slice (some ⟨b + 1, 0, none⟩) 0 0) [] (W.alloc (.cells #[] 3))) := ⟨K1.out.old _, R1.out.old _, I0.out.old _, OwnQ.none_ (Nat.le_refl _) ⟨Nat.zero_le _, [], rfl, by rw [← s1]; exact heap_alloc_new W _⟩, B1.out.alloc B1.out.size _, by simp; omega⟩
  generalize W.alloc (.cells #[] 3) = W2 at ST ⊢
  clear K1 R1 I0 B1 s1
  go_wp2_with fail
  go_loopw [7] (fun v7 wr => ∃ i : Nat, v7 = .int .i64 i ∧ i ≤ r ∧ EcSt w (b + 1) b rb r c g N cap (prTo r c i xs) (.slice (some ⟨b + 1, 0, none⟩) 0 0) [] wr) (fun v7 _ => r - (intOf v7).toNat)
  case atStart => exact ⟨0, rfl, by omega, by rw [prTo_zero (by rw [HX.out, HN.out])]; exact ST.out⟩
  case round =>
    clear ST
    obtain ⟨i, rfl, hi, hst⟩ := hrel
    have ST := Lib.hid hst
    clear hst
    obtain ⟨p0, p1, p2, -, -, -⟩ := ST.out.blk.all
    by_cases hlt : i < r
    · go_wp2_with fail
      refine (sPrim r c i N g cap (prTo r c i xs) _ HN.out (by rw [prTo_length, HN.out]) hr hc hlt (prTo_nums (by rw [HX.out, HN.out]) NX.out) ST.out.ints).mono ?_
      rintro e w2 ⟨rfl, hi2, hg2⟩
      have hs := ST.out.one hi2 hg2 (by omega) (by omega) (by omega) (by omega)
      rw [prTo_step hlt] at hs
      have S2 := Lib.hid hs
      clear hs hi2 hg2
      go_wp2_with fail
      go_roundw
      case rel => exact ⟨i + 1, by go_num, by omega, S2.out⟩
      case measure => simp [intOf]; omega
    · obtain rfl : r = i := by omega
      clear hlt
      have YL : Hid ((prTo r c r xs).length = N) := by show _ = _; rw [prTo_length, HN.out]
      have YN : Hid (nums (prTo r c r xs) = true) := prTo_nums (by rw [HX.out, HN.out]) NX.out
      generalize prTo r c r xs = y0 at ST HR YL YN
      go_wp2_with fail
      clear p0 p1 p2
      go_loopw [3, 4, 6, 8, 9, 10, 11, 12, 13, 14, 15, 16] (fun _ _ v6 v8 _ _ _ _ _ _ _ _ wr => ∃ (j k : Nat) (ys : List Int) (q : Option Addr) (qc : Nat) (pv : List Nat), v6 = .slice q pv.length qc ∧ v8 = .int .i64 j ∧ j + k = c ∧ ys.length = N ∧ nums ys = true ∧ pv.length ≤ r ∧ echC r c k j ys pv = RES ∧ EcSt w (b + 1) b rb r c g N cap ys (.slice q pv.length qc) pv wr) (fun _ _ _ v8 _ _ _ _ _ _ _ _ _ => c - (intOf v8).toNat)
      case atStart => exact ⟨0, c, y0, _, _, [], rfl, rfl, by omega, YL.out, YN.out, by simp, HR.out, ST.out⟩
      case round =>
        clear ST YL YN HR
        obtain ⟨j, k, ys, q, qc, pv, rfl, rfl, hjk, hl, hn, hpv, hR, hst⟩ := hrel
        have ST := Lib.hid hst
        have HL := Lib.hid hl
        have HY := Lib.hid hn
        have HR := Lib.hid hR
        clear hst hl hn hR
        obtain ⟨t, ht⟩ : ∃ t, pv.length = t := ⟨_, rfl⟩
        have PT := Lib.hid ht
        rw [ht] at ST hpv ⊢
        clear ht
        obtain ⟨p0, p1, p2, -, -, -⟩ := ST.out.blk.all
        by_cases hjc : j < c
        · by_cases htr : t < r
          · obtain ⟨k, rfl⟩ : ∃ k', k = k' + 1 := ⟨k - 1, by omega⟩
            go_wp2_with fail
            go_loopw [10] (fun v10 wq => ∃ p : Nat, v10 = .int .i64 p ∧ t ≤ p ∧ p ≤ r ∧ (∀ i, t ≤ i → i < p → mxC c ys i j = 0) ∧ wq = wr) (fun v10 _ => r - (intOf v10).toNat)
            case atStart => exact ⟨t, rfl, Nat.le_refl _, by omega, fun i h1 h2 => by omega, rfl⟩
            case round =>
              obtain ⟨p, rfl, hp1, hp2, hp0, rfl⟩ := hrel
              have P0 := Lib.hid hp0
              clear hp0
              by_cases hpr : p < r
              · obtain ⟨P, hP, hPN, u1, u2⟩ := IX.out p j hpr hjc
                have Pa : (0 : Int) ≤ (P : Int) := by omega
                have Pb : (P : Int) < (N : Int) := by omega
                have hcell := ST.out.ints.cell (i := P) (by rw [HL.out]; exact hPN)
                rw [← hP, show ys.getD (p * c + j) 0 = mxC c ys p j from rfl, hP] at hcell
                obtain ⟨x, hxx⟩ : ∃ x, mxC c ys p j = x := ⟨_, rfl⟩
                have X := Lib.hid hxx
                rw [hxx] at hcell
                clear hxx hP
                by_cases h0 : x = 0
                · have n1 : (x == 0) = true := by simp [h0]
                  have P1 : Hid (∀ i, t ≤ i → i < p + 1 → mxC c ys i j = 0) := fun i h1 h2 => by
                    rcases Nat.lt_or_ge i p with h3 | h3
                    · exact P0.out i h1 h3
                    · obtain rfl : i = p := by omega
                      rw [X.out, h0]
                  clear h0
                  go_wp2_with fail
                  go_roundw
                  case rel => exact ⟨p + 1, by go_num, by omega, by omega, P1.out, trivial⟩
                  case measure => simp [intOf]; omega
                · have n1 : (x == 0) = false := by simpa using h0
                  have FS : Hid (fstR c j ys (r - pv.length) pv.length = p) := fstR_eq (by rw [PT.out]; omega) (by rw [PT.out]; omega) (fun i h1 h2 => P0.out i (by rw [← PT.out]; exact h1) h2) (fun _ => by rw [X.out]; exact h0)
                  have ZL : Hid ((swC p t c ys).length = N) := by show _ = _; rw [swC_length, HL.out]
                  have ZN : Hid (nums (swC p t c ys) = true) := swC_nums (by rw [HL.out, HN.out]) HY.out hpr htr
                  have EN : Hid (elimR r c t j r 0 (swC p t c ys) = none → RES = none) := fun h => by
                    have h1 := HR.out
                    rw [echC_none (p := p) (by rw [PT.out]; exact htr) FS.out (by omega) (by rw [PT.out]; exact h)] at h1
                    exact h1.symm
                  have EO : Hid (∀ us, elimR r c t j r 0 (swC p t c ys) = some us → echC r c k (j + 1) us (pv ++ [j]) = RES) := fun us h => by
                    have h1 := HR.out
                    rw [echC_on (p := p) (by rw [PT.out]; exact htr) FS.out (by omega) (by rw [PT.out]; exact h)] at h1
                    exact h1
                  have SW : Hid (p ≠ t → opL 0 p t 0 c ys = swC p t c ys) := fun h => by unfold swC; rw [if_neg h]
                  have SN : Hid (p = t → ys = swC p t c ys) := fun h => by unfold swC; rw [if_pos h]
                  generalize swC p t c ys = zs at ZL ZN EN EO SW SN
                  obtain ⟨E, hE⟩ : ∃ E, elimR r c t j r 0 zs = E := ⟨_, rfl⟩
                  rw [hE] at EN EO
                  have EE := Lib.hid hE
                  clear hE h0
                  have n3 : ((p : Int) == (r : Int)) = false := by simp; omega
                  go_upto_if 71 with fail
                  go_cut [] (fun wx => EcSt w (b + 1) b rb r c g N cap zs (.slice q t qc) pv wx)
                  case first =>
                    by_cases hpt : p = t
                    · have n2 : ((p : Int) != (t : Int)) = false := by simp [hpt]
                      have hs := ST.out
                      rw [SN.out hpt] at hs
                      have S2 := Lib.hid hs
                      clear hs hpt
                      go_wp2_with fail
                      go_meet
                      exact S2.out
                    · have n2 : ((p : Int) != (t : Int)) = true := by simp; omega
                      go_wp2_with fail
                      refine (sDo r c p t g N cap 0 0 ys _ ST.out.ints HL.out HN.out hr hc hpr htr (.inl rfl) (fun _ => hpt)).mono ?_
                      rintro e w4 ⟨rfl, hi4, hg4⟩
                      have hs := ST.out.one hi4 hg4 (by omega) (by omega) (by omega) (by omega)
                      rw [SW.out hpt] at hs
                      have S2 := Lib.hid hs
                      clear hs hi4 hg4
                      go_wp2_with fail
                      go_meet
                      exact S2.out
                  case rest =>
                    clear ST
                    have ST := Lib.hid hcut
                    clear hcut hcell p0 p1 p2
                    obtain ⟨p0, p1, p2, -, -, -⟩ := ST.out.blk.all
                    go_wp2_with fail
                    clear p0 p1 p2
                    go_loopw [3, 4, 11, 12, 13, 14, 15, 16] (fun _ _ v11 _ _ _ _ _ wu => ∃ (i l : Nat) (us : List Int), v11 = .int .i64 i ∧ i + l = r ∧ us.length = N ∧ nums us = true ∧ elimR r c t j l i us = E ∧ EcSt w (b + 1) b rb r c g N cap us (.slice q t qc) pv wu) (fun _ _ v11 _ _ _ _ _ _ => r - (intOf v11).toNat)
                    case atStart => exact ⟨0, r, zs, rfl, by omega, ZL.out, ZN.out, EE.out, ST.out⟩
                    case round =>
                      clear ST
                      obtain ⟨i, l, us, rfl, hil, hul, hun, hue, hst⟩ := hrel
                      have ST := Lib.hid hst
                      have UL := Lib.hid hul
                      have UN := Lib.hid hun
                      have UE := Lib.hid hue
                      clear hst hul hun hue
                      obtain ⟨p0, p1, p2, -, -, -⟩ := ST.out.blk.all
                      by_cases hir : i < r
                      · obtain ⟨l, rfl⟩ : ∃ l', l = l' + 1 := ⟨l - 1, by omega⟩
                        obtain ⟨P, hP, hPN, u1, u2⟩ := IX.out i j hir hjc
                        have Pa : (0 : Int) ≤ (P : Int) := by omega
                        have Pb : (P : Int) < (N : Int) := by omega
                        have hcell := ST.out.ints.cell (i := P) (by rw [UL.out]; exact hPN)
                        rw [← hP, show us.getD (i * c + j) 0 = mxC c us i j from rfl, hP] at hcell
                        have hxn : NumP (mxC c us i j) := mx_nums (by rw [UL.out, HN.out]) UN.out hir hjc
                        obtain ⟨x, hxx⟩ : ∃ x, mxC c us i j = x := ⟨_, rfl⟩
                        have X := Lib.hid hxx
                        rw [hxx] at hcell hxn
                        clear hxx hP
                        by_cases hs : i = t ∨ x = 0
                        · have UE2 : Hid (elimR r c t j l (i + 1) us = E) := by
                            have h1 := UE.out
                            rw [elimR_skip (by rw [X.out]; exact hs)] at h1
                            exact h1
                          by_cases hit : i = t
                          · have n2 : ((i : Int) == (t : Int)) = true := by simp [hit]
                            clear hs hit
                            go_wp2_with fail
                            go_roundw
                            case rel => exact ⟨i + 1, l, us, by go_num, by omega, UL.out, UN.out, UE2.out, ST.out⟩
                            case measure => simp [intOf]; omega
                          · have n2 : ((i : Int) == (t : Int)) = false := by simp; omega
                            have n3 : (x == 0) = true := by simp [hs.resolve_left hit]
                            clear hs hit
                            go_wp2_with fail
                            go_roundw
                            case rel => exact ⟨i + 1, l, us, by go_num, by omega, UL.out, UN.out, UE2.out, ST.out⟩
                            case measure => simp [intOf]; omega
                        · have hit : i ≠ t := fun e => hs (.inl e)
                          have hx0 : x ≠ 0 := fun e => hs (.inr e)
                          have n2 : ((i : Int) == (t : Int)) = false := by simp; omega
                          have n3 : (x == 0) = false := by simpa using hx0
                          obtain ⟨Q, hQ, hQN, y1, y2⟩ := IX.out t j htr hjc
                          have Qa : (0 : Int) ≤ (Q : Int) := by omega
                          have Qb : (Q : Int) < (N : Int) := by omega
                          have hcell2 := ST.out.ints.cell (i := Q) (by rw [UL.out]; exact hQN)
                          rw [← hQ, show us.getD (t * c + j) 0 = mxC c us t j from rfl, hQ] at hcell2
                          have hyn : NumP (mxC c us t j) := mx_nums (by rw [UL.out, HN.out]) UN.out htr hjc
                          obtain ⟨y, hyy⟩ : ∃ y, mxC c us t j = y := ⟨_, rfl⟩
                          have Y := Lib.hid hyy
                          rw [hyy] at hcell2 hyn
                          have UB : Hid (rowN c (rdV j (mxC c us i) (mxC c us t)) ≠ true → E = none) := fun h => by
                            have h1 := UE.out
                            rw [elimR_bad (by rw [X.out]; exact hs) h] at h1
                            exact h1.symm
                          have UO : Hid (rowN c (rdV j (mxC c us i) (mxC c us t)) = true → elimR r c t j l (i + 1) (rdL r c t j i us) = E) := fun h => by
                            have h1 := UE.out
                            rw [elimR_on (by rw [X.out]; exact hs) h] at h1
                            exact h1
                          have UD : Hid (prL r c i (rowL r c i (rdV j (mxC c us i) (mxC c us t)) us) = rdL r c t j i us) := rdL_prim hir
                          have UM : Hid (rowN c (rdV j (mxC c us i) (mxC c us t)) = true → nums (rdL r c t j i us) = true) := fun h => rdL_nums (by rw [UL.out, HN.out]) UN.out h
                          have UK : Hid ((rdL r c t j i us).length = N) := by show _ = _; rw [rdL_length, HN.out]
                          clear hs hyy hQ
                          go_wp2_with fail
                          refine (sGcd x y _ hxn hyn).mono ?_
                          rintro e w5 ⟨rfl, nq, rfl⟩
                          have ST := Lib.hid (ST.out.drewN nq)
                          have hgp : 0 < x.gcd y := Int.gcd_pos_of_ne_zero_left y hx0
                          have UV : Hid (∀ h, rdV j (mxC c us i) (mxC c us t) h = y.tdiv (x.gcd y) * mxC c us i h - x.tdiv (x.gcd y) * mxC c us t h) := fun h => by rw [← X.out, ← Y.out]; rfl
                          obtain ⟨gg, hgg⟩ : ∃ gg : Int, (x.gcd y : Int) = gg := ⟨_, rfl⟩
                          rw [hgg] at UV ⊢
                          have g1 : gg ≠ 0 := by omega
                          have g2 : (gg == 0) = false := by simpa using g1
                          have b1 := tdiv_bb (y := gg) hxn.1 hxn.2
                          have b2 := tdiv_bb (y := gg) hyn.1 hyn.2
                          obtain ⟨qx, hqx⟩ : ∃ qx, x.tdiv gg = qx := ⟨_, rfl⟩
                          obtain ⟨qy, hqy⟩ : ∃ qy, y.tdiv gg = qy := ⟨_, rfl⟩
                          rw [hqx] at UV b1
                          rw [hqy] at UV b2
                          have wx : IntKind.i64.wrap qx = qx := IntWalk.i64_in _ (by omega)
                          have wy : IntKind.i64.wrap qy = qy := IntWalk.i64_in _ (by omega)
                          generalize rdV j (mxC c us i) (mxC c us t) = u at UB UO UV UD UM
                          generalize rdL r c t j i us = vs at UO UD UM UK
                          have RT : Hid (∀ k, k < c → (rowTo r c i u us k).set (i * c + k) (u k) = rowTo r c i u us (k + 1)) := fun k hk => rowTo_step hir hk
                          have RX : Hid (∀ k, k < c → (rowTo r c i u us k).getD (i * c + k) 0 = mxC c us i k) := fun k hk => rowTo_old hir hk (.inr (Nat.le_refl _))
                          have RY : Hid (∀ k, k < c → (rowTo r c i u us k).getD (t * c + k) 0 = mxC c us t k) := fun k hk => rowTo_old htr hk (.inl (fun e => hit e.symm))
                          have RL : Hid (∀ k, (rowTo r c i u us k).length = N) := fun k => by rw [rowTo_length, HN.out]
                          have NI : Hid (∀ k, k < c → NumP (mxC c us i k)) := fun k hk => mx_nums (by rw [UL.out, HN.out]) UN.out hir hk
                          have NT : Hid (∀ k, k < c → NumP (mxC c us t k)) := fun k hk => mx_nums (by rw [UL.out, HN.out]) UN.out htr hk
                          rw [← rowTo_zero (r := r) (c := c) (i := i) (v := u) (xs := us) (by rw [UL.out, HN.out])] at ST
                          clear p0 p1 p2 hcell hcell2 hgp
                          generalize wr.drewN nq = wz at ST ⊢
                          obtain ⟨p0, p1, p2, -, -, -⟩ := ST.out.blk.all
                          go_wp2_with fail
                          clear p0 p1 p2
                          go_loopw [3, 4, 15, 16] (fun _ _ v15 _ wv => ∃ h : Nat, v15 = .int .i64 h ∧ h ≤ c ∧ (∀ k, k < h → NumP (u k)) ∧ EcSt w (b + 1) b rb r c g N cap (rowTo r c i u us h) (.slice q t qc) pv wv) (fun _ _ v15 _ _ => c - (intOf v15).toNat)
                          case atStart => exact ⟨0, rfl, by omega, fun k hk => by omega, by first | exact ST.out | (have h := ST.out; rw [rowTo_zero (by rw [rowTo_length])] at h; exact h)⟩
                          case round =>
                            clear ST
                            obtain ⟨h, rfl, hh, hhn, hst⟩ := hrel
                            have ST := Lib.hid hst
                            have HH := Lib.hid hhn
                            clear hst hhn
                            obtain ⟨p0, p1, p2, -, -, -⟩ := ST.out.blk.all
                            by_cases hhc : h < c
                            · obtain ⟨P, hP, hPN, u1, u2⟩ := IX.out i h hir hhc
                              have Pa : (0 : Int) ≤ (P : Int) := by omega
                              have Pb : (P : Int) < (N : Int) := by omega
                              have hcell := ST.out.ints.cell (i := P) (by rw [RL.out]; exact hPN)
                              have hfr := ST.out.ints.free P
                              rw [← hP, RX.out h hhc, hP] at hcell
                              obtain ⟨Q, hQ, hQN, y1, y2⟩ := IX.out t h htr hhc
                              have Qa : (0 : Int) ≤ (Q : Int) := by omega
                              have Qb : (Q : Int) < (N : Int) := by omega
                              have hcell2 := ST.out.ints.cell (i := Q) (by rw [RL.out]; exact hQN)
                              rw [← hQ, RY.out h hhc, hQ] at hcell2
                              have na := NI.out h hhc
                              have nb := NT.out h hhc
                              have uv := UV.out h
                              have RS := Lib.hid (RT.out h hhc)
                              rw [hP] at RS
                              generalize mxC c us i h = ea at hcell na uv
                              generalize mxC c us t h = eb at hcell2 nb uv
                              have m1 := mul_num qy ea b2 na
                              have m2 := mul_num qx eb b1 nb
                              have v1 : IntKind.i64.wrap (qy * ea) = qy * ea := IntWalk.i64_in _ (by omega)
                              have v2 : IntKind.i64.wrap (qx * eb) = qx * eb := IntWalk.i64_in _ (by omega)
                              have v3 : IntKind.i64.wrap (qy * ea - qx * eb) = qy * ea - qx * eb := IntWalk.i64_in _ (by omega)
                              obtain ⟨z, hz⟩ : ∃ z, u h = z := ⟨_, rfl⟩
                              have Z := Lib.hid hz
                              rw [hz] at uv RS
                              have q0 : qy * ea - qx * eb = z := uv.symm
                              rw [q0] at v3
                              clear na nb m1 m2 hz hP hQ uv
                              go_wp2_with fail
                              go_still_tail 29, (by kernel_rfl)
                              go_wp2_with fail
                              refine (sFit z _).mono ?_
                              rintro e w6 ⟨rfl, rfl⟩
                              have S3 := Lib.hid ST.out.drew
                              clear ST p0 p1 p2 hcell hcell2 hfr
                              generalize wr.drew = wy at S3 ⊢
                              obtain ⟨p0, p1, p2, -, -, -⟩ := S3.out.blk.all
                              have hold := S3.out.ints.cell (i := P) (by rw [RL.out]; exact hPN)
                              have hfr := S3.out.ints.free P
                              by_cases hz : NumP z
                              · have n4 : (z == -4611686018427387904) = false := by have h := hz; unfold NumP at h; simp; omega
                                rw [show fitB z = z from if_pos hz]
                                have HH2 : Hid (∀ k, k < h + 1 → NumP (u k)) := fun k hk => by
                                  rcases Nat.lt_or_ge k h with h3 | h3
                                  · exact HH.out k h3
                                  · obtain rfl : k = h := by omega
                                    rw [Z.out]; exact hz
                                clear hz
                                go_wp2_with fail
                                go_roundw
                                case rel => exact ⟨h + 1, by go_num, by omega, HH2.out, by rw [← RS.out]; exact S3.out.put (by omega) (by omega) (by omega) (by omega) P z⟩
                                case measure => simp [intOf]; omega
                              · have RZ : Hid (RES = none) := EN.out (UB.out fun h1 => hz (by rw [← Z.out]; exact rowN_iff.mp h1 h hhc))
                                rw [show fitB z = -4611686018427387904 from if_neg hz]
                                clear hz hold hfr p0 p1 p2
                                obtain ⟨r0, r1, r2, f0, f1, f2⟩ := S3.out.ret.all
                                obtain ⟨e0, e1, e2, l0, l1, l2⟩ := (S3.out.ret.old (.cells #[] 3)).all
                                go_wp2_with fail
                                obtain ⟨E0, E1, E2, -, -, -⟩ := ((((S3.out.ret.old (.cells #[] 3)).set0 (.int .i64 0)).set1 (.int .i64 0)).set2 (.slice none 0 0)).all
                                exact bodyPost_ret (v := .tuple #[.agg #[.int .i64 0, .int .i64 0, .slice none 0 0], .slice (some ⟨wy.heap.size, 0, none⟩) 0 0, .bool false]) (by simp [results, Try.results45, go_sem, E0, E1, E2]) rfl (by rw [RZ.out]; exact S3.out.bad (by omega) (by omega) (by omega) _ _ _)
                            · obtain rfl : c = h := by omega
                              clear hhc
                              have RW : Hid (rowN c u = true) := rowN_iff.mpr HH.out
                              go_wp2_with fail
                              refine (sPrim r c i N g cap (rowTo r c i u us c) _ HN.out (RL.out c) hr hc hir (by rw [rowTo_all]; exact rowL_nums (by rw [UL.out, HN.out]) UN.out (fun q hq => HH.out q hq)) ST.out.ints).mono ?_
                              rintro e w7 ⟨rfl, hi7, hg7⟩
                              have hs := ST.out.one hi7 hg7 (by omega) (by omega) (by omega) (by omega)
                              rw [rowTo_all, UD.out] at hs
                              have S7 := Lib.hid hs
                              clear hs hi7 hg7
                              go_wp2_with fail
                              go_roundw
                              case rel => exact ⟨i + 1, l, vs, by go_num, by omega, UK.out, UM.out RW.out, UO.out RW.out, S7.out⟩
                              case measure => simp [intOf]; omega
                      · obtain rfl : l = 0 := by omega
                        have UF : Hid (echC r c k (j + 1) us (pv ++ [j]) = RES) := EO.out us UE.out.symm
                        obtain ⟨fi, hfi, hz0, hz1, hz2⟩ := facts_int
                        have HO : Hid ((wr.alloc (.cells #[.int .i64 j] 3)).ownsRow (b + 1) 3 1 (.slice q t qc) t ((pvI pv).map (Value.int .i64))) := by
                          have h1 := ST.out.own.keep ((Below.refl _ _).alloc (Nat.le_refl _) (.cells #[.int .i64 j] 3))
                          unfold OwnQ at h1
                          rw [pvI_length, PT.out] at h1
                          exact h1
                        have le := ST.out.le
                        go_wp2_with (at_builtin; refine wpList_append_own_at _ rfl _ _ 24 rfl (b + 1) 3 fi (.int .i64 0) 1 8 underlying_ints hfi hz0 hz1 hz2 rfl (by decide) _ _ _ rfl HO.out ⟨wr.heap.size, 0, none⟩ 1 1 [.int .i64 j] ?hx ?hl ?hnews ?h1 ?h63 ?hbytes ?hbase ?hnext)
                        case hx => rfl
                        case hl => rfl
                        case hnews => exact cell_one_new _ _ _
                        case h1 => intro v hv; simp at hv; subst hv; rfl
                        case h63 => unfold maxLen; omega
                        case hbytes => omega
                        case hbase => simp; omega
                        case hnext =>
                          rintro v' w7 ho hg7 - -
                          have O7 : OwnQ (b + 1) w7 v' (pvI (pv ++ [j])) := by
                            unfold OwnQ pvI
                            rw [List.map_append, List.length_append, List.map_append, List.length_map, PT.out]
                            exact ho
                          have hs := ST.out.app hg7 O7 (by omega) (by omega) (by omega) (by omega)
                          obtain ⟨q', qc', rfl⟩ := O7.form
                          rw [pvI_length] at hs ⊢
                          have S7 := Lib.hid hs
                          clear hs O7 ho hg7
                          go_wp2_with fail
                          go_roundw
                          case rel => exact ⟨j + 1, k, us, q', qc', pv ++ [j], rfl, by go_num, by omega, UL.out, UN.out, by rw [List.length_append, PT.out]; simp; omega, UF.out, S7.out⟩
                          case measure => simp [intOf]; omega
              · have hpe : p = r := by omega
                have FS : Hid (fstR c j ys (r - pv.length) pv.length = r) := fstR_eq (by rw [PT.out]; omega) (by rw [PT.out]; omega) (fun i h1 h2 => P0.out i (by rw [← PT.out]; exact h1) (by omega)) (fun h => by rw [PT.out] at h; omega)
                have RN : Hid (echC r c k (j + 1) ys pv = RES) := by
                  have h1 := HR.out
                  rw [echC_skip (by rw [PT.out]; exact htr) FS.out] at h1
                  exact h1
                have n1 : decide ((p : Int) < (r : Int)) = false := by simpa using hpr
                have n2 : ((p : Int) == (r : Int)) = true := by simp [hpe]
                clear hpe
                go_wp2_with fail
                go_roundw
                case rel => exact ⟨j + 1, k, ys, q, qc, pv, by rw [PT.out], by go_num, by omega, HL.out, HY.out, by rw [PT.out]; exact hpv, RN.out, by rw [PT.out]; exact ST.out⟩
                case measure => simp [intOf]; omega
          · have RF : Hid (some (ys, pv) = RES) := by
              have h1 := HR.out
              rw [echC_end (by rw [PT.out]; exact htr)] at h1
              exact h1
            obtain ⟨NR, -, -, -⟩ := PR.out ys pv RF.out.symm
            have NR := Lib.hid NR
            go_wp2_with fail
            clear p0 p1 p2
            go_loopw [17] (fun v17 wf => ∃ i : Nat, v17 = .int .i64 i ∧ i ≤ t ∧ EcSt w (b + 1) b rb r c g N cap ys (.slice q t qc) pv wf) (fun v17 _ => t - (intOf v17).toNat)
            case atStart => exact ⟨0, rfl, by omega, ST.out⟩
            case round =>
              clear ST
              obtain ⟨i, rfl, hi, hst⟩ := hrel
              have ST := Lib.hid hst
              clear hst
              obtain ⟨p0, p1, p2, f0, f1, f2⟩ := ST.out.blk.all
              by_cases hlt : i < t
              · go_wp2_with fail
                refine (sPrim r c i N g cap ys _ HN.out HL.out hr hc (by omega) HY.out ST.out.ints).mono ?_
                rintro e w2 ⟨rfl, hi2, hg2⟩
                have hs := ST.out.one hi2 hg2 (by omega) (by omega) (by omega) (by omega)
                rw [NR.out i (by omega)] at hs
                have S2 := Lib.hid hs
                clear hs hi2 hg2
                go_wp2_with fail
                go_roundw
                case rel => exact ⟨i + 1, by go_num, by omega, S2.out⟩
                case measure => simp [intOf]; omega
              · have hlt := hlt
                obtain ⟨r0, r1, r2, h0, h1, h2⟩ := ST.out.ret.all
                go_wp2_with fail
                obtain ⟨E0, E1, E2, -, -, -⟩ := (((ST.out.ret.set0 (.int .i64 r)).set1 (.int .i64 c)).set2 (.slice (some ⟨g, 0, none⟩) N cap)).all
                exact bodyPost_ret (v := .tuple #[.agg #[.int .i64 r, .int .i64 c, .slice (some ⟨g, 0, none⟩) N cap], .slice q t qc, .bool true]) (by simp [results, Try.results45, go_sem, E0, E1, E2]) rfl (by rw [← RF.out]; exact ST.out.end_ HL.out hcap (by omega) (by rw [PT.out]; omega) (by omega) (by omega) (by omega) (by omega) (by omega) _ _ _)
        · obtain rfl : k = 0 := by omega
          have RF : Hid (some (ys, pv) = RES) := HR.out
          obtain ⟨NR, -, -, -⟩ := PR.out ys pv RF.out.symm
          have NR := Lib.hid NR
          go_wp2_with fail
          clear p0 p1 p2
          go_loopw [17] (fun v17 wf => ∃ i : Nat, v17 = .int .i64 i ∧ i ≤ t ∧ EcSt w (b + 1) b rb r c g N cap ys (.slice q t qc) pv wf) (fun v17 _ => t - (intOf v17).toNat)
          case atStart => exact ⟨0, rfl, by omega, ST.out⟩
          case round =>
            clear ST
            obtain ⟨i, rfl, hi, hst⟩ := hrel
            have ST := Lib.hid hst
            clear hst
            obtain ⟨p0, p1, p2, f0, f1, f2⟩ := ST.out.blk.all
            by_cases hlt : i < t
            · go_wp2_with fail
              refine (sPrim r c i N g cap ys _ HN.out HL.out hr hc (by omega) HY.out ST.out.ints).mono ?_
              rintro e w2 ⟨rfl, hi2, hg2⟩
              have hs := ST.out.one hi2 hg2 (by omega) (by omega) (by omega) (by omega)
              rw [NR.out i (by omega)] at hs
              have S2 := Lib.hid hs
              clear hs hi2 hg2
              go_wp2_with fail
              go_roundw
              case rel => exact ⟨i + 1, by go_num, by omega, S2.out⟩
              case measure => simp [intOf]; omega
            · have hlt := hlt
              obtain ⟨r0, r1, r2, h0, h1, h2⟩ := ST.out.ret.all
              go_wp2_with fail
              obtain ⟨E0, E1, E2, -, -, -⟩ := (((ST.out.ret.set0 (.int .i64 r)).set1 (.int .i64 c)).set2 (.slice (some ⟨g, 0, none⟩) N cap)).all
              exact bodyPost_ret (v := .tuple #[.agg #[.int .i64 r, .int .i64 c, .slice (some ⟨g, 0, none⟩) N cap], .slice q t qc, .bool true]) (by simp [results, Try.results45, go_sem, E0, E1, E2]) rfl (by rw [← RF.out]; exact ST.out.end_ HL.out hcap (by omega) (by rw [PT.out]; omega) (by omega) (by omega) (by omega) (by omega) (by omega) _ _ _)
end Go.Proofs.Ytpknondccajinaa
end

section
/-
  Chapter 7, in the model: EchelonOf, RankOf.
-/
namespace Go.Proofs.Ytpknondccajinaa
set_option maxRecDepth 100000
open Go.RowKit

/-- What EchelonOf gives: a matrix, its pivots, whether there is such a form in range. -/
structure ER where
  r : Int
  c : Int
  zs : List Int
  pv : List Int
  ok : Bool
def ER.no : ER := ⟨0, 0, [], [], false⟩
def ER.of (r c : Int) : Option (List Int × List Nat) → ER
  | some (ys, pv) => ⟨r, c, ys, pvI pv, true⟩
  | none => ER.no
def echR (r c : Int) (xs : List Int) : ER := if isMat r c xs = true then ER.of r c (echM r.toNat c.toNat xs) else ER.no
def EchG (w : World) (R : ER) (e : Ending) (w' : World) : Prop :=
  ∃ (va vb : Value), e = .returned (.tuple #[.agg #[.int .i64 R.r, .int .i64 R.c, va], vb, .bool R.ok]) ∧ Own w.heap.size w' va R.zs ∧ Own w.heap.size w' vb R.pv ∧ (∀ k, va.ownBlock = some k → vb.ownBlock ≠ some k) ∧ Below w.heap.size w w'
theorem EchP.g {w : World} {r c : Nat} {o : Option (List Int × List Nat)} {e : Ending} {w' : World} (h : EchP w r c o e w') : EchG w (ER.of r c o) e w' := by
  rcases h with ⟨va, vb, ys, pv, rfl, rfl, h1, h2, h3, h4⟩ | ⟨vb, rfl, rfl, h2, h4⟩
  · exact ⟨va, vb, rfl, h1, h2, h3, h4⟩
  · exact ⟨_, vb, rfl, .inl ⟨rfl, rfl⟩, h2, fun k hk => by simp [Value.ownBlock] at hk, h4⟩
theorem Own.far' {B : Nat} {w : World} {v : Value} {zs : List Int} (h : Own B w v zs) {a : Addr} (ha : a.block < B) (u : Value) : Own B (w.setCell a u) v zs := by
  rcases h with h | ⟨g, cap, hv, hB, hi, hl, hc⟩
  · exact .inl h
  · exact .inr ⟨g, cap, hv, hB, hi.far (by omega) u, hl, hc⟩
theorem Own.far3' {B b : Nat} {w : World} {v : Value} {zs : List Int} (h : Own B w v zs) (hb : b < B) (x y z : Value) : Own B (((w.setCell ⟨b, 0, none⟩ x).setCell ⟨b, 1, none⟩ y).setCell ⟨b, 2, none⟩ z) v zs :=
  ((h.far' (a := ⟨b, 0, none⟩) hb x).far' (a := ⟨b, 1, none⟩) hb y).far' (a := ⟨b, 2, none⟩) hb z
set_option maxHeartbeats 2000000 in
theorem sEchelonOf (r c : Int) (a : Option Addr) (m : Nat) (xs : List Int) (w : World) (h : Rd w a xs) (hn : xs.length ≤ 16777216) (ha : Spot a) :
    Calls Try.prog 12 #[.agg #[.int .i64 r, .int .i64 c, .slice a xs.length m]] w (EchG w (echR r c xs)) := by
  have IM : Hid (∀ w', Below w.heap.size w w' → Calls Try.prog 44 #[.agg #[.int .i64 r, .int .i64 c, .slice a xs.length m]] w' (Gives (.bool (isMat r c xs)) w')) := fun w' hb => sIsMat r c a m xs w' (h.below hb) hn
  have EC : Hid (isMat r c xs = true → ∀ w', Below w.heap.size w w' → Calls Try.prog 45 #[.agg #[.int .i64 r, .int .i64 c, .slice a xs.length m]] w' (EchG w' (echR r c xs))) := fun hm w' hb => by
    obtain ⟨⟨r0, r1⟩, ⟨c0, c1⟩, hl, nx⟩ := isMat_says hm
    unfold echR
    rw [if_pos hm]
    obtain ⟨R, rfl⟩ := Int.eq_ofNat_of_zero_le r0
    obtain ⟨C, rfl⟩ := Int.eq_ofNat_of_zero_le c0
    exact (sEch R C xs.length a m xs w' (h.below hb) ha rfl (by rw [← Int.natCast_mul] at hl; omega) (by omega) (by omega) nx).mono fun _ _ h => h.g
  have NO : Hid (isMat r c xs = false → echR r c xs = ER.no) := fun hm => by unfold echR; rw [if_neg (by rw [hm]; decide)]
  generalize isMat r c xs = ok at IM EC NO
  generalize echR r c xs = RES at EC NO ⊢
  clear h hn ha
  generalize xs.length = L at IM EC ⊢
  go_enter Try.func12, Try.ntmps12
  go_upto_region 1 with fail
  have K0 : Hid (Blk3 ((w.alloc (.cells #[.int .i64 r, .int .i64 c, .slice a L m] 26)).alloc (.cells #[.int .i64 0, .int .i64 0, .slice none 0 0] 26)) w.heap.size 26 (.int .i64 r) (.int .i64 c) (.slice a L m)) := (Blk3.at_ _ _ _ _ rfl).old _
  have R0 : Hid (Blk3 ((w.alloc (.cells #[.int .i64 r, .int .i64 c, .slice a L m] 26)).alloc (.cells #[.int .i64 0, .int .i64 0, .slice none 0 0] 26)) (w.heap.size + 1) 26 (.int .i64 0) (.int .i64 0) (.slice none 0 0)) := Blk3.at_ _ _ _ _ (by simp)
  have B0 : Hid (Below w.heap.size w ((w.alloc (.cells #[.int .i64 r, .int .i64 c, .slice a L m] 26)).alloc (.cells #[.int .i64 0, .int .i64 0, .slice none 0 0] 26))) := ((Below.refl _ _).alloc (Nat.le_refl _) _).alloc (by simp) _
  have S0 : Hid (((w.alloc (.cells #[.int .i64 r, .int .i64 c, .slice a L m] 26)).alloc (.cells #[.int .i64 0, .int .i64 0, .slice none 0 0] 26)).heap.size = w.heap.size + 2) := by show _ = _; simp
  generalize (w.alloc (.cells #[.int .i64 r, .int .i64 c, .slice a L m] 26)).alloc (.cells #[.int .i64 0, .int .i64 0, .slice none 0 0] 26) = W0 at K0 R0 B0 S0 ⊢
  obtain ⟨p0, p1, p2, -, -, -⟩ := K0.out.all
  go_wp2_with fail
  refine (IM.out _ B0.out).mono ?_
  rintro e w1 ⟨rfl, hb⟩
  have s0 := S0.out
  have sb := hb.size
  have K1 := Lib.hid (K0.out.step hb)
  have R1 := Lib.hid (R0.out.step hb)
  have B1 := Lib.hid (B0.out.trans (hb.mono (by omega)))
  clear hb K0 R0 B0 S0 p0 p1 p2
  obtain ⟨p0, p1, p2, -, -, -⟩ := K1.out.all
  cases ok with
  | false =>
    have RN := Lib.hid (NO.out rfl)
    clear p0 p1 p2
    obtain ⟨r0, r1, r2, f0, f1, f2⟩ := R1.out.all
    obtain ⟨e0, e1, e2, l0, l1, l2⟩ := (R1.out.old (.cells #[] 3)).all
    go_wp2_with fail
    obtain ⟨E0, E1, E2, -, -, -⟩ := ((((R1.out.old (.cells #[] 3)).set0 (.int .i64 0)).set1 (.int .i64 0)).set2 (.slice none 0 0)).all
    refine bodyPost_ret (v := .tuple #[.agg #[.int .i64 0, .int .i64 0, .slice none 0 0], .slice (some ⟨w1.heap.size, 0, none⟩) 0 0, .bool false]) (by simp [results, Try.results12, go_sem, E0, E1, E2]) rfl ?_
    rw [RN.out]
    refine ⟨_, _, rfl, .inl ⟨rfl, rfl⟩, ?_, fun k hk => by simp [Value.ownBlock] at hk, ?_⟩
    · exact (((OwnQ.none_ (B := w1.heap.size) (Nat.le_refl _) ⟨Nat.zero_le _, [], rfl, heap_alloc_new w1 _⟩).own (by simp)).far3' (b := w.heap.size + 1) (by omega) _ _ _).le (by omega)
    · exact (((B1.out.alloc B1.out.size _).setCell (by simp) _).setCell (by simp) _).setCell (by simp) _
  | true =>
    go_wp2_with fail
    refine (EC.out trivial _ B1.out).mono ?_
    rintro e w2 ⟨va, vb, rfl, oa, ob, hd, hb⟩
    obtain ⟨qa, ca, hva, -, -⟩ := oa.form
    subst hva
    have sb2 := hb.size
    have R2 := Lib.hid ((R1.out.step hb).old (.cells #[.int .i64 RES.r, .int .i64 RES.c, .slice qa RES.zs.length ca] 26))
    have B2 := Lib.hid (B1.out.trans (hb.mono (by omega)))
    have A2 : Hid (Blk3 (w2.alloc (.cells #[.int .i64 RES.r, .int .i64 RES.c, .slice qa RES.zs.length ca] 26)) w2.heap.size 26 (.int .i64 RES.r) (.int .i64 RES.c) (.slice qa RES.zs.length ca)) := Blk3.at_ _ _ _ _ rfl
    have OA := Lib.hid (oa.keep ((Below.refl _ _).alloc (Nat.le_refl _) (.cells #[.int .i64 RES.r, .int .i64 RES.c, .slice qa RES.zs.length ca] 26)))
    have OB := Lib.hid (ob.keep ((Below.refl _ _).alloc (Nat.le_refl _) (.cells #[.int .i64 RES.r, .int .i64 RES.c, .slice qa RES.zs.length ca] 26)))
    have B3 := Lib.hid (B2.out.alloc B2.out.size (.cells #[.int .i64 RES.r, .int .i64 RES.c, .slice qa RES.zs.length ca] 26))
    have HD := Lib.hid hd
    clear hb oa ob hd p0 p1 p2 K1
    go_upto_region 4 with fail
    generalize w2.alloc (.cells #[.int .i64 RES.r, .int .i64 RES.c, .slice qa RES.zs.length ca] 26) = W3 at R2 A2 OA OB B3 ⊢
    obtain ⟨p0, p1, p2, -, -, -⟩ := A2.out.all
    obtain ⟨r0, r1, r2, f0, f1, f2⟩ := R2.out.all
    go_wp2_with fail
    obtain ⟨E0, E1, E2, -, -, -⟩ := (((R2.out.set0 (.int .i64 RES.r)).set1 (.int .i64 RES.c)).set2 (.slice qa RES.zs.length ca)).all
    refine bodyPost_ret (v := .tuple #[.agg #[.int .i64 RES.r, .int .i64 RES.c, .slice qa RES.zs.length ca], vb, .bool RES.ok]) (by simp [results, Try.results12, go_sem, E0, E1, E2]) rfl ?_
    refine ⟨_, vb, rfl, ?_, ?_, HD.out, ?_⟩
    · exact (OA.out.far3' (b := w.heap.size + 1) (by omega) _ _ _).le (by omega)
    · exact (OB.out.far3' (b := w.heap.size + 1) (by omega) _ _ _).le (by omega)
    · exact ((B3.out.setCell (by simp) _).setCell (by simp) _).setCell (by simp) _
end Go.Proofs.Ytpknondccajinaa
end

section
/-
  Chapter 7, in the model: IsEchelon.
-/
namespace Go.Proofs.Ytpknondccajinaa
set_option maxRecDepth 100000
open Go.RowKit

def echIs (r c : Int) (xs : List Int) : Bool := isMat r c xs && (match echM r.toNat c.toNat xs with | some (ys, _) => decide (ys = xs) | none => false)
structure IsSt (w : World) (r c : Nat) (a : Option Addr) (N m : Nat) (xs : List Int) (wr : World) : Prop where
  blk : Blk3 wr w.heap.size 26 (.int .i64 r) (.int .i64 c) (.slice a N m)
  rd : Rd wr a xs
  bel : Below w.heap.size w wr
theorem IsSt.drewN {w : World} {r c : Nat} {a : Option Addr} {N m : Nat} {xs : List Int} {wr : World} (h : IsSt w r c a N m xs wr) (n : Nat) : IsSt w r c a N m xs (wr.drewN n) := ⟨h.blk.drewN n, h.rd.drewN n, below_drewN h.bel n⟩
theorem IsSt.step {w : World} {r c : Nat} {a : Option Addr} {N m : Nat} {xs : List Int} {wr w' : World} (h : IsSt w r c a N m xs wr) (hb : Below wr.heap.size wr w') : IsSt w r c a N m xs w' := ⟨h.blk.step hb, h.rd.below hb, h.bel.trans (hb.mono h.bel.size)⟩
theorem EchB_step {r c k i : Nat} {xs : List Int} {last : Int} : EchB r c xs (k + 1) i last ↔ (¬ rowBad c xs i last ∧ ¬ colBad r c xs i ∧ EchB r c xs k (i + 1) (leadC c (mxC c xs i))) := Iff.rfl
set_option maxHeartbeats 4000000 in
theorem sIsEch_t (r c N : Nat) (a : Option Addr) (m : Nat) (xs : List Int) (w : World) (h : Rd w a xs) (hx : xs.length = N) (hN : N = r * c) (hr : r ≤ 24) (hc : c ≤ 24) (nx : nums xs = true) (hm : isMat r c xs = true) (PB : Bool) (hPB : EchB r c xs r 0 (-1) ↔ PB = true) :
    Calls Try.prog 18 #[.agg #[.int .i64 r, .int .i64 c, .slice a N m]] w (Gives (.bool PB) w) := by
  have hle : r * c ≤ 24 * 24 := Nat.mul_le_mul hr hc
  rw [← hN] at hle
  have IM : Hid (∀ w', Rd w' a xs → Calls Try.prog 44 #[.agg #[.int .i64 r, .int .i64 c, .slice a N m]] w' (Gives (.bool true) w')) := fun w' h' => by
    have := sIsMat r c a m xs w' h' (by omega)
    rw [hx, hm] at this
    exact this
  have IX : Hid (∀ i j, i < r → j < c → ∃ P : Nat, i * c + j = P ∧ P < N ∧ IntKind.i64.wrap ((i : Int) * (c : Int)) = (i : Int) * (c : Int) ∧ IntKind.i64.wrap ((i : Int) * (c : Int) + (j : Int)) = (P : Int)) := fun i j hi hj => by
    have h1 : i * c + j < r * c := idx_lt hi hj
    have c1 : (i : Int) * (c : Int) = ((i * c : Nat) : Int) := (Int.natCast_mul _ _).symm
    refine ⟨i * c + j, rfl, by omega, IntWalk.i64_in _ (by rw [c1]; omega), ?_⟩
    rw [show (i : Int) * (c : Int) + (j : Int) = ((i * c + j : Nat) : Int) by rw [c1]; omega]
    exact IntWalk.i64_in _ (by omega)
  have CX : Hid (∀ i j wr, i < r → j < c → Rd wr a xs → ∀ P, i * c + j = P → ∃ b o : Nat, a = some ⟨b, o, none⟩ ∧ wr.cell? ⟨b, o + P, none⟩ = some (.int .i64 (mxC c xs i j))) := fun i j wr hi hj hrd P hP => by
    subst hP
    exact hrd _ (by rw [hx, hN]; exact idx_lt hi hj)
  have VN : Hid (∀ i j, i < r → j < c → NumP (mxC c xs i j)) := fun i j hi hj => mx_nums (by rw [hx, hN]) nx hi hj
  have ST : Hid (IsSt w r c a N m xs (w.alloc (.cells #[.int .i64 r, .int .i64 c, .slice a N m] 26))) := ⟨Blk3.at_ _ _ _ _ rfl, h.below ((Below.refl _ _).alloc (Nat.le_refl _) _), (Below.refl _ _).alloc (Nat.le_refl _) _⟩
  have HB := Lib.hid hPB
  clear hN hx nx hm h hPB
  go_enter Try.func18, Try.ntmps18
  go_wp2_with fail
  generalize w.alloc (.cells #[.int .i64 r, .int .i64 c, .slice a N m] 26) = W at ST ⊢
  go_loopw [2, 3, 4, 5, 6, 7, 8] (fun _ v3 v4 _ _ _ _ wr => ∃ (i k : Nat) (last : Int), v3 = .int .i64 last ∧ v4 = .int .i64 i ∧ i + k = r ∧ (EchB r c xs k i last ↔ PB = true) ∧ IsSt w r c a N m xs wr) (fun _ _ v4 _ _ _ _ _ => r - (intOf v4).toNat)
  case atStart => exact ⟨0, r, -1, rfl, rfl, by omega, HB.out, ST.out⟩
  case round =>
    clear ST HB
    obtain ⟨i, k, last, rfl, rfl, hik, hB, hst⟩ := hrel
    have ST := Lib.hid hst
    have HB := Lib.hid hB
    clear hst hB
    obtain ⟨p0, p1, p2, -, -, -⟩ := ST.out.blk.all
    by_cases hir : i < r
    · obtain ⟨k, rfl⟩ : ∃ k', k = k' + 1 := ⟨k - 1, by omega⟩
      have HB := Lib.hid (EchB_step.symm.trans HB.out)
      go_wp2_with fail
      refine (IM.out _ ST.out.rd).mono ?_
      rintro e w1 ⟨rfl, hb⟩
      have ST := Lib.hid (ST.out.step hb)
      clear hb p0 p1 p2
      obtain ⟨p0, p1, p2, -, -, -⟩ := ST.out.blk.all
      go_wp2_with fail
      clear p0 p1 p2
      go_loopw [5] (fun v5 wq => ∃ p : Nat, v5 = .int .i64 p ∧ p ≤ c ∧ (∀ q, q < p → mxC c xs i q = 0) ∧ IsSt w r c a N m xs wq) (fun v5 _ => c - (intOf v5).toNat)
      case atStart => exact ⟨0, rfl, by omega, fun q hq => by omega, ST.out⟩
      case round =>
        clear ST
        obtain ⟨p, rfl, hp, hz, hst⟩ := hrel
        have ST := Lib.hid hst
        have HZ := Lib.hid hz
        clear hst hz
        obtain ⟨p0, p1, p2, -, -, -⟩ := ST.out.blk.all
        by_cases hh : p < c ∧ mxC c xs i p = 0
        · obtain ⟨hpc, hx0⟩ := hh
          obtain ⟨P, hP, hPN, u1, u2⟩ := IX.out i p hir hpc
          have Pa : (0 : Int) ≤ (P : Int) := by omega
          have Pb : (P : Int) < (N : Int) := by omega
          obtain ⟨bb, oo, hba, hcell⟩ := CX.out i p _ hir hpc ST.out.rd P hP
          subst hba
          rw [hx0] at hcell
          have HZ2 : Hid (∀ q, q < p + 1 → mxC c xs i q = 0) := fun q hq => by
            rcases Nat.lt_or_ge q p with h3 | h3
            · exact HZ.out q h3
            · obtain rfl : q = p := by omega
              exact hx0
          clear hx0 hP
          go_wp2_with fail
          go_roundw
          case rel => exact ⟨p + 1, by go_num, by omega, HZ2.out, by first | exact ST.out | exact ST.out.drewN _⟩
          case measure => simp [intOf]; omega
        · have LC : Hid (leadC c (mxC c xs i) = p) := leadF_eq (Nat.zero_le _) (by omega) (fun q _ hq => HZ.out q hq) (fun h1 e => hh ⟨by omega, e⟩)
          by_cases hpc : p < c
          · obtain ⟨x, hx⟩ : ∃ x, mxC c xs i p = x := ⟨_, rfl⟩
            have X := Lib.hid hx
            have hx0 : ¬ x = 0 := fun e => hh ⟨hpc, by rw [hx, e]⟩
            have n1 : (x == 0) = false := by simpa using hx0
            obtain ⟨P, hP, hPN, u1, u2⟩ := IX.out i p hir hpc
            have Pa : (0 : Int) ≤ (P : Int) := by omega
            have Pb : (P : Int) < (N : Int) := by omega
            obtain ⟨bb, oo, hba, hcell⟩ := CX.out i p _ hir hpc ST.out.rd P hP
            subst hba
            rw [hx] at hcell
            clear hx hP hh
            go_wp2_with fail
            clear p0 p1 p2 hcell u1 u2 Pa Pb hPN
            go_loopw [6, 7] (fun v6 v7 wg => ∃ j : Nat, v7 = .int .i64 j ∧ j ≤ c ∧ v6 = .int .i64 (gcdN j (mxC c xs i)) ∧ IsSt w r c (some ⟨bb, oo, none⟩) N m xs wg) (fun _ v7 _ => c - (intOf v7).toNat)
            case atStart => exact ⟨0, rfl, by omega, rfl, by first | exact ST.out | exact ST.out.drewN _⟩
            case round =>
              clear ST
              obtain ⟨j, rfl, hj, rfl, hst⟩ := hrel
              have ST := Lib.hid hst
              clear hst
              obtain ⟨p0, p1, p2, -, -, -⟩ := ST.out.blk.all
              by_cases hjc : j < c
              · obtain ⟨P, hP, hPN, u1, u2⟩ := IX.out i j hir hjc
                have Pa : (0 : Int) ≤ (P : Int) := by omega
                have Pb : (P : Int) < (N : Int) := by omega
                obtain ⟨bb, oo, hba, hcell⟩ := CX.out i j _ hir hjc ST.out.rd P hP
                cases hba
                have hb := VN.out i j hir hjc
                have hg := gcdN_num (n := j) (f := mxC c xs i) (fun q hq => VN.out i q hir (by omega))
                have GS : Hid (gcdN (j + 1) (mxC c xs i) = ((gcdN j (mxC c xs i)).gcd (mxC c xs i j) : Int)) := rfl
                generalize gcdN j (mxC c xs i) = gg at hg GS
                generalize mxC c xs i j = x at hcell hb GS
                clear hP
                go_wp2_with fail
                refine (sGcd gg x _ hg hb).mono ?_
                rintro e w2 ⟨rfl, nq, rfl⟩
                go_wp2_with fail
                go_roundw
                case rel => exact ⟨j + 1, by go_num, by omega, by first | (rw [GS.out]; done) | (rw [GS.out]; simp), ST.out.drewN nq⟩
                case measure => simp [intOf]; omega
              · obtain rfl : c = j := by omega
                clear hjc
                obtain ⟨P, hP, hPN, u1, u2⟩ := IX.out i p hir hpc
                have Pa : (0 : Int) ≤ (P : Int) := by omega
                have Pb : (P : Int) < (N : Int) := by omega
                obtain ⟨bc, oc, hbc, hcell⟩ := CX.out i p _ hir hpc ST.out.rd P hP
                cases hbc
                rw [X.out] at hcell
                have GG : Hid (gcdN c (mxC c xs i) = gcdN c (mxC c xs i)) := rfl
                clear hP
                by_cases h1 : last = (c : Int)
                · have m1 : (last == (c : Int)) = true := by simp [h1]
                  have PN : Hid (PB = false) := Bool.eq_false_iff.mpr (fun e => (HB.out.mpr e).1 ⟨by rw [LC.out]; exact hpc, .inl h1⟩)
                  clear h1
                  go_wp2_with fail
                  exact bodyPost_ret (v := .bool false) (by simp [results, Try.results18, go_sem]) rfl ⟨by rw [PN.out], by first | exact ST.out.bel | exact below_drewN ST.out.bel _⟩
                · have m1 : (last == (c : Int)) = false := by simpa using h1
                  by_cases h2 : (p : Int) ≤ last
                  · have m2 : decide ((p : Int) ≤ last) = true := by simpa using h2
                    have PN : Hid (PB = false) := Bool.eq_false_iff.mpr (fun e => (HB.out.mpr e).1 ⟨by rw [LC.out]; exact hpc, .inr (.inl (by rw [LC.out]; exact h2))⟩)
                    clear h1
                    go_wp2_with fail
                    exact bodyPost_ret (v := .bool false) (by simp [results, Try.results18, go_sem]) rfl ⟨by rw [PN.out], by first | exact ST.out.bel | exact below_drewN ST.out.bel _⟩
                  · have m2 : decide ((p : Int) ≤ last) = false := by simpa using h2
                    by_cases h3 : x < 0
                    · have m3 : decide (x < 0) = true := by simpa using h3
                      have PN : Hid (PB = false) := Bool.eq_false_iff.mpr (fun e => (HB.out.mpr e).1 ⟨by rw [LC.out]; exact hpc, .inr (.inr (.inl (by rw [LC.out, X.out]; exact h3)))⟩)
                      clear h1
                      go_wp2_with fail
                      exact bodyPost_ret (v := .bool false) (by simp [results, Try.results18, go_sem]) rfl ⟨by rw [PN.out], by first | exact ST.out.bel | exact below_drewN ST.out.bel _⟩
                    · have m3 : decide (x < 0) = false := by simpa using h3
                      by_cases h4 : gcdN c (mxC c xs i) = 1
                      · have m4 : (gcdN c (mxC c xs i) != 1) = false := by simp [h4]
                        have GR : Hid (¬ rowBad c xs i last) := fun ⟨_, h⟩ => by
                          rw [LC.out, X.out] at h
                          rcases h with h | h | h | h
                          · exact h1 h
                          · exact h2 h
                          · exact h3 h
                          · exact h h4
                        clear h1 h2 h3 h4
                        go_wp2_with fail
                        clear p0 p1 p2 hcell
                        go_loopw [2, 8] (fun _ v8 wk => ∃ k2 : Nat, v8 = .int .i64 k2 ∧ k2 ≤ r ∧ (∀ q, q < k2 → q ≠ i → mxC c xs q p = 0) ∧ IsSt w r c (some ⟨bb, oo, none⟩) N m xs wk) (fun _ v8 _ => r - (intOf v8).toNat)
                        case atStart => exact ⟨0, rfl, by omega, fun q hq => by omega, by first | exact ST.out | exact ST.out.drewN _⟩
                        case round =>
                          clear ST
                          obtain ⟨k2, rfl, hk2, hk0, hst⟩ := hrel
                          have ST := Lib.hid hst
                          have K0 := Lib.hid hk0
                          clear hst hk0
                          obtain ⟨p0, p1, p2, -, -, -⟩ := ST.out.blk.all
                          by_cases hkr : k2 < r
                          · obtain ⟨Q, hQ, hQN, y1, y2⟩ := IX.out k2 p hkr hpc
                            have Qa : (0 : Int) ≤ (Q : Int) := by omega
                            have Qb : (Q : Int) < (N : Int) := by omega
                            obtain ⟨bq, oq, hbq, hcell⟩ := CX.out k2 p _ hkr hpc ST.out.rd Q hQ
                            cases hbq
                            by_cases hki : k2 = i
                            · have n5 : ((k2 : Int) != (i : Int)) = false := by simp [hki]
                              have K1 : Hid (∀ q, q < k2 + 1 → q ≠ i → mxC c xs q p = 0) := fun q hq hqi => K0.out q (by omega) hqi
                              clear hki hQ hcell
                              go_wp2_with fail
                              go_roundw
                              case rel => exact ⟨k2 + 1, by go_num, by omega, K1.out, by first | exact ST.out | exact ST.out.drewN _⟩
                              case measure => simp [intOf]; omega
                            · have n5 : ((k2 : Int) != (i : Int)) = true := by simp; omega
                              obtain ⟨y, hy⟩ : ∃ y, mxC c xs k2 p = y := ⟨_, rfl⟩
                              rw [hy] at hcell
                              by_cases hy0 : y = 0
                              · have n6 : (y != 0) = false := by simp [hy0]
                                have K1 : Hid (∀ q, q < k2 + 1 → q ≠ i → mxC c xs q p = 0) := fun q hq hqi => by
                                  rcases Nat.lt_or_ge q k2 with h3 | h3
                                  · exact K0.out q h3 hqi
                                  · obtain rfl : q = k2 := by omega
                                    rw [hy, hy0]
                                clear hy hy0 hQ hki
                                go_wp2_with fail
                                go_roundw
                                case rel => exact ⟨k2 + 1, by go_num, by omega, K1.out, by first | exact ST.out | exact ST.out.drewN _⟩
                                case measure => simp [intOf]; omega
                              · have n6 : (y != 0) = true := by simpa using hy0
                                have PN : Hid (PB = false) := Bool.eq_false_iff.mpr (fun e => (HB.out.mpr e).2.1 ⟨by rw [LC.out]; exact hpc, k2, hkr, hki, by rw [LC.out, hy]; exact hy0⟩)
                                clear hy hy0 hQ hki
                                go_wp2_with fail
                                exact bodyPost_ret (v := .bool false) (by simp [results, Try.results18, go_sem]) rfl ⟨by rw [PN.out], by first | exact ST.out.bel | exact below_drewN ST.out.bel _⟩
                          · obtain rfl : r = k2 := by omega
                            have NC : Hid (¬ colBad r c xs i) := fun ⟨_, q, hq, hqi, h⟩ => h (by rw [LC.out]; exact K0.out q hq hqi)
                            have HN2 : Hid (EchB r c xs k (i + 1) (p : Int) ↔ PB = true) := by
                              have h := HB.out
                              rw [LC.out] at h
                              exact ⟨fun h1 => h.mp ⟨GR.out, NC.out, h1⟩, fun e => (h.mpr e).2.2⟩
                            clear hkr
                            go_wp2_with fail
                            go_roundw
                            case rel => exact ⟨i + 1, k, (p : Int), rfl, by go_num, by omega, HN2.out, by first | exact ST.out | exact ST.out.drewN _⟩
                            case measure => simp [intOf]; omega
                      · have m4 : (gcdN c (mxC c xs i) != 1) = true := by simpa using h4
                        have PN : Hid (PB = false) := Bool.eq_false_iff.mpr (fun e => (HB.out.mpr e).1 ⟨by rw [LC.out]; exact hpc, .inr (.inr (.inr h4))⟩)
                        clear h1 h4
                        go_wp2_with fail
                        exact bodyPost_ret (v := .bool false) (by simp [results, Try.results18, go_sem]) rfl ⟨by rw [PN.out], by first | exact ST.out.bel | exact below_drewN ST.out.bel _⟩
          · obtain rfl : c = p := by omega
            clear hh hpc
            go_wp2_with fail
            clear p0 p1 p2
            go_loopw [6, 7] (fun v6 v7 wg => ∃ j : Nat, v7 = .int .i64 j ∧ j ≤ c ∧ v6 = .int .i64 (gcdN j (mxC c xs i)) ∧ IsSt w r c a N m xs wg) (fun _ v7 _ => c - (intOf v7).toNat)
            case atStart => exact ⟨0, rfl, by omega, rfl, by first | exact ST.out | exact ST.out.drewN _⟩
            case round =>
              clear ST
              obtain ⟨j, rfl, hj, rfl, hst⟩ := hrel
              have ST := Lib.hid hst
              clear hst
              obtain ⟨p0, p1, p2, -, -, -⟩ := ST.out.blk.all
              by_cases hjc : j < c
              · obtain ⟨P, hP, hPN, u1, u2⟩ := IX.out i j hir hjc
                have Pa : (0 : Int) ≤ (P : Int) := by omega
                have Pb : (P : Int) < (N : Int) := by omega
                obtain ⟨bb, oo, hba, hcell⟩ := CX.out i j _ hir hjc ST.out.rd P hP
                cases hba
                have hb := VN.out i j hir hjc
                have hg := gcdN_num (n := j) (f := mxC c xs i) (fun q hq => VN.out i q hir (by omega))
                have GS : Hid (gcdN (j + 1) (mxC c xs i) = ((gcdN j (mxC c xs i)).gcd (mxC c xs i j) : Int)) := rfl
                generalize gcdN j (mxC c xs i) = gg at hg GS
                generalize mxC c xs i j = x at hcell hb GS
                clear hP
                go_wp2_with fail
                refine (sGcd gg x _ hg hb).mono ?_
                rintro e w2 ⟨rfl, nq, rfl⟩
                go_wp2_with fail
                go_roundw
                case rel => exact ⟨j + 1, by go_num, by omega, by first | (rw [GS.out]; done) | (rw [GS.out]; simp), ST.out.drewN nq⟩
                case measure => simp [intOf]; omega
              · obtain rfl : c = j := by omega
                clear hjc
                have GR : Hid (¬ rowBad c xs i last) := fun h => by have := h.1; rw [LC.out] at this; omega
                have NC : Hid (¬ colBad r c xs i) := fun h => by have := h.1; rw [LC.out] at this; omega
                have HN2 : Hid (EchB r c xs k (i + 1) (c : Int) ↔ PB = true) := by
                  have h := HB.out
                  rw [LC.out] at h
                  exact ⟨fun h1 => h.mp ⟨GR.out, NC.out, h1⟩, fun e => (h.mpr e).2.2⟩
                have m0 : decide ((c : Int) < (c : Int)) = false := by simp
                go_wp2_with fail
                clear p0 p1 p2
                go_loopw [2, 8] (fun _ v8 wk => v8 = .int .i64 0 ∧ IsSt w r c a N m xs wk) (fun _ _ _ => 0)
                case atStart => exact ⟨rfl, by first | exact ST.out | exact ST.out.drewN _⟩
                case round =>
                  clear ST
                  obtain ⟨rfl, hst⟩ := hrel
                  have ST := Lib.hid hst
                  clear hst
                  obtain ⟨p0, p1, p2, -, -, -⟩ := ST.out.blk.all
                  have r0 : 0 < r := by omega
                  go_wp2_with fail
                  go_roundw
                  case rel => exact ⟨i + 1, k, (c : Int), rfl, by go_num, by omega, HN2.out, by first | exact ST.out | exact ST.out.drewN _⟩
                  case measure => simp [intOf]; omega
    · obtain rfl : k = 0 := by omega
      have PT : Hid (PB = true) := HB.out.mp trivial
      go_wp2_with fail
      refine (IM.out _ ST.out.rd).mono ?_
      rintro e w1 ⟨rfl, hb⟩
      have ST := Lib.hid (ST.out.step hb)
      clear hb p0 p1 p2
      go_wp2_with fail
      exact bodyPost_ret (v := .bool true) (by simp [results, Try.results18, go_sem]) rfl ⟨by rw [PT.out], ST.out.bel⟩
end Go.Proofs.Ytpknondccajinaa
end

section
/-
  Chapter 3, in the program: IsMatrix.
-/
namespace Go.Proofs.Ytpknondccajinaa
open Go.RowKit

theorem iSize_t (n : Int) (w : World) (h1 : 0 ≤ n) (h2 : n ≤ 24) :
    Calls Try.prog 77 #[.int .i64 n] w fun e w' => e = .returned (.bool true) ∧ w = w' := by
  go_enter Try.func77, Try.ntmps77
  go_wp2
  go_ret
  exact ⟨rfl, rfl⟩
theorem iSize_f (n : Int) (w : World) (h : n < 0 ∨ 24 < n) :
    Calls Try.prog 77 #[.int .i64 n] w fun e w' => e = .returned (.bool false) ∧ w = w' := by
  by_cases h1 : 0 ≤ n
  · have h2 : decide (n ≤ 24) = false := by simp; omega
    go_enter Try.func77, Try.ntmps77
    go_wp2
    go_ret
    exact ⟨rfl, rfl⟩
  · go_enter Try.func77, Try.ntmps77
    go_wp2
    go_ret
    exact ⟨rfl, rfl⟩
theorem iSize (n : Int) (w : World) :
    Calls Try.prog 77 #[.int .i64 n] w fun e w' => e = .returned (.bool (decide (SizeP n))) ∧ w = w' := by
  by_cases h : SizeP n
  · rw [decide_eq_true h]; exact iSize_t n w h.1 h.2
  · rw [decide_eq_false h]; exact iSize_f n w (by unfold SizeP at h; omega)
theorem iIsNum (n : Int) (w : World) :
    Calls Try.prog 80 #[.int .i64 n] w fun e w' => e = .returned (.bool (decide (NumP n))) ∧ w = w' := by
  by_cases h : NumP n
  · rw [decide_eq_true h]; exact iIsNum_t n w h.1 h.2
  · rw [decide_eq_false h]; exact iIsNum_f n w (by unfold NumP at h; omega)
/-- The step of IsMatrix's fold. -/
theorem iStep (b : Bool) (i j z : Int) (w : World) :
    Calls Try.prog 79 #[.bool b, .int .i64 i, .int .i64 j, .int .i64 z] w fun e w' => e = .returned (.bool (b && decide (NumP z))) ∧ w = w' := by
  cases b
  · go_enter Try.func79, Try.ntmps79
    go_wp2_with fail
    go_ret
    exact ⟨rfl, rfl⟩
  · go_enter Try.func79, Try.ntmps79
    go_wp2_with fail
    refine (iIsNum z _).mono ?_
    rintro e w' ⟨rfl, rfl⟩
    go_wp2_with fail
    go_ret
    exact ⟨rfl, rfl⟩
theorem take_nums (zs : List Int) (k : Nat) (hk : k < zs.length) : nums (zs.take (k + 1)) = (nums (zs.take k) && decide (NumP (zs.getD k 0))) := by
  unfold nums
  rw [List.take_succ_eq_append_getElem hk, List.all_append]
  simp only [List.all_cons, List.all_nil, Bool.and_true, List.getD, List.getElem?_eq_getElem hk, Option.getD_some]
set_option maxHeartbeats 400000 in
theorem iFoldB (r c : Int) (a : Option Addr) (cap : Nat) (zs : List Int) (w : World) (h : Rd w a zs) (hn : zs.length ≤ 16777216) (hc : zs.length = 0 ∨ 0 < c) :
    Calls Try.prog 78 #[.agg #[.int .i64 r, .int .i64 c, .slice a zs.length cap], .bool true, .func (.func 79) #[] #[]] w (Gives (.bool (nums zs)) w) := by
  have B0 : ∀ o, Below w.heap.size w (w.alloc o) := fun o => (Below.refl _ _).alloc (Nat.le_refl _) o
  have BH := Lib.hid B0
  have H := Lib.hid h
  obtain ⟨n, hnn⟩ : ∃ n, zs.length = n := ⟨_, rfl⟩
  have HN := Lib.hid hnn
  rw [hnn] at hn hc ⊢
  clear h B0 hnn
  go_enter Try.func78, Try.ntmps78
  go_wp2_with fail
  go_loopw [7, 8, 9, 14] (fun b _ _ i wr => ∃ k : Nat, i = .int .i64 k ∧ k ≤ n ∧ b = .bool (nums (zs.take k)) ∧ ∃ q, wr = (w.alloc (.cells #[.int .i64 r, .int .i64 c, .slice a n cap] 26)).drewN q) (fun _ _ _ i _ => n - (intOf i).toNat)
  case atStart => exact ⟨0, rfl, by omega, rfl, 0, rfl⟩
  case round =>
    obtain ⟨k, rfl, hk, rfl, q, rfl⟩ := hrel
    by_cases hlt : k < n
    · have c0 : (c == 0) = false := by simp; omega
      obtain ⟨b, o, rfl, hcell⟩ := (H.out.below (BH.out (.cells #[.int .i64 r, .int .i64 c, .slice a n cap] 26))) k (by rw [HN.out]; exact hlt)
      obtain ⟨z, hz⟩ : ∃ z, zs.getD k 0 = z := ⟨_, rfl⟩
      obtain ⟨bb, hbb⟩ : ∃ bb, nums (zs.take k) = bb := ⟨_, rfl⟩
      rw [hz] at hcell
      have Z := Lib.hid hz
      have BB := Lib.hid hbb
      rw [hbb]
      clear hz hbb
      go_wp2_with fail
      go_quiet ((refine (iStep _ _ _ _ _).mono ?_; rintro e w' ⟨rfl, rfl⟩; exact ⟨rfl, _, rfl⟩))
      go_wp2_with fail
      go_roundw
      case rel => exact ⟨k + 1, by go_num, by omega, by rw [take_nums zs k (by rw [HN.out]; exact hlt), BB.out, Z.out], _, rfl⟩
      case measure => simp [intOf]; omega
    · have hkn : k = n := by omega
      subst hkn
      have E : Hid (nums (zs.take k) = nums zs) := by show nums (zs.take k) = nums zs; rw [← HN.out, List.take_length]
      go_wp2_with fail
      go_ret
      exact ⟨by rw [E.out]; rfl, below_drewN (BH.out _) q⟩

set_option maxHeartbeats 400000 in
theorem iIsMat (r c : Int) (a : Option Addr) (cap : Nat) (zs : List Int) (w : World) (h : Rd w a zs) (hn : zs.length ≤ 16777216) :
    Calls Try.prog 36 #[.agg #[.int .i64 r, .int .i64 c, .slice a zs.length cap]] w (Gives (.bool (isMat r c zs)) w) := by
  have B0 : ∀ o, Below w.heap.size w (w.alloc o) := fun o => (Below.refl _ _).alloc (Nat.le_refl _) o
  have BH := Lib.hid B0
  have H := Lib.hid h
  clear h B0
  obtain ⟨n, hnn⟩ : ∃ n, zs.length = n := ⟨_, rfl⟩
  have HN := Lib.hid hnn
  have ED : isMat r c zs = (decide (SizeP r) && decide (SizeP c) && decide ((n : Int) = r * c) && nums zs) := by unfold isMat; rw [hnn]
  have E := Lib.hid ED
  rw [hnn] at hn ⊢
  clear hnn ED
  by_cases hr : 0 ≤ r ∧ r ≤ 24
  · by_cases hc : 0 ≤ c ∧ c ≤ 24
    · obtain ⟨m1, m2⟩ := mul_size r c hr hc
      by_cases hl : (n : Int) = r * c
      · have l1 : ((n : Int) != r * c) = false := by simpa using hl
        have l2 : ((n : Int) == r * c) = true := by simpa using hl
        have E2 : Hid (isMat r c zs = nums zs) := by
          show isMat r c zs = nums zs
          rw [E.out, show decide (SizeP r) = true from decide_eq_true hr, show decide (SizeP c) = true from decide_eq_true hc, show decide ((n : Int) = r * c) = true from decide_eq_true hl]; rfl
        have hz : zs.length = 0 ∨ 0 < c := by
          rw [HN.out]
          rcases Nat.eq_zero_or_pos n with e | e
          · exact .inl e
          · right
            rcases Int.lt_or_lt_of_ne (a := c) (b := 0) (fun e0 => by rw [e0, Int.mul_zero] at hl; omega) with h | h <;> omega
        have HZ := Lib.hid hz
        clear hl hz
        obtain ⟨r1, r2⟩ := hr
        obtain ⟨c1, c2⟩ := hc
        go_enter Try.func36, Try.ntmps36
        go_wp2_with (go_at_call 77; refine (iSize_t _ _ (by omega) (by omega)).mono ?_; rintro e w' ⟨rfl, rfl⟩)
        have ST := iFoldB r c a cap zs _ (H.out.below (BH.out (.cells #[.int .i64 r, .int .i64 c, .slice a n cap] 26))) (by rw [HN.out]; exact hn) HZ.out
        rw [HN.out] at ST
        refine ST.mono ?_
        clear ST
        rintro e w' ⟨rfl, hb⟩
        have HB := Lib.hid ((BH.out _).trans (hb.mono (BH.out (.cells #[.int .i64 r, .int .i64 c, .slice a n cap] 26)).size))
        clear hb
        go_wp2_with fail
        go_ret
        exact ⟨by rw [E2.out]; rfl, HB.out⟩
      · have l1 : ((n : Int) != r * c) = true := by simpa using hl
        have l2 : ((n : Int) == r * c) = false := by simpa using hl
        have E2 : Hid (isMat r c zs = false) := by
          show isMat r c zs = false
          rw [E.out, show decide ((n : Int) = r * c) = false from decide_eq_false hl]; simp
        clear hl
        obtain ⟨r1, r2⟩ := hr
        obtain ⟨c1, c2⟩ := hc
        go_enter Try.func36, Try.ntmps36
        go_wp2_with (go_at_call 77; refine (iSize_t _ _ (by omega) (by omega)).mono ?_; rintro e w' ⟨rfl, rfl⟩)
        go_ret
        exact ⟨by rw [E2.out]; rfl, BH.out _⟩
    · have E2 : Hid (isMat r c zs = false) := by
        show isMat r c zs = false
        rw [E.out, show decide (SizeP c) = false from decide_eq_false hc]; simp
      have hc' : c < 0 ∨ 24 < c := by omega
      clear hc
      go_enter Try.func36, Try.ntmps36
      go_wp2_with fail
      refine (iSize_t r _ hr.1 hr.2).mono ?_
      rintro e w' ⟨rfl, rfl⟩
      go_wp2_with fail
      refine (iSize_f c _ hc').mono ?_
      rintro e w' ⟨rfl, rfl⟩
      go_wp2_with fail
      go_ret
      exact ⟨by rw [E2.out]; rfl, BH.out _⟩
  · have E2 : Hid (isMat r c zs = false) := by
      show isMat r c zs = false
      rw [E.out, show decide (SizeP r) = false from decide_eq_false hr]; simp
    have hr' : r < 0 ∨ 24 < r := by omega
    clear hr
    go_enter Try.func36, Try.ntmps36
    go_wp2_with fail
    refine (iSize_f r _ hr').mono ?_
    rintro e w' ⟨rfl, rfl⟩
    go_wp2_with fail
    go_ret
    exact ⟨by rw [E2.out]; rfl, BH.out _⟩
end Go.Proofs.Ytpknondccajinaa
end

section
/-
  Chapter 3, in the program: a row that shares its memory with the matrix.
-/
namespace Go.Proofs.Ytpknondccajinaa
set_option maxRecDepth 100000
open Go.RowKit

/-- The cells of a row. -/
def rwL (c : Nat) (v : Nat → Int) : List Int := (List.range c).map v
theorem rwL_length (c : Nat) (v : Nat → Int) : (rwL c v).length = c := by simp [rwL]
theorem rwL_at {c : Nat} {v : Nat → Int} {j : Nat} (hj : j < c) : (rwL c v).getD j 0 = v j := by simp [rwL, List.getD, hj]
theorem rwL_congr {c : Nat} {u v : Nat → Int} (h : ∀ j, j < c → u j = v j) : rwL c u = rwL c v := List.map_congr_left fun j hj => h j (List.mem_range.mp hj)
/-- What rowIn gives: a slice q' of the room behind cell D of what q begins. -/
def RowAt (q : Option Addr) (D c : Nat) (w : World) (e : Ending) (w' : World) : Prop :=
  ∃ (q' : Option Addr) (m' : Nat), e = .returned (.slice q' c m') ∧ c ≤ m' ∧ (∀ g o : Nat, q = some ⟨g, o, none⟩ → 0 < c → q' = some ⟨g, o + D, none⟩) ∧ (q = none → q' = none) ∧ Below w.heap.size w w'
/-- A row of what is read. -/
theorem Rd.row {w : World} {q q' : Option Addr} {xs : List Int} {r c i : Nat} (h : Rd w q xs) (hx : xs.length = r * c) (hi : i < r) (hq : ∀ g o : Nat, q = some ⟨g, o, none⟩ → 0 < c → q' = some ⟨g, o + i * c, none⟩) : Rd w q' (rwL c (mxC c xs i)) := fun j hj => by
  rw [rwL_length] at hj
  obtain ⟨b, o, ha, hc⟩ := h (i * c + j) (by rw [hx]; exact idx_lt hi hj)
  refine ⟨b, o + i * c, hq b o ha (by omega), ?_⟩
  rw [rwL_at hj, Nat.add_assoc]
  exact hc
set_option maxHeartbeats 1000000 in
theorem iRowIn (r c i D N cap : Nat) (q : Option Addr) (w : World) (hq : Spot q) (hD : i * c = D) (hN : D + c ≤ N) (hc : N ≤ cap) (hn : q = none → cap = 0) (h1 : N ≤ 600) (hi : i ≤ 600) :
    Calls Try.prog 39 #[.agg #[.int .i64 r, .int .i64 c, .slice q N cap], .int .i64 i] w (RowAt q D c w) := by
  have u1 : (i : Int) * (c : Int) = (D : Int) := by rw [← hD]; exact (Int.natCast_mul _ _).symm
  have u2 : ((i : Int) + 1) * (c : Int) = ((D + c : Nat) : Int) := by rw [Int.add_mul, Int.one_mul, u1]; rfl
  have v1 : IntKind.i64.wrap ((i : Int) * (c : Int)) = (D : Int) := by rw [u1]; exact IntWalk.i64_in _ (by omega)
  have v2 : IntKind.i64.wrap ((i : Int) + 1) = (i : Int) + 1 := IntWalk.i64_in _ (by omega)
  have v3 : IntKind.i64.wrap (((i : Int) + 1) * (c : Int)) = ((D + c : Nat) : Int) := by rw [u2]; exact IntWalk.i64_in _ (by omega)
  have Z : Hid (c = 0 → D = 0) := fun h => by rw [← hD, h, Nat.mul_zero]
  have Dm : D + c ≤ cap := by omega
  have K0 : Hid (Blk3 (w.alloc (.cells #[.int .i64 r, .int .i64 c, .slice q N cap] 26)) w.heap.size 26 (.int .i64 r) (.int .i64 c) (.slice q N cap)) := Blk3.at_ _ _ _ _ rfl
  have B : Hid (Below w.heap.size w (w.alloc (.cells #[.int .i64 r, .int .i64 c, .slice q N cap] 26))) := (Below.refl _ _).alloc (Nat.le_refl _) _
  clear hD u1 u2
  rcases hq with rfl | ⟨g, o, rfl⟩
  · obtain rfl : cap = 0 := hn rfl
    obtain rfl : c = 0 := by omega
    obtain rfl : D = 0 := by omega
    obtain rfl : N = 0 := by omega
    go_enter Try.func39, Try.ntmps39
    go_wp2_with fail
    exact bodyPost_ret (v := .slice none 0 0) (by simp [results, Try.results39, go_sem]) rfl ⟨none, 0, rfl, Nat.le_refl _, (fun g o h => by cases h), (fun _ => rfl), B.out⟩
  · rcases Nat.lt_or_ge D cap with hlt | hge
    · go_enter Try.func39, Try.ntmps39
      go_wp2_with fail
      rw [show D + c - D = c by omega]
      exact bodyPost_ret (v := .slice (some ⟨g, o + D, none⟩) c (cap - D)) (by simp [results, Try.results39, go_sem]) rfl ⟨_, _, rfl, by omega, (fun g' o' h _ => by injection h with h; injection h with h1 h2; rw [h1, h2]), (fun h => by cases h), B.out⟩
    · obtain rfl : c = 0 := by omega
      obtain rfl : D = 0 := Z.out rfl
      obtain rfl : cap = 0 := by omega
      obtain rfl : N = 0 := by omega
      go_enter Try.func39, Try.ntmps39
      go_wp2_with fail
      exact bodyPost_ret (v := .slice (some ⟨g, o, none⟩) 0 0) (by simp [results, Try.results39, go_sem]) rfl ⟨_, _, rfl, Nat.le_refl _, (fun g' o' h h0 => by omega), (fun h => by cases h), B.out⟩
end Go.Proofs.Ytpknondccajinaa
end
