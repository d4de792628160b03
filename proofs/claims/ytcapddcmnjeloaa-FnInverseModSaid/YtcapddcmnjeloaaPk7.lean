/-
  Texts of this seat, joined: ModL · NumGcd · NumFloor · NumExt · MdS · Shelf · CloneI · RdS · PrimS · AppI · EchS
-/
import Derived.Deep.LoopGhost
import Derived.Deep.RegionHeld3
import Derived.Deep.RegionWith
import Derived.StillTailTactics
import Derived.Ground.Names2Prog
import Derived.Shelf.Slices.Clone
import Derived.Test.YtcapddcmnjeloaaProg
import Derived.Deep.DeepCutAuto
import Derived.IntWalk
import Derived.Test.YtcapddcmnjeloaaPk1
import Derived.Test.YtcapddcmnjeloaaPk2
import Derived.Test.YtcapddcmnjeloaaPk3

section
/-
  Plain mathematics of chapter 8: what solutions over residues are, and what the composed laws of the chapter say of them. Nothing of a program is used.
-/
namespace Go.Proofs.Ytcapddcmnjeloaa

theorem cg_tmod (p a : Int) : Cg p (a.tmod p) a := by
  refine ⟨-(a.tdiv p), ?_⟩
  rw [Int.tmod_def, Int.mul_neg]
  omega
theorem tmod_smallP {p : Int} (hp : 0 < p) (a : Int) : -p < a.tmod p ∧ a.tmod p < p := by
  refine ⟨?_, Int.tmod_lt_of_pos a hp⟩
  have h1 := Int.tmod_lt_of_pos (-a) hp
  rw [Int.neg_tmod] at h1
  omega
/-- A small number that is 0 over the residues is 0. -/
theorem Cg.small {p a : Int} (h1 : -p < a) (h2 : a < p) (h : Cg p a 0) : a = 0 := by
  rcases Int.lt_or_le a 0 with h3 | h3
  · have : Cg p (-a) 0 := by simpa using h.neg
    have := Cg.eq (p := p) (a := -a) (b := 0) ⟨by omega, by omega⟩ ⟨by omega, by omega⟩ this
    omega
  · exact Cg.eq ⟨h3, h2⟩ ⟨by omega, by omega⟩ h
theorem dvd_tmod {p a b : Int} (h : Cg p a b) : (a - b).tmod p = 0 := Int.tmod_eq_zero_of_dvd h
/-- The sum that SolveMod makes for one unknown, up to a column. -/
def slF (p : Int) (u b : Nat → Int) : Nat → Int
  | 0 => 0
  | m + 1 => (slF p u b m + u m * (b m % p)) % p
theorem slF_can {p : Int} (hp : 0 < p) (u b : Nat → Int) : ∀ m, 0 ≤ slF p u b m ∧ slF p u b m < p
  | 0 => ⟨Int.le_refl _, hp⟩
  | m + 1 => ⟨Int.emod_nonneg _ (by omega), Int.emod_lt_of_pos _ hp⟩
theorem slF_cg {p : Int} (u b : Nat → Int) : ∀ m, Cg p (slF p u b m) (sumN m fun j => u j * b j)
  | 0 => Cg.refl _ _
  | m + 1 => (Cg.emod p _).trans ((slF_cg u b m).add ((Cg.refl p _).mul (Cg.emod p _)))
/-- What Go makes of it: the sums are not below 0. -/
theorem slF_go {p : Int} (hp : 0 < p) {u b : Nat → Int} {m : Nat} (hu : 0 ≤ u m) : (slF p u b m + u m * (b m % p)).tmod p = slF p u b (m + 1) := by
  have h1 := (slF_can hp u b m).1
  have h2 : 0 ≤ u m * (b m % p) := Int.mul_nonneg hu (Int.emod_nonneg _ (by omega))
  exact Int.tmod_eq_emod_of_nonneg (by omega)
theorem slF_big {p : Int} (hp : 0 < p) {u b : Nat → Int} {m : Nat} (hu : 0 ≤ u m ∧ u m < p) : 0 ≤ slF p u b m + u m * (b m % p) ∧ slF p u b m + u m * (b m % p) ≤ p * p := by
  have h1 := slF_can hp u b m
  have h2 : 0 ≤ b m % p := Int.emod_nonneg _ (by omega)
  have h3 : b m % p < p := Int.emod_lt_of_pos _ hp
  have h4 : 0 ≤ u m * (b m % p) := Int.mul_nonneg hu.1 h2
  have h5 : u m * (b m % p) ≤ (p - 1) * (p - 1) := Int.mul_le_mul (by omega) (by omega) h2 (by omega)
  have h6 : (p - 1) * (p - 1) = p * p - 2 * p + 1 := by grind
  omega
/-- The solution, as a list. -/
def solL (p : Int) (n : Nat) (vs bs : List Int) : List Int := (List.range n).map fun i => slF p (fun j => vs.getD (i * n + j) 0) (fun j => bs.getD j 0) n
theorem solL_length (p : Int) (n : Nat) (vs bs : List Int) : (solL p n vs bs).length = n := by unfold solL; rw [List.length_map, List.length_range]
theorem solL_at {p : Int} {n : Nat} {vs bs : List Int} {i : Nat} (hi : i < n) : (solL p n vs bs).getD i 0 = slF p (fun j => mxC n vs i j) (fun j => bs.getD j 0) n := by
  unfold solL mxC
  simp [List.getD, hi]
theorem solL_can {p : Int} (hp : 0 < p) {n : Nat} {vs bs : List Int} {i : Nat} (hi : i < n) : 0 ≤ (solL p n vs bs).getD i 0 ∧ (solL p n vs bs).getD i 0 < p := by
  rw [solL_at hi]
  exact slF_can hp _ _ _
/-- It solves. -/
theorem solL_cg {p : Int} {n : Nat} {xs vs bs : List Int} (h : InvX p n (mxC n xs) (mxC n vs)) {i : Nat} (hi : i < n) : Cg p (sumN n fun j => mxC n xs i j * (solL p n vs bs).getD j 0) (bs.getD i 0) := by
  have h1 : Cg p (sumN n fun j => mxC n xs i j * (solL p n vs bs).getD j 0) (sumN n fun j => sumN n fun k => mxC n xs i j * mxC n vs j k * bs.getD k 0) := by
    refine Cg.sum fun j hj => ?_
    rw [solL_at hj]
    refine ((Cg.refl p _).mul (slF_cg _ _ n)).trans (Cg.of_eq ?_)
    rw [sumN_mul_left]
    exact sumN_congr fun k _ => (Int.mul_assoc _ _ _).symm
  rw [sumN_swap] at h1
  have h2 : Cg p (sumN n fun k => sumN n fun j => mxC n xs i j * mxC n vs j k * bs.getD k 0) (sumN n fun k => idX i k * bs.getD k 0) := by
    refine Cg.sum fun k hk => ?_
    refine (Cg.of_eq ?_).trans ((h.right i k hi hk).mul (Cg.refl p (bs.getD k 0)))
    unfold mulX
    rw [← sumN_mul]
  refine (h1.trans h2).trans (Cg.of_eq ?_)
  rw [sumN_one (a := i) hi (fun k _ hne => by unfold idX; rw [if_neg (fun e => hne e.symm), Int.zero_mul])]
  unfold idX
  rw [if_pos rfl, Int.one_mul]
/-- What the composed law adds up in a row. -/
def lwF (p : Int) (M x : Nat → Int) (b : Int) : Nat → Int
  | 0 => (-b).tmod p
  | m + 1 => (lwF p M x b m + (M m).tmod p * x m).tmod p
theorem lwF_small {p : Int} (hp : 0 < p) (M x : Nat → Int) (b : Int) : ∀ m, -p < lwF p M x b m ∧ lwF p M x b m < p
  | 0 => tmod_smallP hp _
  | _ + 1 => tmod_smallP hp _
theorem lwF_cg (p : Int) (M x : Nat → Int) (b : Int) : ∀ m, Cg p (lwF p M x b m) (-b + sumN m fun j => M j * x j)
  | 0 => (cg_tmod p _).trans (Cg.of_eq (by show -b = -b + 0; omega))
  | m + 1 => by
    refine (cg_tmod p _).trans (((lwF_cg p M x b m).add ((cg_tmod p _).mul (Cg.refl p _))).trans (Cg.of_eq ?_))
    show -b + (sumN m fun j => M j * x j) + M m * x m = -b + ((sumN m fun j => M j * x j) + M m * x m)
    omega
theorem lwF_big {p : Int} (hp : 0 < p) {M x : Nat → Int} {b : Int} {m : Nat} (hx : 0 ≤ x m ∧ x m < p) : -(p * p) ≤ lwF p M x b m + (M m).tmod p * x m ∧ lwF p M x b m + (M m).tmod p * x m ≤ p * p := by
  have h1 := lwF_small hp M x b m
  have h2 := tmod_smallP hp (M m)
  have h5 : (M m).tmod p * x m ≤ (p - 1) * (p - 1) := by
    rcases Int.lt_or_le ((M m).tmod p) 0 with h | h
    · have a1 : (M m).tmod p * x m ≤ 0 := by
        have := Int.mul_nonneg (show 0 ≤ -(M m).tmod p by omega) hx.1
        rw [Int.neg_mul] at this; omega
      have a2 : 0 ≤ (p - 1) * (p - 1) := Int.mul_nonneg (by omega) (by omega)
      omega
    · exact Int.mul_le_mul (by omega) (by omega) hx.1 (by omega)
  have h7 : -((M m).tmod p) * x m ≤ (p - 1) * (p - 1) := by
    rcases Int.lt_or_le (-(M m).tmod p) 0 with h | h
    · have a1 : -(M m).tmod p * x m ≤ 0 := by
        have := Int.mul_nonneg (show 0 ≤ (M m).tmod p by omega) hx.1
        rw [Int.neg_mul]; omega
      have a2 : 0 ≤ (p - 1) * (p - 1) := Int.mul_nonneg (by omega) (by omega)
      omega
    · exact Int.mul_le_mul (by omega) (by omega) hx.1 (by omega)
  have h6 : (p - 1) * (p - 1) = p * p - 2 * p + 1 := by grind
  rw [Int.neg_mul] at h7
  omega
/-- The law's row comes out 0. -/
theorem lwF_zero {p : Int} (hp : 0 < p) {n : Nat} {xs vs bs : List Int} (h : InvX p n (mxC n xs) (mxC n vs)) {i : Nat} (hi : i < n) : lwF p (fun j => mxC n xs i j) (fun j => (solL p n vs bs).getD j 0) (bs.getD i 0) n = 0 := by
  have h1 := lwF_small hp (fun j => mxC n xs i j) (fun j => (solL p n vs bs).getD j 0) (bs.getD i 0) n
  refine Cg.small h1.1 h1.2 ((lwF_cg p _ _ _ n).trans ?_)
  refine (((Cg.refl p (-(bs.getD i 0))).add (solL_cg h hi))).trans (Cg.of_eq ?_)
  omega
/-- The product of the residues with the inverse, reduced, is the unit matrix. -/
theorem prod_unit {p : Int} (hp : Prm p) {n : Nat} {xs vs : List Int} (h : InvX p n (mxC n xs) (mxC n vs)) {i j : Nat} (hi : i < n) (hj : j < n) : (sumN n fun k => (resL p xs).getD (i * n + k) 0 * vs.getD (k * n + j) 0) % p = idX i j := by
  have hp0 : 0 < p := by have := hp.1; omega
  have e : Cg p (sumN n fun k => (resL p xs).getD (i * n + k) 0 * vs.getD (k * n + j) 0) (idX i j) := by
    refine Cg.trans (Cg.sum fun k _ => ?_) (h.right i j hi hj)
    exact (resL_cg (c := n) i k).mul (Cg.refl p _)
  rw [Cg.emod_eq hp0 e]
  unfold idX
  have := hp.1
  split
  · exact Int.emod_eq_of_lt (by omega) (by omega)
  · exact Int.zero_emod p
/-- The composed law of images: d = e over the residues. -/
theorem img_zero (p e : Int) : (e - e % p).tmod p = 0 := Int.tmod_eq_zero_of_dvd (Cg.emod p e).symm
end Go.Proofs.Ytcapddcmnjeloaa
end

section
/-
  Chapter 1, in the program: GcdOf.
-/
namespace Go.Proofs.Ytcapddcmnjeloaa
open Go.RowKit

theorem iGcd (a b : Int) (w : World) (ha : -400000000 ≤ a ∧ a ≤ 400000000) (hb : -400000000 ≤ b ∧ b ≤ 400000000) :
    Calls Try.prog 138 #[.int .i64 a, .int .i64 b] w fun e w' => e = .returned (.int .i64 (Int.gcd a b : Int)) ∧ ∃ n, w' = w.drewN n := by
  go_enter Try.func138, Try.ntmps138
  go_wp2_with fail
  refine (iIsNum_t _ _ ha.1 ha.2).mono ?_
  rintro e w' ⟨rfl, rfl⟩
  go_wp2_with fail
  refine (iIsNum_t _ _ hb.1 hb.2).mono ?_
  rintro e w' ⟨rfl, rfl⟩
  go_wp2_with fail
  refine (iGD a b _ (by omega) (by omega)).mono ?_
  rintro e w' ⟨rfl, n, rfl⟩
  go_wp2_with fail
  go_ret
  exact ⟨rfl, n, rfl⟩
theorem iGcd_f (a b : Int) (w : World) (h : ¬ ((-400000000 ≤ a ∧ a ≤ 400000000) ∧ (-400000000 ≤ b ∧ b ≤ 400000000))) :
    Calls Try.prog 138 #[.int .i64 a, .int .i64 b] w fun e w' => e = .returned (.int .i64 0) ∧ w = w' := by
  by_cases ha : -400000000 ≤ a ∧ a ≤ 400000000
  · have hb : b < -400000000 ∨ 400000000 < b := by omega
    clear h
    go_enter Try.func138, Try.ntmps138
    go_wp2_with fail
    refine (iIsNum_t _ _ ha.1 ha.2).mono ?_
    rintro e w' ⟨rfl, rfl⟩
    go_wp2_with fail
    refine (iIsNum_f _ _ hb).mono ?_
    rintro e w' ⟨rfl, rfl⟩
    go_wp2_with fail
    go_ret
    exact ⟨rfl, rfl⟩
  · have ha' : a < -400000000 ∨ 400000000 < a := by omega
    clear h ha
    go_enter Try.func138, Try.ntmps138
    go_wp2_with fail
    refine (iIsNum_f _ _ ha').mono ?_
    rintro e w' ⟨rfl, rfl⟩
    go_wp2_with fail
    go_ret
    exact ⟨rfl, rfl⟩


end Go.Proofs.Ytcapddcmnjeloaa
end

section
/-
  The model's quotient rounded down.
-/
namespace Go.Proofs.Ytcapddcmnjeloaa
open Go.RowKit

end Go.Proofs.Ytcapddcmnjeloaa
end

section
/-
  Chapter 1: Euclid's algorithm with coefficients, in the model and in the program.
-/
namespace Go.Proofs.Ytcapddcmnjeloaa
open Go.RowKit

/-- The answer: g from 0 on. -/
def egOut (r : Int × Int × Int) : Int × Int × Int := if r.1 < 0 then (-r.1, -r.2.1, -r.2.2) else r
def egAns (a b : Int) : Int × Int × Int := egOut (eg a 1 0 b 0 1)
def egVal (r : Int × Int × Int) : Value := .tuple #[.int .i64 r.1, .int .i64 r.2.1, .int .i64 r.2.2, .bool true]

theorem eg_neg {a b g x y : Int} (h : eg a 1 0 b 0 1 = (g, x, y)) (hg : g < 0) : egVal (egAns a b) = .tuple #[.int .i64 (-g), .int .i64 (-x), .int .i64 (-y), .bool true] := by
  unfold egAns; rw [h]; simp [egOut, hg, egVal]
theorem eg_pos {a b g x y : Int} (h : eg a 1 0 b 0 1 = (g, x, y)) (hg : ¬ g < 0) : egVal (egAns a b) = .tuple #[.int .i64 g, .int .i64 x, .int .i64 y, .bool true] := by
  unfold egAns; rw [h]; simp [egOut, hg, egVal]

set_option maxHeartbeats 400000 in
theorem sExt (a b : Int) (w : World) (ha : -400000000 ≤ a ∧ a ≤ 400000000) (hb : -400000000 ≤ b ∧ b ≤ 400000000) :
    Calls Try.prog 116 #[.int .i64 a, .int .i64 b] w fun e w' => e = .returned (egVal (egAns a b)) ∧ ∃ n, w' = w.drewN n := by
  have i0 := Inv.start a b ha hb
  have A := Lib.hid ha
  have B := Lib.hid hb
  have I0 := Lib.hid i0
  clear i0
  obtain ⟨ha1, ha2⟩ := ha
  obtain ⟨hb1, hb2⟩ := hb
  go_enter Try.func116, Try.ntmps116
  go_wp2_with (go_at_call 59; refine (sIsNum_t _ _ (by omega) (by omega)).mono ?_; rintro e w' ⟨rfl, rfl⟩)
  go_loopw [8, 9, 10, 11, 12, 13] (fun sg sx sy sh su sv wr => ∃ g x y h u v : Int, sg = .int .i64 g ∧ sx = .int .i64 x ∧ sy = .int .i64 y ∧ sh = .int .i64 h ∧ su = .int .i64 u ∧ sv = .int .i64 v ∧ Inv a b g x y h u v ∧ eg g x y h u v = eg a 1 0 b 0 1 ∧ ∃ n, wr = w.drewN n) (fun _ _ _ sh _ _ _ => (intOf sh).natAbs)
  case atStart => exact ⟨a, 1, 0, b, 0, 1, rfl, rfl, rfl, rfl, rfl, rfl, I0.out, rfl, 0, rfl⟩
  case round =>
    obtain ⟨g, x, y, h, u, v, rfl, rfl, rfl, rfl, rfl, rfl, i, hE, n, rfl⟩ := hrel
    have HE := Lib.hid hE
    have I := Lib.hid i
    clear hE
    have ⟨g1, g2⟩ := i.g0
    have ⟨h1, h2⟩ := i.h0
    have ⟨x1, x2⟩ := i.x0
    have ⟨y1, y2⟩ := i.y0
    have ⟨u1, u2⟩ := i.u0
    have ⟨v1, v2⟩ := i.v0
    clear i
    by_cases hh : h = 0
    · subst hh
      have HE2 : Hid (eg a 1 0 b 0 1 = (g, x, y)) := by rw [← HE.out, eg_end]; exact rfl
      by_cases hg : g < 0
      · go_wp2
        refine bodyPost_ret (retFour rfl _ _ _) rfl ?_
        exact ⟨by rw [eg_neg HE2.out hg]; rfl, n, rfl⟩
      · go_wp2
        refine bodyPost_ret (retFour rfl _ _ _) rfl ?_
        exact ⟨by rw [eg_pos HE2.out (by omega)]; rfl, n, rfl⟩
    · have hh' : (h == 0) = false := by simpa using hh
      obtain ⟨⟨m1, m2⟩, ⟨m3, m4⟩, ⟨m5, m6⟩, m7, m8⟩ := I.out.fits A.out B.out hh
      have J := Lib.hid (I.out.step A.out B.out hh)
      have E := Lib.hid (eg_step g x y h u v hh)
      have L := Lib.hid (rem_lt g h hh)
      go_wp2
      go_roundw
      case rel => exact ⟨h, u, v, _, _, _, rfl, rfl, rfl, rfl, rfl, rfl, J.out, E.out.symm.trans HE.out, n, rfl⟩
      case measure => simpa [intOf] using L.out

set_option maxHeartbeats 400000 in
theorem lessT (g x y h u v q : Int) (w : World) (g1 : -1000000000 ≤ g) (g2 : g ≤ 1000000000) (x1 : -1000000000 ≤ x) (x2 : x ≤ 1000000000) (y1 : -1000000000 ≤ y) (y2 : y ≤ 1000000000)
    (h1 : -1000000000 ≤ q * h) (h2 : q * h ≤ 1000000000) (u1 : -1000000000 ≤ q * u) (u2 : q * u ≤ 1000000000) (v1 : -1000000000 ≤ q * v) (v2 : q * v ≤ 1000000000) :
    Calls Try.prog 139 #[.agg #[.int .i64 g, .int .i64 x, .int .i64 y], .agg #[.int .i64 h, .int .i64 u, .int .i64 v], .int .i64 q] w fun e w' =>
      e = .returned (.agg #[.int .i64 (g - q * h), .int .i64 (x - q * u), .int .i64 (y - q * v)]) ∧ Below w.heap.size w w' := by
  go_enter Try.func139, Try.ntmps139
  go_wp2
  refine bodyPost_ret (v := .agg #[.int .i64 (g - q * h), .int .i64 (x - q * u), .int .i64 (y - q * v)]) (by simp [results, Try.results139, go_sem]) rfl ⟨rfl, ?_⟩
  exact (((Below.refl _ _).alloc (Nat.le_refl _) _).alloc (by simp) _).alloc (by simp; omega) _

set_option maxHeartbeats 4000000 in
theorem iExt (a b : Int) (w : World) (ha : -400000000 ≤ a ∧ a ≤ 400000000) (hb : -400000000 ≤ b ∧ b ≤ 400000000) :
    Calls Try.prog 133 #[.int .i64 a, .int .i64 b] w fun e w' => e = .returned (egVal (egAns a b)) ∧ Below w.heap.size w w' := by
  have i0 := Inv.start a b ha hb
  have A := Lib.hid ha
  have B := Lib.hid hb
  have I0 := Lib.hid i0
  clear i0
  obtain ⟨ha1, ha2⟩ := ha
  obtain ⟨hb1, hb2⟩ := hb
  go_enter Try.func133, Try.ntmps133
  go_wp2_with (go_at_call 93; refine (iIsNum_t _ _ (by omega) (by omega)).mono ?_; rintro e w' ⟨rfl, rfl⟩)
  go_loopg [] b.natAbs (fun k wr => ∃ g x y h u v : Int, k = h.natAbs ∧ Inv a b g x y h u v ∧ eg g x y h u v = eg a 1 0 b 0 1 ∧ Below w.heap.size w wr ∧
      Blk3 wr w.heap.size 142 (.int .i64 g) (.int .i64 x) (.int .i64 y) ∧ Blk3 wr (w.heap.size + 1) 142 (.int .i64 h) (.int .i64 u) (.int .i64 v))
  case atStart =>
    refine ⟨a, 1, 0, b, 0, 1, rfl, I0.out, rfl, ?_, (Blk3.new _ _ _ _ _).old _, ?_⟩
    · exact ((Below.refl _ _).alloc (Nat.le_refl _) _).alloc (by simp) _
    · have := Blk3.new (w.alloc (.cells #[.int .i64 a, .int .i64 1, .int .i64 0] 142)) 142 (.int .i64 b) (.int .i64 0) (.int .i64 1)
      simpa using this
  case round =>
    obtain ⟨g, x, y, h, u, v, hk, i, hE, hbel, k1, k2⟩ := hrel
    have HK := Lib.hid hk
    have HE := Lib.hid hE
    have I := Lib.hid i
    have K1 := Lib.hid k1
    have K2 := Lib.hid k2
    have BEL := Lib.hid hbel
    have c0 := k1.cell0
    have c1 := k1.cell1
    have c2 := k1.cell2
    have d0 := k2.cell0
    have d1 := k2.cell1
    have d2 := k2.cell2
    have f0 := k1.free 0
    have f1 := k1.free 1
    have f2 := k1.free 2
    have e0 := k2.free 0
    have e1 := k2.free 1
    have e2 := k2.free 2
    have hz := k2.lt
    have hz1 := k1.lt
    clear hE k1 k2 hbel hk
    have ⟨g1, g2⟩ := i.g0
    have ⟨h1, h2⟩ := i.h0
    have ⟨x1, x2⟩ := i.x0
    have ⟨y1, y2⟩ := i.y0
    have ⟨u1, u2⟩ := i.u0
    have ⟨v1, v2⟩ := i.v0
    clear i
    by_cases hh : h = 0
    · subst hh
      have HE2 : Hid (eg a 1 0 b 0 1 = (g, x, y)) := by rw [← HE.out, eg_end]; exact rfl
      by_cases hg : g < 0
      · go_wp2_with fail
        refine (lessT 0 0 0 g x y 1 _ (by omega) (by omega) (by omega) (by omega) (by omega) (by omega) (by omega) (by omega) (by omega) (by omega) (by omega) (by omega)).mono ?_
        rintro e w1 ⟨rfl, hb1⟩
        obtain ⟨C0, C1, C2, F0, F1, F2⟩ := (K1.out.keep hb1 hz1).all
        clear c0 c1 c2 d0 d1 d2 f0 f1 f2 e0 e1 e2
        go_wp2_with fail
        go_quiet (fail)
        go_wp2_with fail
        refine bodyPost_ret (retFour rfl _ _ _) rfl ?_
        exact ⟨by rw [eg_neg HE2.out hg]; rfl, below_drewN ((((BEL.out.trans (hb1.mono (by omega))).setCell (Nat.le_refl _) _).setCell (Nat.le_refl _) _).setCell (Nat.le_refl _) _) _⟩
      · go_wp2_with fail
        go_quiet (fail)
        go_wp2_with fail
        refine bodyPost_ret (retFour rfl _ _ _) rfl ?_
        exact ⟨by rw [eg_pos HE2.out (by omega)]; rfl, below_drewN BEL.out _⟩
    · have hh' : (h == 0) = false := by simpa using hh
      obtain ⟨⟨m1, m2⟩, ⟨m3, m4⟩, ⟨m5, m6⟩, m7, m8⟩ := I.out.fits A.out B.out hh
      have J := Lib.hid (I.out.step A.out B.out hh)
      have E := Lib.hid (eg_step g x y h u v hh)
      have L := Lib.hid (rem_lt g h hh)
      go_wp2_with fail
      go_region_with (go_at_call 139; refine (lessT _ _ _ _ _ _ _ _ (by omega) (by omega) (by omega) (by omega) (by omega) (by omega) (by omega) (by omega) (by omega) (by omega) (by omega) (by omega)).mono ?_; rintro e w1 ⟨rfl, hb1⟩; obtain ⟨C0, C1, C2, F0, F1, F2⟩ := ((K1.out.drewN _).keep hb1 hz1).all; obtain ⟨D0, D1, D2, G0, G1, G2⟩ := ((K2.out.drewN _).keep hb1 hz).all)
      all_goals
        go_wp2_with fail
        go_roundg (g - g.tdiv h * h).natAbs
        case measure => rw [HK.out]; exact L.out
        case rel =>
          refine ⟨h, u, v, _, _, _, rfl, J.out, E.out.symm.trans HE.out, ?_, ?_, ?_⟩
          · exact (((((((below_drewN BEL.out _).trans (hb1.mono (Nat.le_of_lt hz1))).setCell (Nat.le_refl _) _).setCell (Nat.le_refl _) _).setCell (Nat.le_refl _) _).setCell (Nat.le_succ _) _).setCell (Nat.le_succ _) _).setCell (Nat.le_succ _) _
          · exact (((((((K1.out.drewN _).keep hb1 hz1).set0 _).set1 _).set2 _).far (by simp) _).far (by simp) _).far (by simp) _
          · exact (((((((K2.out.drewN _).keep hb1 hz).far (by simp) _).far (by simp) _).far (by simp) _).set0 _).set1 _).set2 _

theorem sExt_f (a b : Int) (w : World) (h : ¬ ((-400000000 ≤ a ∧ a ≤ 400000000) ∧ (-400000000 ≤ b ∧ b ≤ 400000000))) :
    Calls Try.prog 116 #[.int .i64 a, .int .i64 b] w fun e w' => e = .returned (.tuple #[.int .i64 0, .int .i64 0, .int .i64 0, .bool false]) ∧ w = w' := by
  by_cases ha : -400000000 ≤ a ∧ a ≤ 400000000
  · have hb : b < -400000000 ∨ 400000000 < b := by omega
    clear h
    go_enter Try.func116, Try.ntmps116
    go_wp2_with fail
    refine (sIsNum_t _ _ ha.1 ha.2).mono ?_
    rintro e w' ⟨rfl, rfl⟩
    go_wp2_with fail
    refine (sIsNum_f _ _ hb).mono ?_
    rintro e w' ⟨rfl, rfl⟩
    go_wp2_with fail
    refine bodyPost_ret (retFour rfl _ _ _) rfl ?_
    exact ⟨rfl, rfl⟩
  · have ha' : a < -400000000 ∨ 400000000 < a := by omega
    clear h ha
    go_enter Try.func116, Try.ntmps116
    go_wp2_with fail
    refine (sIsNum_f _ _ ha').mono ?_
    rintro e w' ⟨rfl, rfl⟩
    go_wp2_with fail
    refine bodyPost_ret (retFour rfl _ _ _) rfl ?_
    exact ⟨rfl, rfl⟩

theorem iExt_f (a b : Int) (w : World) (h : ¬ ((-400000000 ≤ a ∧ a ≤ 400000000) ∧ (-400000000 ≤ b ∧ b ≤ 400000000))) :
    Calls Try.prog 133 #[.int .i64 a, .int .i64 b] w fun e w' => e = .returned (.tuple #[.int .i64 0, .int .i64 0, .int .i64 0, .bool false]) ∧ w = w' := by
  by_cases ha : -400000000 ≤ a ∧ a ≤ 400000000
  · have hb : b < -400000000 ∨ 400000000 < b := by omega
    clear h
    go_enter Try.func133, Try.ntmps133
    go_wp2_with fail
    refine (iIsNum_t _ _ ha.1 ha.2).mono ?_
    rintro e w' ⟨rfl, rfl⟩
    go_wp2_with fail
    refine (iIsNum_f _ _ hb).mono ?_
    rintro e w' ⟨rfl, rfl⟩
    go_wp2_with fail
    refine bodyPost_ret (retFour rfl _ _ _) rfl ?_
    exact ⟨rfl, rfl⟩
  · have ha' : a < -400000000 ∨ 400000000 < a := by omega
    clear h ha
    go_enter Try.func133, Try.ntmps133
    go_wp2_with fail
    refine (iIsNum_f _ _ ha').mono ?_
    rintro e w' ⟨rfl, rfl⟩
    go_wp2_with fail
    refine bodyPost_ret (retFour rfl _ _ _) rfl ?_
    exact ⟨rfl, rfl⟩

/-- The answer is a greatest common divisor and a combination, and its numbers are small. -/
theorem eg_last (n : Nat) : ∀ a b g x y h u v : Int, h.natAbs = n → -400000000 ≤ a ∧ a ≤ 400000000 → -400000000 ≤ b ∧ b ≤ 400000000 → Inv a b g x y h u v →
    ∃ g' x' y' u' v' : Int, eg g x y h u v = (g', x', y') ∧ Inv a b g' x' y' 0 u' v' := by
  induction n using Nat.strongRecOn with
  | ind n ih =>
    intro a b g x y h u v hn ha hb i
    by_cases hh : h = 0
    · subst hh
      exact ⟨g, x, y, u, v, eg_end _ _ _ _ _, i⟩
    · have l := rem_lt g h hh
      rw [eg_step g x y h u v hh]
      exact ih _ (by omega) a b _ _ _ _ _ _ rfl ha hb (i.step ha hb hh)
theorem egAns_is (a b : Int) (ha : -400000000 ≤ a ∧ a ≤ 400000000) (hb : -400000000 ≤ b ∧ b ≤ 400000000) :
    ∃ x y : Int, egAns a b = ((Int.gcd a b : Int), x, y) ∧ a * x + b * y = (Int.gcd a b : Int) ∧ -400000000 ≤ x ∧ x ≤ 400000000 ∧ -400000000 ≤ y ∧ y ≤ 400000000 := by
  obtain ⟨g, x, y, u, v, he, i⟩ := eg_last _ a b a 1 0 b 0 1 rfl ha hb (Inv.start a b ha hb)
  have l := i.last
  have gc := i.gc
  have x0 := i.x0
  have y0 := i.y0
  unfold egAns egOut
  rw [he]
  by_cases hg : g < 0
  · refine ⟨-x, -y, ?_, ?_, by omega, by omega, by omega, by omega⟩
    · simp only [hg, if_true]
      rw [show -g = (Int.gcd a b : Int) from by omega]
    · rw [Int.mul_neg, Int.mul_neg]; omega
  · refine ⟨x, y, ?_, by omega, by omega, by omega, by omega, by omega⟩
    simp only [hg, if_false]
    rw [show g = (Int.gcd a b : Int) from by omega]

end Go.Proofs.Ytcapddcmnjeloaa
end

section
/-
  Chapter 8, in the model: residues from 0 on, IsPrime, InverseModulo.
-/
namespace Go.Proofs.Ytcapddcmnjeloaa
set_option maxRecDepth 100000
open Go.RowKit

theorem tmod_in {n p : Int} (hp : 0 < p) : -p < n.tmod p ∧ n.tmod p < p := by
  refine ⟨?_, Int.tmod_lt_of_pos n hp⟩
  have h1 := Int.tmod_lt_of_pos (-n) hp
  rw [Int.neg_tmod] at h1
  omega
theorem sMod (n p : Int) (w : World) (hp : 0 < p) (hp2 : p ≤ 1000000000) :
    Calls Try.prog 60 #[.int .i64 n, .int .i64 p] w fun e w' => e = .returned (.int .i64 (n % p)) ∧ w = w' := by
  have t1 := tmod_in (n := n) hp
  have E : Hid ((n.tmod p + p) % p = n % p) := by
    show _ = _
    rw [← mod_go (n := n) hp, Int.tmod_eq_emod_of_nonneg (a := n.tmod p + p) (by omega)]
  have h0 : (p == 0) = false := by simp; omega
  go_enter Try.func60, Try.ntmps60
  go_wp2_with fail
  go_ret
  exact ⟨by show Ending.returned (Value.int .i64 ((n.tmod p + p) % p)) = _; rw [E.out], rfl⟩
theorem sPrime (p : Int) (w : World) : Calls Try.prog 86 #[.int .i64 p] w fun e w' => e = .returned (.bool (prmB p)) ∧ w = w' := by
  by_cases h : 2 ≤ p ∧ p ≤ 10000
  · have FB : Hid (∀ d : Nat, 2 ≤ d → (d : Int) * (d : Int) ≤ p → (d : Int) ∣ p → prmB p = false) := fun d => prmB_div
    have FT : Hid ((∀ d : Nat, 2 ≤ d → (d : Int) * (d : Int) ≤ p → ¬ (d : Int) ∣ p) → prmB p = true) := prmB_true h
    generalize prmB p = b at FB FT ⊢
    obtain ⟨h1, h2⟩ := h
    go_enter Try.func86, Try.ntmps86
    go_wp2_with fail
    refine (sIn_t p 2 10000 _ h1 h2).mono ?_
    rintro e w' ⟨rfl, rfl⟩
    go_wp2_with fail
    go_loopw [3] (fun v3 wr => ∃ d : Nat, v3 = .int .i64 d ∧ 2 ≤ d ∧ d ≤ 101 ∧ (∀ k : Nat, 2 ≤ k → k < d → (k : Int) * (k : Int) ≤ p → ¬ (k : Int) ∣ p) ∧ wr = w) (fun v3 _ => 200 - (intOf v3).toNat)
    case atStart => exact ⟨2, rfl, by omega, by omega, fun k _ h => by omega, rfl⟩
    case round =>
      obtain ⟨d, rfl, d1, d2, hd, rfl⟩ := hrel
      have HD := Lib.hid hd
      clear hd
      have q0 : (d : Int) * (d : Int) = ((d * d : Nat) : Int) := (Int.natCast_mul _ _).symm
      have q1 : d * d ≤ 101 * 101 := Nat.mul_le_mul d2 d2
      have Q := Lib.hid q0
      obtain ⟨q, hq⟩ : ∃ q, d * d = q := ⟨_, rfl⟩
      have HQ := Lib.hid hq
      rw [hq] at q0 q1
      have w1 : IntKind.i64.wrap ((d : Int) * (d : Int)) = (q : Int) := by rw [q0]; exact IntWalk.i64_in _ (by omega)
      clear q0 hq
      by_cases hp : (q : Int) ≤ p
      · have d3 : d ≤ 100 := by
          rcases Nat.lt_or_ge 100 d with h | h
          · have : 101 * 101 ≤ d * d := Nat.mul_le_mul h h
            have := HQ.out
            omega
          · exact h
        have n0 : ((d : Int) == 0) = false := by simp; omega
        have X : Hid ((d : Int) ∣ p ↔ p % (d : Int) = 0) := ⟨Int.emod_eq_zero_of_dvd, Int.dvd_of_emod_eq_zero⟩
        by_cases h0 : p % (d : Int) = 0
        · have n1 : (p % (d : Int) == 0) = true := by simp [h0]
          have R : Hid (b = false) := FB.out d d1 (by rw [Q.out, HQ.out]; exact hp) (X.out.mpr h0)
          clear h0
          go_wp2_with fail
          go_ret
          exact ⟨by rw [R.out]; rfl, rfl⟩
        · have n1 : (p % (d : Int) == 0) = false := by simpa using h0
          have ND : Hid (¬ (d : Int) ∣ p) := fun hdv => h0 (X.out.mp hdv)
          have HD2 : Hid (∀ k : Nat, 2 ≤ k → k < d + 1 → (k : Int) * (k : Int) ≤ p → ¬ (k : Int) ∣ p) := fun k k1 k2 k3 => by
            rcases Nat.lt_or_ge k d with h | h
            · exact HD.out k k1 h k3
            · obtain rfl : k = d := by omega
              exact ND.out
          clear h0
          go_wp2_with fail
          go_roundw
          case rel => exact ⟨d + 1, by go_num, by omega, by omega, HD2.out, trivial⟩
          case measure => simp [intOf]; omega
      · have R : Hid (b = true) := FT.out fun k k1 k2 => by
          rcases Nat.lt_or_ge k d with h | h
          · exact HD.out k k1 h k2
          · have h3 : d * d ≤ k * k := Nat.mul_le_mul h h
            have h4 := HQ.out
            rw [← Int.natCast_mul] at k2
            have h5 : ((d * d : Nat) : Int) ≤ ((k * k : Nat) : Int) := Int.ofNat_le.mpr h3
            rw [h4] at h5
            omega
        go_wp2_with fail
        go_ret
        exact ⟨by rw [R.out]; rfl, rfl⟩
  · have E : Hid (prmB p = false) := prmB_out (by omega)
    have h' : p < 2 ∨ 10000 < p := by omega
    clear h
    go_enter Try.func86, Try.ntmps86
    go_wp2_with fail
    refine (sIn_f p 2 10000 _ h').mono ?_
    rintro e w' ⟨rfl, rfl⟩
    go_wp2_with fail
    go_ret
    exact ⟨by rw [E.out]; rfl, rfl⟩
theorem ivM_no1 {p a : Int} (h : prmB p = false) : ivM p a = (0, false) := by unfold ivM; rw [h]; rfl
theorem ivM_no2 {p a : Int} (h : ¬ NumP a) : ivM p a = (0, false) := by unfold ivM; rw [decide_eq_false h, Bool.and_false, Bool.false_and]; rfl
theorem ivM_no3 {p a : Int} (h : a % p = 0) : ivM p a = (0, false) := by unfold ivM; rw [decide_eq_false (by omega : ¬ a % p ≠ 0), Bool.and_false]; rfl
theorem ivM_yes {p a y : Int} (h1 : prmB p = true) (h2 : NumP a) (h : a % p = y) (h3 : y ≠ 0) : ivM p a = (invF p y, true) := by
  unfold ivM
  rw [h1, decide_eq_true h2, h, decide_eq_true h3]; rfl
/-- The combination that ExtendedGcd makes of a residue that is not 0 and the prime. -/
theorem ext_res {p y : Int} (hp : Prm p) (hp2 : p ≤ 10000) (h0 : 0 ≤ y) (hy : y < p) (hn : y ≠ 0) : ∃ x z : Int, egAns y p = (1, x, z) ∧ invF p y = x % p ∧ -400000000 ≤ x ∧ x ≤ 400000000 := by
  have hp1 := hp.1
  obtain ⟨x, z, e, hxz, b1, b2, -, -⟩ := egAns_is y p ⟨by omega, by omega⟩ ⟨by omega, by omega⟩
  have hg : (Int.gcd y p : Int) = 1 := by have := hp.gcd (can_nd ⟨h0, hy⟩ hn); omega
  rw [hg] at e hxz
  exact ⟨x, z, e, invF_ext hp hxz rfl, b1, b2⟩
theorem sInvM (a p : Int) (w : World) : Calls Try.prog 89 #[.int .i64 a, .int .i64 p] w fun e w' => e = .returned (.tuple #[.int .i64 (ivM p a).1, .bool (ivM p a).2]) ∧ ∃ n, w' = w.drewN n := by
  have W0 : Hid (∃ n, w = w.drewN n) := ⟨0, rfl⟩
  rcases Bool.eq_false_or_eq_true (prmB p) with h1 | h1
  · obtain ⟨hp, hp2⟩ := prmB_says h1
    have hp1 := hp.1
    have P1 := Lib.hid h1
    by_cases h2 : NumP a
    · obtain ⟨y, hy⟩ : ∃ y, a % p = y := ⟨_, rfl⟩
      have Y := Lib.hid hy
      by_cases h3 : y = 0
      · have V : Hid (ivM p a = (0, false)) := ivM_no3 (by rw [hy, h3])
        have n3 : (y == 0) = true := by simp [h3]
        clear h1 h3 hy hp
        go_enter Try.func89, Try.ntmps89
        go_wp2_with fail
        refine (sPrime p _).mono ?_
        rintro e w' ⟨rfl, rfl⟩
        rw [P1.out]
        go_wp2_with fail
        refine (sIsNum_t a _ h2.1 h2.2).mono ?_
        rintro e w' ⟨rfl, rfl⟩
        go_wp2_with fail
        refine (sMod a p _ (by omega) (by omega)).mono ?_
        rintro e w' ⟨rfl, rfl⟩
        rw [Y.out]
        go_wp2_with fail
        exact bodyPost_ret (v := .tuple #[.int .i64 0, .bool false]) (by simp [results, Try.results89, go_sem]) rfl ⟨by rw [V.out], W0.out⟩
      · have V := Lib.hid (ivM_yes h1 h2 hy h3)
        have n3 : (y == 0) = false := by simpa using h3
        have y0 : 0 ≤ y := by rw [← hy]; exact Int.emod_nonneg _ (by omega)
        have y1 : y < p := by rw [← hy]; exact Int.emod_lt_of_pos _ (by omega)
        obtain ⟨x, z, hx, hi, b1, b2⟩ := ext_res hp hp2 y0 y1 h3
        have HI := Lib.hid hi
        have HX : Hid (egVal (egAns y p) = .tuple #[.int .i64 1, .int .i64 x, .int .i64 z, .bool true]) := by show _ = _; rw [hx]; rfl
        clear h1 h3 hy hp hi hx
        go_enter Try.func89, Try.ntmps89
        go_wp2_with fail
        refine (sPrime p _).mono ?_
        rintro e w' ⟨rfl, rfl⟩
        rw [P1.out]
        go_wp2_with fail
        refine (sIsNum_t a _ h2.1 h2.2).mono ?_
        rintro e w' ⟨rfl, rfl⟩
        go_wp2_with fail
        refine (sMod a p _ (by omega) (by omega)).mono ?_
        rintro e w' ⟨rfl, rfl⟩
        rw [Y.out]
        go_wp2_with fail
        refine (sMod a p _ (by omega) (by omega)).mono ?_
        rintro e w' ⟨rfl, rfl⟩
        rw [Y.out]
        go_wp2_with fail
        refine (sExt y p _ ⟨by omega, by omega⟩ ⟨by omega, by omega⟩).mono ?_
        rintro e w' ⟨rfl, n, rfl⟩
        rw [HX.out]
        go_wp2_with fail
        refine (sMod x p _ (by omega) (by omega)).mono ?_
        rintro e w' ⟨rfl, rfl⟩
        go_wp2_with fail
        exact bodyPost_ret (v := .tuple #[.int .i64 (x % p), .bool true]) (by simp [results, Try.results89, go_sem]) rfl ⟨by rw [V.out, ← HI.out], n, rfl⟩
    · have V := Lib.hid (ivM_no2 (p := p) h2)
      have h2' : a < -400000000 ∨ 400000000 < a := by unfold NumP at h2; omega
      clear h1 h2 hp
      go_enter Try.func89, Try.ntmps89
      go_wp2_with fail
      refine (sPrime p _).mono ?_
      rintro e w' ⟨rfl, rfl⟩
      rw [P1.out]
      go_wp2_with fail
      refine (sIsNum_f a _ h2').mono ?_
      rintro e w' ⟨rfl, rfl⟩
      go_wp2_with fail
      exact bodyPost_ret (v := .tuple #[.int .i64 0, .bool false]) (by simp [results, Try.results89, go_sem]) rfl ⟨by rw [V.out], W0.out⟩
  · have V := Lib.hid (ivM_no1 (a := a) h1)
    have P1 := Lib.hid h1
    clear h1
    go_enter Try.func89, Try.ntmps89
    go_wp2_with fail
    refine (sPrime p _).mono ?_
    rintro e w' ⟨rfl, rfl⟩
    rw [P1.out]
    go_wp2_with fail
    exact bodyPost_ret (v := .tuple #[.int .i64 0, .bool false]) (by simp [results, Try.results89, go_sem]) rfl ⟨by rw [V.out], W0.out⟩
end Go.Proofs.Ytcapddcmnjeloaa
end

section
/-
  Contracts of Go's library at this translation, each one application of a theorem of the guide's library: slices_Clone_int, slices_Clone_int_zero, slices_Clone_int_nil.
-/
namespace Go.Proofs
open Go.Shelf
def Try.laysNm215_ren : Go.Shelf.Ren := ⟨fun | 15 => 95 | n => n, fun | 22 => 24 | 3 => 3 | 4 => 4 | n => n, fun | n => n⟩
theorem Try.laysNm215 : Go.Proofs.Lays2.n15 Try.prog Try.laysNm215_ren := {
  mixed := by kernel_rfl
  f15 := Try.func95.trans (congrArg some (by kernel_rfl))
  t3 := Try.underlying3
  a3 := Try.isAgg3
  z3 := Try.sizeOf3
  v3 := Try.zeroValue3
  t4 := Try.underlying4
  a4 := Try.isAgg4
  z4 := Try.sizeOf4
  v4 := Try.zeroValue4
  t22 := Try.underlying24
  a22 := Try.isAgg24
  z22 := Try.sizeOf24
  v22 := Try.zeroValue24
  i3 := by kernel_rfl }
open Go.RowKit Go.Lib in
theorem Try.slices_Clone_int (b off n c : Nat) (zs : List Int) (w : World) (hz : n ≤ zs.length) (hbig : n * 8 ≤ 140737488355328) (hc : ∀ j, j < zs.length → w.cell? ⟨b, off + j, none⟩ = some (.int .i64 (zs.getD j 0))) :
    Calls Try.prog 95 #[.slice (some ⟨b, off, none⟩) n c] w fun e w' => ∃ v', e = .returned v' ∧ w'.ownsRow w.heap.size 3 1 v' n ((zs.take n).map (Value.int .i64)) ∧ v' ≠ .slice none 0 0 ∧ Below w.heap.size w w' := Any.slices_Clone_int Try.laysNm215 b off n c zs w hz hbig hc
open Go.RowKit Go.Lib in
theorem Try.slices_Clone_int_nil (n c : Nat) (w : World) :
    Calls Try.prog 95 #[.slice none n c] w fun e w' => e = .returned (.slice none 0 0) ∧ w' = w := Any.slices_Clone_int_nil Try.laysNm215 n c w
open Go.RowKit Go.Lib in
theorem Try.slices_Clone_int_zero (a : Addr) (c : Nat) (w : World) :
    Calls Try.prog 95 #[.slice (some a) 0 c] w fun e w' => ∃ v', e = .returned v' ∧ w'.ownsRow w.heap.size 3 1 v' 0 [] ∧ v' ≠ .slice none 0 0 ∧ Below w.heap.size w w' := Any.slices_Clone_int_zero Try.laysNm215 a c w
end Go.Proofs
end

section
/-
  Chapter 3, in the program: slices.Clone over slices of ints.
-/
namespace Go.Proofs.Ytcapddcmnjeloaa
open Go.RowKit

/-- A copy in memory of the call's own. -/
def Copy (zs : List Int) (w : World) (e : Ending) (w' : World) : Prop := ∃ v, e = .returned v ∧ Own w.heap.size w' v zs ∧ Below w.heap.size w w'

theorem iClone (a : Option Addr) (cap : Nat) (zs : List Int) (w : World) (h : Rd w a zs) (hn : zs.length ≤ 16777216) :
    Calls Try.prog 95 #[.slice a zs.length cap] w (Copy zs w) := by
  rcases Nat.eq_zero_or_pos zs.length with e | hz
  · obtain rfl : zs = [] := List.eq_nil_of_length_eq_zero e
    cases a with
    | none => exact (Try.slices_Clone_int_nil 0 cap w).mono fun e w' ⟨h1, h2⟩ => ⟨_, h1, .inl ⟨rfl, rfl⟩, by rw [h2]; exact Below.refl _ _⟩
    | some x => exact (Try.slices_Clone_int_zero x cap w).mono fun e w' ⟨v, h1, h2, _, h3⟩ => ⟨v, h1, Own.of_row h2 (by simp), h3⟩
  · obtain ⟨b, o, rfl⟩ := h.addr hz
    refine (Try.slices_Clone_int b o zs.length cap zs w (Nat.le_refl _) (by omega) h.cells).mono fun e w' ⟨v, h1, h2, _, h3⟩ => ⟨v, h1, Own.of_row ?_ hn, h3⟩
    rw [List.take_length] at h2
    exact h2
/-- The first k cells are those of f, the others are as they were. -/
def mixL (xs : List Int) (k : Nat) (f : Nat → Int) : List Int := (List.range xs.length).map fun i => if i < k then f i else xs.getD i 0
theorem mixL_length (xs : List Int) (k : Nat) (f : Nat → Int) : (mixL xs k f).length = xs.length := by simp [mixL]
theorem mixL_zero (xs : List Int) (f : Nat → Int) : mixL xs 0 f = xs := by
  apply List.ext_getElem (by simp [mixL])
  intro i h1 h2
  simp [mixL, List.getD, h2]
theorem mixL_all (xs : List Int) (f : Nat → Int) : mixL xs xs.length f = (List.range xs.length).map f := by
  apply List.ext_getElem (by simp [mixL])
  intro i h1 h2
  have : i < xs.length := by simpa [mixL] using h1
  simp [mixL, this]
theorem mixL_at (xs : List Int) (k : Nat) (f : Nat → Int) : (mixL xs k f).getD k 0 = xs.getD k 0 := by
  unfold mixL List.getD
  rcases Nat.lt_or_ge k xs.length with h | h
  · simp [h]
  · simp [h]
theorem mixL_step (xs : List Int) (k : Nat) (f : Nat → Int) : (mixL xs k f).set k (f k) = mixL xs (k + 1) f := by
  apply List.ext_getElem (by simp [mixL])
  intro i h1 h2
  have hi : i < xs.length := by simpa [mixL] using h2
  rw [List.getElem_set]
  by_cases e : k = i
  · subst e; simp [mixL]
  · simp only [e, if_false]
    simp only [mixL, List.getElem_map, List.getElem_range]
    by_cases h3 : i < k
    · rw [if_pos h3, if_pos (by omega)]
    · rw [if_neg h3, if_neg (by omega)]
theorem Own.cases {B : Nat} {w : World} {v : Value} {zs : List Int} (h : Own B w v zs) : (v = .slice none 0 0 ∧ zs = []) ∨ ∃ (g cap : Nat), v = .slice (some ⟨g, 0, none⟩) zs.length cap ∧ B ≤ g ∧ Ints w g zs ∧ zs.length ≤ cap := by
  rcases h with h | ⟨g, cap, hv, hB, hi, hl, _⟩
  · exact .inl h
  · exact .inr ⟨g, cap, hv, hB, hi, hl⟩
theorem In.cases {B T : Nat} {w : World} {v : Value} {zs : List Int} (h : In B T w v zs) : (v = .slice none 0 0 ∧ zs = []) ∨ ∃ (g cap : Nat), v = .slice (some ⟨g, 0, none⟩) zs.length cap ∧ B ≤ g ∧ g < T ∧ Ints w g zs ∧ zs.length ≤ cap := by
  rcases h with h | ⟨g, cap, hv, hB, hT, hi, hl, _⟩
  · exact .inl h
  · exact .inr ⟨g, cap, hv, hB, hT, hi, hl⟩
/-- A clone of n ints. -/
def CopyN (n : Nat) (zs : List Int) (w : World) (e : Ending) (w' : World) : Prop := ∃ q qc, e = .returned (.slice q n qc) ∧ Own w.heap.size w' (.slice q n qc) zs ∧ Below w.heap.size w w'
theorem iCloneN (a : Option Addr) (cap n : Nat) (zs : List Int) (hz : zs.length = n) (w : World) (h : Rd w a zs) (hn : n ≤ 16777216) :
    Calls Try.prog 95 #[.slice a n cap] w (CopyN n zs w) := by
  subst hz
  refine (iClone a cap zs w h hn).mono ?_
  rintro e w' ⟨v, rfl, own, hb⟩
  obtain ⟨q, qc, rfl, -, -⟩ := own.form
  exact ⟨q, qc, rfl, own, hb⟩
theorem seven {W w' : World} {b : Nat} {t : TypeId} {p q r : Value} (h0 : Blk3 W b t p q r) (hb : Below W.heap.size W w') :
    w'.cell? ⟨b, 0, none⟩ = some p ∧ w'.cell? ⟨b, 1, none⟩ = some q ∧ w'.cell? ⟨b, 2, none⟩ = some r :=
  ⟨(h0.keep hb h0.lt).cell0, (h0.keep hb h0.lt).cell1, (h0.keep hb h0.lt).cell2⟩
end Go.Proofs.Ytcapddcmnjeloaa
end

section
/-
  Chapter 8, in the model: ReduceMod.
-/
namespace Go.Proofs.Ytcapddcmnjeloaa
set_option maxRecDepth 100000
open Go.RowKit

theorem resL_mix {p : Int} {xs : List Int} : mixL xs xs.length (fun i => xs.getD i 0 % p) = resL p xs := by
  rw [mixL_all]
  unfold resL
  apply List.ext_getElem (by simp)
  intro i h1 h2
  have : i < xs.length := by simpa using h2
  simp [List.getD, this]
set_option maxHeartbeats 2000000 in
theorem sRed (r c p : Int) (a : Option Addr) (m : Nat) (xs : List Int) (w : World) (h : Rd w a xs) (hn : xs.length ≤ 16777216) (ha : Spot a) :
    Calls Try.prog 44 #[.agg #[.int .i64 r, .int .i64 c, .slice a xs.length m], .int .i64 p] w (MatRes (redM r c p xs) w) := by
  have IM : Hid (∀ w', Below w.heap.size w w' → Calls Try.prog 61 #[.agg #[.int .i64 r, .int .i64 c, .slice a xs.length m]] w' (Gives (.bool (isMat r c xs)) w')) := fun w' hb => sIsMat r c a m xs w' (h.below hb) hn
  have HX : Hid (isMat r c xs = true → xs.length ≤ 576) := fun hm => by
    obtain ⟨⟨r0, r1⟩, ⟨c0, c1⟩, hl, -⟩ := isMat_says hm
    have h2 : r * c ≤ 24 * 24 := Int.mul_le_mul (by omega) (by omega) c0 (by omega)
    omega
  have CP : Hid (xs.length ≤ 576 → ∀ w', Below w.heap.size w w' → Calls Try.prog 87 #[.agg #[.int .i64 r, .int .i64 c, .slice a xs.length m]] w' (fun e w2 => ∃ g cap : Nat, e = .returned (.agg #[.int .i64 r, .int .i64 c, .slice (some ⟨g, 0, none⟩) xs.length cap]) ∧ w'.heap.size ≤ g ∧ IntsC w2 g cap xs ∧ Below w'.heap.size w' w2)) := fun hl w' hb => sCopyA r c a m xs.length xs w' (h.below hb) ha rfl (by omega)
  have VN : Hid (isMat r c xs = false ∨ prmB p = false → redM r c p xs = MR.no) := fun h => by
    show _ = _
    unfold redM
    rcases h with h | h
    · rw [h]; rfl
    · rw [h, Bool.and_false]; rfl
  have VY : Hid (isMat r c xs = true → prmB p = true → redM r c p xs = ⟨true, r, c, resL p xs⟩) := fun h1 h2 => by
    show _ = _
    unfold redM
    rw [h1, h2]; rfl
  have PB : Hid (prmB p = true → 2 ≤ p ∧ p ≤ 10000) := fun h => ⟨(prmB_says h).1.1, (prmB_says h).2⟩
  have ML : Hid (∀ k, (mixL xs k fun i => xs.getD i 0 % p).length = xs.length) := fun k => mixL_length _ _ _
  have MA : Hid (∀ k, (mixL xs k fun i => xs.getD i 0 % p).getD k 0 = xs.getD k 0) := fun k => mixL_at _ _ _
  have MS : Hid (∀ k, (mixL xs k fun i => xs.getD i 0 % p).set k (xs.getD k 0 % p) = mixL xs (k + 1) fun i => xs.getD i 0 % p) := fun k => mixL_step xs k (fun i => xs.getD i 0 % p)
  have MZ : Hid ((mixL xs 0 fun i => xs.getD i 0 % p) = xs) := mixL_zero _ _
  have ME : Hid ((mixL xs xs.length fun i => xs.getD i 0 % p) = resL p xs) := resL_mix
  have RN : Hid ((resL p xs).length = xs.length) := by show _ = _; unfold resL; exact List.length_map ..
  obtain ⟨N, hN⟩ : ∃ N, xs.length = N := ⟨_, rfl⟩
  rw [hN] at IM CP HX ML ME RN hn ⊢
  generalize redM r c p xs = RES at VN VY ⊢
  generalize isMat r c xs = bm at IM HX VN VY
  have XN := Lib.hid hN
  clear h ha hN
  go_enter Try.func44, Try.ntmps44
  go_upto_region 1 with fail
  have K0 : Hid (Blk3 ((w.alloc (.cells #[.int .i64 r, .int .i64 c, .slice a N m] 26)).alloc (.cells #[.int .i64 0, .int .i64 0, .slice none 0 0] 26)) w.heap.size 26 (.int .i64 r) (.int .i64 c) (.slice a N m)) := (Blk3.at_ _ _ _ _ rfl).old _
  have R0 : Hid (Blk3 ((w.alloc (.cells #[.int .i64 r, .int .i64 c, .slice a N m] 26)).alloc (.cells #[.int .i64 0, .int .i64 0, .slice none 0 0] 26)) (w.heap.size + 1) 26 (.int .i64 0) (.int .i64 0) (.slice none 0 0)) := Blk3.at_ _ _ _ _ (by simp)
  have B0 : Hid (Below w.heap.size w ((w.alloc (.cells #[.int .i64 r, .int .i64 c, .slice a N m] 26)).alloc (.cells #[.int .i64 0, .int .i64 0, .slice none 0 0] 26))) := ((Below.refl _ _).alloc (Nat.le_refl _) _).alloc (by simp) _
  have S0 : Hid (((w.alloc (.cells #[.int .i64 r, .int .i64 c, .slice a N m] 26)).alloc (.cells #[.int .i64 0, .int .i64 0, .slice none 0 0] 26)).heap.size = w.heap.size + 2) := by show _ = _; simp
  generalize (w.alloc (.cells #[.int .i64 r, .int .i64 c, .slice a N m] 26)).alloc (.cells #[.int .i64 0, .int .i64 0, .slice none 0 0] 26) = W0 at K0 R0 B0 S0 ⊢
  obtain ⟨p0, p1, p2, -, -, -⟩ := K0.out.all
  go_wp2_with fail
  refine (IM.out _ B0.out).mono ?_
  rintro e w1 ⟨rfl, hb⟩
  have s0 := S0.out
  have sb := hb.size
  have K1 := Lib.hid (K0.out.step hb)
  have R1 := Lib.hid (R0.out.step hb)
  have B1 := Lib.hid (B0.out.trans (hb.mono (by omega)))
  clear hb K0 R0 B0 S0 p0 p1 p2
  obtain ⟨p0, p1, p2, -, -, -⟩ := K1.out.all
  cases bm with
  | false =>
    have RX := Lib.hid (VN.out (.inl rfl))
    clear p0 p1 p2
    obtain ⟨r0, r1, r2, f0, f1, f2⟩ := R1.out.all
    go_wp2_with fail
    obtain ⟨E0, E1, E2, -, -, -⟩ := (((R1.out.set0 (.int .i64 0)).set1 (.int .i64 0)).set2 (.slice none 0 0)).all
    rw [RX.out]
    exact bodyPost_ret (v := .tuple #[.agg #[.int .i64 0, .int .i64 0, .slice none 0 0], .bool false]) (by simp [results, Try.results44, go_sem, E0, E1, E2]) rfl ⟨_, rfl, .inl ⟨rfl, rfl⟩, ((B1.out.setCell (Nat.le_succ _) _).setCell (Nat.le_succ _) _).setCell (Nat.le_succ _) _⟩
  | true =>
    go_wp2_with fail
    refine (sPrime p _).mono ?_
    rintro e w2 ⟨rfl, rfl⟩
    obtain ⟨bp, hbp⟩ : ∃ b, prmB p = b := ⟨_, rfl⟩
    rw [hbp] at VN VY PB ⊢
    clear hbp
    cases bp with
    | false =>
      have RX := Lib.hid (VN.out (.inr rfl))
      clear p0 p1 p2
      obtain ⟨r0, r1, r2, f0, f1, f2⟩ := R1.out.all
      go_wp2_with fail
      obtain ⟨E0, E1, E2, -, -, -⟩ := (((R1.out.set0 (.int .i64 0)).set1 (.int .i64 0)).set2 (.slice none 0 0)).all
      rw [RX.out]
      exact bodyPost_ret (v := .tuple #[.agg #[.int .i64 0, .int .i64 0, .slice none 0 0], .bool false]) (by simp [results, Try.results44, go_sem, E0, E1, E2]) rfl ⟨_, rfl, .inl ⟨rfl, rfl⟩, ((B1.out.setCell (Nat.le_succ _) _).setCell (Nat.le_succ _) _).setCell (Nat.le_succ _) _⟩
    | true =>
      obtain ⟨hp1, hp2⟩ := PB.out rfl
      have N5 := HX.out trivial
      have RX := Lib.hid (VY.out trivial rfl)
      go_wp2_with fail
      refine (CP.out N5 _ B1.out).mono ?_
      rintro e w3 ⟨g, cap, rfl, hg, hi, hb⟩
      have gl := hi.lt
      have sb3 := hb.size
      have R3 := Lib.hid ((R1.out.step hb).old (.cells #[.int .i64 r, .int .i64 c, .slice (some ⟨g, 0, none⟩) N cap] 26))
      have Bx := B1.out.trans (hb.mono (by omega))
      have B3 := Lib.hid (Bx.alloc Bx.size (.cells #[.int .i64 r, .int .i64 c, .slice (some ⟨g, 0, none⟩) N cap] 26))
      have hcap := hi.le
      have I3 := Lib.hid (hi.ints.old (.cells #[.int .i64 r, .int .i64 c, .slice (some ⟨g, 0, none⟩) N cap] 26))
      have A3 : Hid (Blk3 (w3.alloc (.cells #[.int .i64 r, .int .i64 c, .slice (some ⟨g, 0, none⟩) N cap] 26)) w3.heap.size 26 (.int .i64 r) (.int .i64 c) (.slice (some ⟨g, 0, none⟩) N cap)) := Blk3.at_ _ _ _ _ rfl
      rw [XN.out] at hcap
      have S3 : Hid ((w3.alloc (.cells #[.int .i64 r, .int .i64 c, .slice (some ⟨g, 0, none⟩) N cap] 26)).heap.size = w3.heap.size + 1) := by show _ = _; simp
      clear hb Bx hi p0 p1 p2 K1 R1 B1 IM CP
      go_upto_region 4 with fail
      generalize w3.alloc (.cells #[.int .i64 r, .int .i64 c, .slice (some ⟨g, 0, none⟩) N cap] 26) = W3 at R3 B3 I3 A3 S3 ⊢
      obtain ⟨b, hbb⟩ : ∃ b, w3.heap.size = b := ⟨_, rfl⟩
      rw [hbb] at A3 S3 gl sb3 ⊢
      obtain ⟨rb, hrb⟩ : ∃ rb, w.heap.size + 1 = rb := ⟨_, rfl⟩
      rw [hrb] at R3 ⊢
      have l1 : w.heap.size ≤ rb := by omega
      have l2 : rb < g := by omega
      have l3 : g < b := gl
      clear hbb hrb gl sb3 sb s0 hg
      go_wp2_with fail
      go_loopw [7] (fun i wr => ∃ k : Nat, i = .int .i64 k ∧ k ≤ N ∧ Ints wr g (mixL xs k fun i => xs.getD i 0 % p) ∧ W3.grownBy wr (some g)) (fun i _ => N - (intOf i).toNat)
      case atStart => exact ⟨0, rfl, by omega, by rw [MZ.out]; exact I3.out, World.grownBy.refl _ _⟩
      case round =>
        obtain ⟨k, rfl, hk, hi, hgr⟩ := hrel
        have I := Lib.hid hi
        have G := Lib.hid hgr
        clear hi hgr
        have R4 := Lib.hid (R3.out.keepOne G.out (by omega))
        have A4 := Lib.hid (A3.out.keepOne G.out (by omega))
        have B4 := Lib.hid (B3.out.trans (below_of_one G.out (by omega) B3.out.size))
        obtain ⟨p0, p1, p2, -, -, -⟩ := A4.out.all
        by_cases hlt : k < N
        · have hca := I.out.cell (i := k) (by rw [ML.out]; exact hlt)
          have hfr := I.out.free k
          rw [MA.out] at hca
          have MK := Lib.hid (MS.out k)
          obtain ⟨x, hx⟩ : ∃ x, xs.getD k 0 = x := ⟨_, rfl⟩
          rw [hx] at hca MK
          clear hx
          go_wp2_with fail
          refine wp_region_still_tail 11 (by kernel_rfl) (by kernel_rfl) ?_
          simp only [List.take_succ_cons, List.take_zero, List.drop_succ_cons, List.drop_zero]
          repeat still_step
          still_call ((sMod x p _ (by omega) (by omega)).mono fun _ _ h => ⟨h.1, h.2.symm⟩)
          repeat still_step
          try refine wpStill_nil ?_
          have I5 := Lib.hid ((I.out.drew).set k (x % p))
          have G5 := Lib.hid (grown_set_one (a := ⟨g, k, none⟩) (grown_drew_one G.out) rfl (.int .i64 (x % p)))
          go_wp2_with fail
          go_roundw
          case rel => exact ⟨k + 1, by go_num, by omega, by rw [← MK.out]; exact I5.out, G5.out⟩
          case measure => simp [intOf]; omega
        · obtain rfl : N = k := by omega
          rw [ME.out] at I
          obtain ⟨r0, r1, r2, f0, f1, f2⟩ := R4.out.all
          go_wp2_with fail
          obtain ⟨E0, E1, E2, -, -, -⟩ := (((R4.out.set0 (.int .i64 r)).set1 (.int .i64 c)).set2 (.slice (some ⟨g, 0, none⟩) N cap)).all
          rw [RX.out]
          refine bodyPost_ret (v := .tuple #[.agg #[.int .i64 r, .int .i64 c, .slice (some ⟨g, 0, none⟩) N cap], .bool true]) (by simp [results, Try.results44, go_sem, E0, E1, E2]) rfl ⟨_, rfl, .inr ⟨g, cap, by rw [RN.out], by omega, ?_, by rw [RN.out]; omega, by rw [RN.out]; omega⟩, ((B4.out.setCell l1 _).setCell l1 _).setCell l1 _⟩
          exact ((I.out.far (a := ⟨rb, 0, none⟩) (by show g ≠ rb; omega) _).far (a := ⟨rb, 1, none⟩) (by show g ≠ rb; omega) _).far (a := ⟨rb, 2, none⟩) (by show g ≠ rb; omega) _
end Go.Proofs.Ytcapddcmnjeloaa
end

section
/-
  Chapter 7, in the model: a row made primitive.
-/
namespace Go.Proofs.Ytcapddcmnjeloaa
set_option maxRecDepth 100000
open Go.RowKit

/-- The worlds of the walk: the argument's block, the row's block, nothing else is touched. -/
structure PrSt (w : World) (r c : Nat) (g N cap : Nat) (ys : List Int) (wr : World) : Prop where
  blk : Blk3 wr w.heap.size 26 (.int .i64 r) (.int .i64 c) (.slice (some ⟨g, 0, none⟩) N cap)
  ints : Ints wr g ys
  grw : w.grownBy wr (some g)
theorem PrSt.put {w : World} {r c g N cap : Nat} {ys : List Int} {wr : World} (h : PrSt w r c g N cap ys wr) (hne : w.heap.size ≠ g) (P : Nat) (z : Int) : PrSt w r c g N cap (ys.set P z) (wr.setCell ⟨g, P, none⟩ (.int .i64 z)) := ⟨h.blk.far hne _, h.ints.set P z, grown_set_one h.grw rfl _⟩
theorem PrSt.drewN {w : World} {r c g N cap : Nat} {ys : List Int} {wr : World} (h : PrSt w r c g N cap ys wr) (n : Nat) : PrSt w r c g N cap ys (wr.drewN n) := ⟨h.blk.drewN n, h.ints.drewN n, grown_drewN_one h.grw n⟩
theorem prV_one {c : Nat} {v : Nat → Int} {k : Nat} (h : gcdN c v ≠ 0) : prV c v k = (sgnN c v * v k).tdiv (gcdN c v) := if_neg h
theorem prV_nil {c : Nat} {v : Nat → Int} {k : Nat} (h : gcdN c v = 0) : prV c v k = v k := if_pos h
theorem sgn_step {n : Nat} {f : Nat → Int} : sgnN (n + 1) f = if sgnN n f = 0 ∧ f n ≠ 0 then (if f n < 0 then -1 else 1) else sgnN n f := rfl
set_option maxHeartbeats 2000000 in
theorem sPrim (r c i N g cap : Nat) (xs : List Int) (w : World) (hN : N = r * c) (hx : xs.length = N) (hr : r ≤ 24) (hc : c ≤ 24) (hi : i < r) (nx : nums xs = true) (hg : Ints w g xs) :
    Calls Try.prog 128 #[.agg #[.int .i64 r, .int .i64 c, .slice (some ⟨g, 0, none⟩) N cap], .int .i64 i] w (fun e w' => Void e ∧ Ints w' g (prL r c i xs) ∧ w.grownBy w' (some g)) := by
  have hle : r * c ≤ 24 * 24 := Nat.mul_le_mul hr hc
  rw [← hN] at hle
  have HN := Lib.hid hN
  have HX := Lib.hid hx
  have NX := Lib.hid nx
  have lg := hg.lt
  have ST : Hid (PrSt w r c g N cap xs (w.alloc (.cells #[.int .i64 r, .int .i64 c, .slice (some ⟨g, 0, none⟩) N cap] 26))) := ⟨Blk3.at_ _ _ _ _ rfl, hg.old _, World.grownBy_alloc _ _ _⟩
  have IX : Hid (∀ j, j < c → ∃ P : Nat, i * c + j = P ∧ P < N ∧ IntKind.i64.wrap ((i : Int) * (c : Int)) = (i : Int) * (c : Int) ∧ IntKind.i64.wrap ((i : Int) * (c : Int) + (j : Int)) = (P : Int)) := fun j hj => by
    have h1 : i * c + j < r * c := idx_lt hi hj
    have c1 : (i : Int) * (c : Int) = ((i * c : Nat) : Int) := (Int.natCast_mul _ _).symm
    refine ⟨i * c + j, rfl, by omega, IntWalk.i64_in _ (by rw [c1]; omega), ?_⟩
    rw [show (i : Int) * (c : Int) + (j : Int) = ((i * c + j : Nat) : Int) by rw [c1]; omega]
    exact IntWalk.i64_in _ (by omega)
  obtain ⟨v, hv⟩ : ∃ v, mxC c xs i = v := ⟨_, rfl⟩
  have VN : Hid (∀ j, j < c → NumP (v j)) := fun j hj => by rw [← hv]; exact mx_nums (by rw [hx, hN]) nx hi hj
  have VX : Hid (∀ j P, i * c + j = P → xs.getD P 0 = v j) := fun j P h => by rw [← hv, ← h]; rfl
  have PV : Hid (prL r c i xs = rowTo r c i (prV c v) xs c) := by show _ = _; rw [rowTo_all, prL_row, hv]
  have RZ : Hid (rowTo r c i (prV c v) xs 0 = xs) := rowTo_zero (by rw [hx, hN])
  have PZ : Hid (∀ j, gcdN c v = 0 → rowTo r c i (prV c v) xs j = xs) := fun j h => by
    refine (tab_ext (by rw [hx, hN]) fun p q hp hq => ?_).symm
    by_cases e : p = i ∧ q < j
    · obtain ⟨rfl, hqj⟩ := e
      rw [if_pos ⟨rfl, hqj⟩, prV_nil h, ← hv]; rfl
    · rw [if_neg e]; rfl
  have UN : Hid (∀ j, j < c → NumP (prV c v j)) := fun j hj => prV_num (fun k hk => VN.out k hk) hj
  clear hN hx nx hg hv
  go_enter Try.func128, Try.ntmps128
  go_wp2_with fail
  generalize w.alloc (.cells #[.int .i64 r, .int .i64 c, .slice (some ⟨g, 0, none⟩) N cap] 26) = W at ST ⊢
  go_loopw [4, 5, 6, 7] (fun v4 v5 v6 _ wr => ∃ j : Nat, v6 = .int .i64 j ∧ j ≤ c ∧ v4 = .int .i64 (gcdN j v) ∧ v5 = .int .i64 (sgnN j v) ∧ PrSt w r c g N cap xs wr) (fun _ _ v6 _ _ => c - (intOf v6).toNat)
  case atStart => exact ⟨0, rfl, by omega, rfl, rfl, ST.out⟩
  case round =>
    clear ST
    obtain ⟨j, rfl, hj, rfl, rfl, hst⟩ := hrel
    have ST := Lib.hid hst
    clear hst
    obtain ⟨p0, p1, p2, -, -, -⟩ := ST.out.blk.all
    by_cases hlt : j < c
    · obtain ⟨P, hP, hPN, u1, u2⟩ := IX.out j hlt
      have P0 : (0 : Int) ≤ (P : Int) := by omega
      have P1 : (P : Int) < (N : Int) := by omega
      have hcell := ST.out.ints.cell (i := P) (by rw [HX.out]; exact hPN)
      rw [VX.out j P hP] at hcell
      have hb := VN.out j hlt
      have hgb := gcdN_num (n := j) (f := v) (fun k hk => VN.out k (by omega))
      have GS : Hid (gcdN (j + 1) v = ((gcdN j v).gcd (v j) : Int)) := rfl
      have SS := Lib.hid (sgn_step (n := j) (f := v))
      generalize hs0 : sgnN j v = s at SS
      generalize gcdN j v = gg at hgb GS
      obtain ⟨x, hx⟩ : ∃ x, v j = x := ⟨_, rfl⟩
      rw [hx] at hcell hb GS SS
      unfold NumP at hb hgb
      have GC : Hid (∀ w', Calls Try.prog 120 #[.int .i64 gg, .int .i64 x] w' fun e w2 => e = .returned (.int .i64 (gg.gcd x : Int)) ∧ ∃ n, w2 = w'.drewN n) := fun w' => sGcd gg x w' hgb hb
      clear hP hx hs0
      by_cases h1 : s = 0 ∧ x ≠ 0
      · obtain ⟨rfl, hx0⟩ := h1
        have n1 : (x != 0) = true := by simpa using hx0
        have n2 : (x == 0) = false := by simpa using hx0
        rw [if_pos ⟨rfl, hx0⟩] at SS
        rcases Int.lt_or_lt_of_ne hx0 with hneg | hpos
        · obtain ⟨y, rfl⟩ : ∃ y, x = -y := ⟨-x, by omega⟩
          rw [if_pos hneg] at SS
          have q1 : Int.tdiv (-y) y = -1 := by rw [Int.neg_tdiv, Int.tdiv_self (by omega)]
          have q2 : (y == 0) = false := by simp; omega
          have q3 : IntKind.i64.wrap (-1) = -1 := by decide
          have q4 : ¬ y = 0 := by omega
          clear hx0
          go_wp2_with fail
          refine (sAbs_n y _ (by omega) (by omega)).mono ?_
          rintro e w2 ⟨rfl, rfl⟩
          go_wp2_with fail
          refine (GC.out _).mono ?_
          rintro e w2 ⟨rfl, nq, rfl⟩
          go_wp2_with fail
          go_roundw
          case rel => exact ⟨j + 1, by go_num, by omega, by first | (rw [GS.out]; done) | (rw [GS.out]; simp), by rw [SS.out], by first | exact ST.out.drewN nq | exact (ST.out.drewN 1).drewN nq⟩
          case measure => simp [intOf]; omega
        · rw [if_neg (by omega)] at SS
          have q1 : Int.tdiv x x = 1 := Int.tdiv_self (by omega)
          have q3 : IntKind.i64.wrap 1 = 1 := by decide
          have q4 : ¬ x = 0 := by omega
          clear hx0
          go_wp2_with fail
          refine (sAbs_p x _ (by omega) (by omega)).mono ?_
          rintro e w2 ⟨rfl, rfl⟩
          go_wp2_with fail
          refine (GC.out _).mono ?_
          rintro e w2 ⟨rfl, nq, rfl⟩
          go_wp2_with fail
          go_roundw
          case rel => exact ⟨j + 1, by go_num, by omega, by first | (rw [GS.out]; done) | (rw [GS.out]; simp), by rw [SS.out], by first | exact ST.out.drewN nq | exact (ST.out.drewN 1).drewN nq⟩
          case measure => simp [intOf]; omega
      · rw [if_neg h1] at SS
        rcases Bool.eq_false_or_eq_true (s == 0) with n1 | n1
        · have hs : s = 0 := by simpa using n1
          have hx0 : x = 0 := Classical.byContradiction fun h2 => h1 ⟨hs, h2⟩
          have n2 : (x != 0) = false := by simp [hx0]
          have n3 : (x == 0) = true := by simp [hx0]
          clear hs hx0 h1
          go_wp2_with fail
          refine (GC.out _).mono ?_
          rintro e w2 ⟨rfl, nq, rfl⟩
          go_wp2_with fail
          go_roundw
          case rel => exact ⟨j + 1, by go_num, by omega, by first | (rw [GS.out]; done) | (rw [GS.out]; simp), by rw [SS.out], by first | exact ST.out.drewN nq | exact (ST.out.drewN 1).drewN nq⟩
          case measure => simp [intOf]; omega
        · clear h1
          go_wp2_with fail
          refine (GC.out _).mono ?_
          rintro e w2 ⟨rfl, nq, rfl⟩
          go_wp2_with fail
          go_roundw
          case rel => exact ⟨j + 1, by go_num, by omega, by first | (rw [GS.out]; done) | (rw [GS.out]; simp), by rw [SS.out], by first | exact ST.out.drewN nq | exact (ST.out.drewN 1).drewN nq⟩
          case measure => simp [intOf]; omega
    · obtain rfl : c = j := by omega
      clear hlt
      have SG := sgnN_or c v
      have GB := gcdN_num (n := c) (f := v) (fun k hk => VN.out k hk)
      have G0 := gcdN_nonneg c v
      have PO : Hid (∀ k, gcdN c v ≠ 0 → prV c v k = (sgnN c v * v k).tdiv (gcdN c v)) := fun k h => prV_one h
      have RT : Hid (∀ k, k < c → (rowTo r c i (prV c v) xs k).set (i * c + k) (prV c v k) = rowTo r c i (prV c v) xs (k + 1)) := fun k hk => rowTo_step hi hk
      have RX : Hid (∀ k, k < c → (rowTo r c i (prV c v) xs k).getD (i * c + k) 0 = xs.getD (i * c + k) 0) := fun k hk => rowTo_old hi hk (.inr (Nat.le_refl _))
      have RL : Hid (∀ k, (rowTo r c i (prV c v) xs k).length = N) := fun k => by rw [rowTo_length, HN.out]
      rw [← RZ.out] at ST
      have SX : Hid (xs = rowTo r c i (prV c v) xs 0) := RZ.out.symm
      generalize prV c v = u at PO PV RZ PZ UN RT RX RL ST SX
      generalize sgnN c v = sg at SG PO ⊢
      generalize gcdN c v = gg at GB G0 PO PZ ⊢
      unfold NumP at GB
      obtain ⟨gb1, gb2⟩ := GB
      go_wp2_with fail
      clear p0 p1 p2
      go_loopw [8] (fun v8 wr => ∃ j : Nat, v8 = .int .i64 j ∧ j ≤ c ∧ PrSt w r c g N cap (rowTo r c i u xs j) wr) (fun v8 _ => c - (intOf v8).toNat)
      case atStart => exact ⟨0, rfl, by omega, ST.out⟩
      case round =>
        clear ST
        obtain ⟨j, rfl, hj, hst⟩ := hrel
        have ST := Lib.hid hst
        clear hst
        obtain ⟨p0, p1, p2, -, -, -⟩ := ST.out.blk.all
        by_cases hlt : j < c
        · by_cases hg0 : 0 < gg
          · obtain ⟨P, hP, hPN, u1, u2⟩ := IX.out j hlt
            have P0 : (0 : Int) ≤ (P : Int) := by omega
            have P1 : (P : Int) < (N : Int) := by omega
            have hcell := ST.out.ints.cell (i := P) (by rw [RL.out]; exact hPN)
            have hfr := ST.out.ints.free P
            rw [← hP, RX.out j hlt, VX.out j _ rfl, hP] at hcell
            have hb := VN.out j hlt
            have ho := UN.out j hlt
            rw [PO.out j (by omega)] at ho
            have RS := Lib.hid (RT.out j hlt)
            rw [PO.out j (by omega), hP] at RS
            obtain ⟨x, hx⟩ : ∃ x, v j = x := ⟨_, rfl⟩
            rw [hx] at hcell hb ho RS
            have hy : NumP (sg * x) := by
              unfold NumP at hb ⊢
              rcases SG with rfl | rfl | rfl <;> omega
            unfold NumP at hb hy ho
            have z1 : IntKind.i64.wrap (sg * x) = sg * x := IntWalk.i64_in _ (by omega)
            have z2 : IntKind.i64.wrap ((sg * x).tdiv gg) = (sg * x).tdiv gg := IntWalk.i64_in _ (by omega)
            have z3 : (gg == 0) = false := by simp; omega
            have z4 : ¬ gg = 0 := by omega
            clear hx hP
            go_wp2_with fail
            go_still_tail 23, (by kernel_rfl)
            go_wp2_with fail
            go_roundw
            case rel =>
              refine ⟨j + 1, by go_num, by omega, ?_⟩
              rw [← RS.out]
              first | exact ST.out.put (by omega) P _ | exact (ST.out.drewN 1).put (by omega) P _
            case measure => simp [intOf]; omega
          · have hg1 : gg = 0 := by omega
            have EQ : Hid (prL r c i xs = rowTo r c i u xs j) := by show _ = _; rw [PV.out, PZ.out c hg1, PZ.out j hg1]
            go_wp2_with fail
            go_end0
            exact ⟨rfl, by rw [EQ.out]; exact ST.out.ints, ST.out.grw⟩
        · obtain rfl : c = j := by omega
          clear hlt
          go_wp2_with fail
          go_end0
          exact ⟨rfl, by rw [PV.out]; exact ST.out.ints, ST.out.grw⟩
end Go.Proofs.Ytcapddcmnjeloaa
end

section
/-
  A row of ints of a call's own, that append may go on with.
-/
namespace Go.Proofs.Ytcapddcmnjeloaa
open Go.RowKit

def OwnQ (B : Nat) (w : World) (v : Value) (zs : List Int) : Prop := w.ownsRow B 3 1 v zs.length (zs.map (Value.int .i64))
theorem OwnQ.le {B : Nat} {w : World} {v : Value} {zs : List Int} (h : OwnQ B w v zs) {k : Nat} (hk : v.ownBlock = some k) : B ≤ k := by
  rcases h.2 with ⟨rfl, -⟩ | ⟨g, cap, cur, rfl, hB, -⟩
  · cases hk
  · simp [Value.ownBlock] at hk; omega
theorem OwnQ.move {B : Nat} {w w' : World} {v : Value} {zs : List Int} (h : OwnQ B w v zs) (hb : ∀ k, v.ownBlock = some k → w'.heap[k]? = w.heap[k]?) : OwnQ B w' v zs := by
  obtain ⟨h1, ⟨h2, h3⟩ | ⟨g, cap, cur, rfl, hB, hg, rest⟩⟩ := h
  · exact ⟨h1, .inl ⟨h2, h3⟩⟩
  · exact ⟨h1, .inr ⟨g, cap, cur, rfl, hB, (hb g rfl).trans hg, rest⟩⟩
theorem OwnQ.lt {B : Nat} {w : World} {v : Value} {zs : List Int} (h : OwnQ B w v zs) {k : Nat} (hk : v.ownBlock = some k) : k < w.heap.size := by
  rcases h.2 with ⟨rfl, -⟩ | ⟨g, cap, cur, rfl, hB, hg, -⟩
  · cases hk
  · simp only [Value.ownBlock, Option.some.injEq] at hk
    subst hk
    exact lt_of_block hg
theorem OwnQ.one {B rb : Nat} {w w' : World} {v : Value} {zs : List Int} (h : OwnQ B w v zs) (hg : w.grownBy w' (some rb)) (hr : rb < B) : OwnQ B w' v zs :=
  h.move fun k hk => hg.block k (h.lt hk) (by have := h.le hk; simp; omega)
theorem OwnQ.drewN {B : Nat} {w : World} {v : Value} {zs : List Int} (h : OwnQ B w v zs) (n : Nat) : OwnQ B (w.drewN n) v zs := h
theorem OwnQ.keep {B : Nat} {w w' : World} {v : Value} {zs : List Int} (h : OwnQ B w v zs) (hb : Below w.heap.size w w') : OwnQ B w' v zs := h.move fun k hk => hb.block k (h.lt hk)
theorem OwnQ.lower {B B' : Nat} {w : World} {v : Value} {zs : List Int} (h : OwnQ B w v zs) (hB : B' ≤ B) : OwnQ B' w v zs := by
  obtain ⟨h1, h2 | ⟨g, cap, cur, e, hg, rest⟩⟩ := h
  · exact ⟨h1, .inl h2⟩
  · exact ⟨h1, .inr ⟨g, cap, cur, e, by omega, rest⟩⟩
theorem OwnQ.form {B : Nat} {w : World} {v : Value} {zs : List Int} (h : OwnQ B w v zs) : ∃ a c, v = .slice a zs.length c := by
  obtain ⟨h1, ⟨h2, h3⟩ | ⟨g, cap, cur, e, hB, hg, rest⟩⟩ := h
  · exact ⟨_, _, by rw [h2, h3]⟩
  · exact ⟨_, _, e⟩
theorem OwnQ.own {B : Nat} {w : World} {v : Value} {zs : List Int} (h : OwnQ B w v zs) (hn : zs.length ≤ 16777216) : Own B w v zs := Own.of_row h hn
theorem OwnQ.nil (B : Nat) (w : World) : OwnQ B w (.slice none 0 0) [] := ⟨rfl, .inl ⟨rfl, rfl⟩⟩
theorem OwnQ.none_ {B : Nat} {w : World} {g : Nat} (hB : B ≤ g) (h : IntsC w g 0 []) : OwnQ B w (.slice (some ⟨g, 0, none⟩) 0 0) [] := h.row hB
end Go.Proofs.Ytcapddcmnjeloaa
end

section
/-
  Chapter 7, in the model: the elimination.
-/
namespace Go.Proofs.Ytcapddcmnjeloaa
set_option maxRecDepth 100000
open Go.RowKit

def pvI (pv : List Nat) : List Int := pv.map fun (k : Nat) => (k : Int)
/-- The worlds of the walk: the copy, the result's block, the pivots. -/
structure EcSt (w : World) (B b rb r c g N cap : Nat) (ys : List Int) (v : Value) (pv : List Nat) (wr : World) : Prop where
  blk : Blk3 wr b 26 (.int .i64 r) (.int .i64 c) (.slice (some ⟨g, 0, none⟩) N cap)
  ret : Blk3 wr rb 26 (.int .i64 0) (.int .i64 0) (.slice none 0 0)
  ints : Ints wr g ys
  own : OwnQ B wr v (pvI pv)
  bel : Below w.heap.size w wr
  le : B ≤ wr.heap.size
theorem EcSt.one {w : World} {B b rb r c g N cap : Nat} {ys ys' : List Int} {v : Value} {pv : List Nat} {wr w' : World} (h : EcSt w B b rb r c g N cap ys v pv wr) (hi : Ints w' g ys') (hg : wr.grownBy w' (some g)) (hb : b ≠ g) (hr : rb ≠ g) (hB : g < B) (hw : w.heap.size ≤ g) : EcSt w B b rb r c g N cap ys' v pv w' :=
  ⟨h.blk.keepOne hg hb, h.ret.keepOne hg hr, hi, h.own.one hg hB, h.bel.trans (below_of_one hg hw h.bel.size), Nat.le_trans h.le hg.size⟩
theorem EcSt.put {w : World} {B b rb r c g N cap : Nat} {ys : List Int} {v : Value} {pv : List Nat} {wr : World} (h : EcSt w B b rb r c g N cap ys v pv wr) (hb : b ≠ g) (hr : rb ≠ g) (hB : g < B) (hw : w.heap.size ≤ g) (P : Nat) (z : Int) : EcSt w B b rb r c g N cap (ys.set P z) v pv (wr.setCell ⟨g, P, none⟩ (.int .i64 z)) :=
  h.one (h.ints.set P z) (grown_set_one (World.grownBy.refl _ _) rfl _) hb hr hB hw
theorem EcSt.drewN {w : World} {B b rb r c g N cap : Nat} {ys : List Int} {v : Value} {pv : List Nat} {wr : World} (h : EcSt w B b rb r c g N cap ys v pv wr) (n : Nat) : EcSt w B b rb r c g N cap ys v pv (wr.drewN n) :=
  ⟨h.blk.drewN n, h.ret.drewN n, h.ints.drewN n, h.own.drewN n, below_drewN h.bel n, h.le⟩
theorem prL_self {r c i : Nat} {xs : List Int} (hx : xs.length = r * c) (h : i < r → Norm c (mxC c xs i)) : prL r c i xs = xs := by
  rw [prL_row]
  exact rowL_self hx fun hi q hq => prV_id (h hi) hq
theorem EcSt.drew {w : World} {B b rb r c g N cap : Nat} {ys : List Int} {v : Value} {pv : List Nat} {wr : World} (h : EcSt w B b rb r c g N cap ys v pv wr) : EcSt w B b rb r c g N cap ys v pv wr.drew := h.drewN 1
/-- What the elimination gives. -/
def EchP (w : World) (r c : Nat) (o : Option (List Int × List Nat)) (e : Ending) (w' : World) : Prop :=
  (∃ (va vb : Value) (ys : List Int) (pv : List Nat), o = some (ys, pv) ∧ e = .returned (.tuple #[.agg #[.int .i64 r, .int .i64 c, va], vb, .bool true]) ∧ Own w.heap.size w' va ys ∧ Own w.heap.size w' vb (pvI pv) ∧ (∀ k, va.ownBlock = some k → vb.ownBlock ≠ some k) ∧ Below w.heap.size w w')
  ∨ (∃ vb : Value, o = none ∧ e = .returned (.tuple #[.agg #[.int .i64 0, .int .i64 0, .slice none 0 0], vb, .bool false]) ∧ Own w.heap.size w' vb [] ∧ Below w.heap.size w w')
theorem OwnQ.far {B : Nat} {w : World} {v : Value} {zs : List Int} (h : OwnQ B w v zs) {a : Addr} (ha : a.block < B) (u : Value) : OwnQ B (w.setCell a u) v zs :=
  h.move fun k hk => Below.heap_setCell w a u k (by have := h.le hk; omega)
theorem pvI_length (pv : List Nat) : (pvI pv).length = pv.length := List.length_map ..
theorem EcSt.end_ {w : World} {B b rb r c g N cap : Nat} {ys : List Int} {q : Option Addr} {n qc : Nat} {pv : List Nat} {wr : World} (h : EcSt w B b rb r c g N cap ys (.slice q n qc) pv wr) (hl : ys.length = N) (hcap : N ≤ cap) (hN : N ≤ 576) (hpv : pv.length ≤ 24) (hgB : g < B) (hw : w.heap.size ≤ g) (hrw : w.heap.size ≤ rb) (hrg : rb ≠ g) (hrB : rb < B) (x y z : Value) :
    EchP w r c (some (ys, pv)) (.returned (.tuple #[.agg #[.int .i64 r, .int .i64 c, .slice (some ⟨g, 0, none⟩) N cap], .slice q n qc, .bool true])) (((wr.setCell ⟨rb, 0, none⟩ x).setCell ⟨rb, 1, none⟩ y).setCell ⟨rb, 2, none⟩ z) := by
  refine .inl ⟨_, _, ys, pv, rfl, rfl, .inr ⟨g, cap, by rw [hl], hw, ?_, by omega, by omega⟩, ?_, fun k hk e => ?_, ?_⟩
  · exact ((h.ints.far (a := ⟨rb, 0, none⟩) hrg.symm x).far (a := ⟨rb, 1, none⟩) hrg.symm y).far (a := ⟨rb, 2, none⟩) hrg.symm z
  · exact ((((h.own.far (a := ⟨rb, 0, none⟩) hrB x).far (a := ⟨rb, 1, none⟩) hrB y).far (a := ⟨rb, 2, none⟩) hrB z).lower (by omega)).own (by rw [pvI_length]; omega)
  · simp only [Value.ownBlock, Option.some.injEq] at hk
    have := h.own.le e
    omega
  · exact ((h.bel.setCell hrw x).setCell hrw y).setCell hrw z
theorem EcSt.bad {w : World} {B b rb r c g N cap : Nat} {ys : List Int} {v : Value} {pv : List Nat} {wr : World} (h : EcSt w B b rb r c g N cap ys v pv wr) (hw : w.heap.size ≤ B) (hrw : w.heap.size ≤ rb) (hrB : rb < B) (x y z : Value) :
    EchP w r c none (.returned (.tuple #[.agg #[.int .i64 0, .int .i64 0, .slice none 0 0], .slice (some ⟨wr.heap.size, 0, none⟩) 0 0, .bool false])) ((((wr.alloc (.cells #[] 3)).setCell ⟨rb, 0, none⟩ x).setCell ⟨rb, 1, none⟩ y).setCell ⟨rb, 2, none⟩ z) := by
  have hl := h.le
  have o : OwnQ B (wr.alloc (.cells #[] 3)) (.slice (some ⟨wr.heap.size, 0, none⟩) 0 0) [] := OwnQ.none_ h.le ⟨Nat.zero_le _, [], rfl, heap_alloc_new wr _⟩
  refine .inr ⟨_, rfl, rfl, ?_, ?_⟩
  · exact ((((o.far (a := ⟨rb, 0, none⟩) hrB x).far (a := ⟨rb, 1, none⟩) hrB y).far (a := ⟨rb, 2, none⟩) hrB z).lower hw).own (by simp)
  · exact (((h.bel.alloc h.bel.size _).setCell hrw x).setCell hrw y).setCell hrw z
theorem tdiv_bb {x y b : Int} (h1 : -b ≤ x) (h2 : x ≤ b) : -b ≤ x.tdiv y ∧ x.tdiv y ≤ b := by
  have h := Int.natAbs_tdiv_le_natAbs x y
  omega
theorem swC_nums {r c p t : Nat} {xs : List Int} (hx : xs.length = r * c) (hn : nums xs = true) (hp : p < r) (ht : t < r) : nums (swC p t c xs) = true := nums_true fun k hk => by
  rw [swC_length, hx] at hk
  have hc : 0 < c := by
    rcases Nat.eq_zero_or_pos c with e | e
    · subst e; omega
    · exact e
  have e : k = k / c * c + k % c := by rw [Nat.mul_comm]; exact (Nat.div_add_mod k c).symm
  have h1 : k / c < r := Nat.div_lt_of_lt_mul (by rw [Nat.mul_comm]; exact hk)
  have := swC_at (p := p) (t := t) hx h1 (Nat.mod_lt k hc)
  unfold mxC at this
  rw [e, this]
  refine mx_nums hx hn ?_ (Nat.mod_lt k hc)
  split
  · exact ht
  · split <;> omega
theorem EcSt.app {w : World} {B b rb r c g N cap : Nat} {ys : List Int} {v v' : Value} {pv pv' : List Nat} {wr w' : World} (h : EcSt w B b rb r c g N cap ys v pv wr) {o : Obj} (hg : (wr.alloc o).grownBy w' v.ownBlock) (ho : OwnQ B w' v' (pvI pv')) (hb : b < B) (hr : rb < B) (hgB : g < B) (hw : w.heap.size ≤ B) : EcSt w B b rb r c g N cap ys v' pv' w' := by
  have keep : ∀ k, k < B → k < wr.heap.size → w'.heap[k]? = wr.heap[k]? := fun k hk hl => (hg.block k (by simp; omega) (fun e => by have := h.own.le e.symm; omega)).trans (Below.heap_alloc wr o k hl)
  have hs := hg.size
  simp at hs
  have hl := h.le
  exact ⟨(keep b hb h.blk.lt).trans h.blk, (keep rb hr h.ret.lt).trans h.ret, h.ints.move (keep g hgB h.ints.lt), ho, h.bel.trans ⟨hg.os, hg.tape, hg.output, by omega, fun k hk => keep k (by omega) (by omega)⟩, by omega⟩
set_option maxHeartbeats 4000000 in
theorem sEch (r c N : Nat) (a : Option Addr) (m : Nat) (xs : List Int) (w : World) (h : Rd w a xs) (ha : Spot a) (hx : xs.length = N) (hN : N = r * c) (hr : r ≤ 24) (hc : c ≤ 24) (nx : nums xs = true) :
    Calls Try.prog 107 #[.agg #[.int .i64 r, .int .i64 c, .slice a N m]] w (EchP w r c (echM r c xs)) := by
  have hle : r * c ≤ 24 * 24 := Nat.mul_le_mul hr hc
  rw [← hN] at hle
  have CP : Hid (∀ w', Below w.heap.size w w' → Calls Try.prog 87 #[.agg #[.int .i64 r, .int .i64 c, .slice a N m]] w' (fun e w2 => ∃ g cap : Nat, e = .returned (.agg #[.int .i64 r, .int .i64 c, .slice (some ⟨g, 0, none⟩) N cap]) ∧ w'.heap.size ≤ g ∧ IntsC w2 g cap xs ∧ Below w'.heap.size w' w2)) := fun w' hb => sCopyA r c a m N xs w' (h.below hb) ha hx (by omega)
  have IX : Hid (∀ i j, i < r → j < c → ∃ P : Nat, i * c + j = P ∧ P < N ∧ IntKind.i64.wrap ((i : Int) * (c : Int)) = (i : Int) * (c : Int) ∧ IntKind.i64.wrap ((i : Int) * (c : Int) + (j : Int)) = (P : Int)) := fun i j hi hj => by
    have h1 : i * c + j < r * c := idx_lt hi hj
    have c1 : (i : Int) * (c : Int) = ((i * c : Nat) : Int) := (Int.natCast_mul _ _).symm
    refine ⟨i * c + j, rfl, by omega, IntWalk.i64_in _ (by rw [c1]; omega), ?_⟩
    rw [show (i : Int) * (c : Int) + (j : Int) = ((i * c + j : Nat) : Int) by rw [c1]; omega]
    exact IntWalk.i64_in _ (by omega)
  have HR : Hid (echC r c c 0 (prTo r c r xs) [] = echM r c xs) := rfl
  have PR : Hid (∀ ys pv, echM r c xs = some (ys, pv) → (∀ i, i < r → prL r c i ys = ys) ∧ pv.length ≤ r ∧ ys.length = N ∧ nums ys = true) := fun ys pv he => by
    obtain ⟨h1, -, -, h4, h5, h6⟩ := echM_says (by rw [hx, hN]) nx he
    exact ⟨fun i hi => prL_self h4 fun hi => h6 i hi, h1.le, by rw [h4, hN], h5⟩
  generalize echM r c xs = RES at HR PR ⊢
  have HN := Lib.hid hN
  have HX := Lib.hid hx
  have NX := Lib.hid nx
  clear hN hx nx h ha
  go_enter Try.func107, Try.ntmps107
  go_upto_region 1 with fail
  have K0 : Hid (Blk3 ((w.alloc (.cells #[.int .i64 r, .int .i64 c, .slice a N m] 26)).alloc (.cells #[.int .i64 0, .int .i64 0, .slice none 0 0] 26)) w.heap.size 26 (.int .i64 r) (.int .i64 c) (.slice a N m)) := (Blk3.at_ _ _ _ _ rfl).old _
  have R0 : Hid (Blk3 ((w.alloc (.cells #[.int .i64 r, .int .i64 c, .slice a N m] 26)).alloc (.cells #[.int .i64 0, .int .i64 0, .slice none 0 0] 26)) (w.heap.size + 1) 26 (.int .i64 0) (.int .i64 0) (.slice none 0 0)) := Blk3.at_ _ _ _ _ (by simp)
  have B0 : Hid (Below w.heap.size w ((w.alloc (.cells #[.int .i64 r, .int .i64 c, .slice a N m] 26)).alloc (.cells #[.int .i64 0, .int .i64 0, .slice none 0 0] 26))) := ((Below.refl _ _).alloc (Nat.le_refl _) _).alloc (by simp) _
  have S0 : Hid (((w.alloc (.cells #[.int .i64 r, .int .i64 c, .slice a N m] 26)).alloc (.cells #[.int .i64 0, .int .i64 0, .slice none 0 0] 26)).heap.size = w.heap.size + 2) := by show _ = _; simp
  generalize (w.alloc (.cells #[.int .i64 r, .int .i64 c, .slice a N m] 26)).alloc (.cells #[.int .i64 0, .int .i64 0, .slice none 0 0] 26) = W0 at K0 R0 B0 S0 ⊢
  obtain ⟨p0, p1, p2, -, -, -⟩ := K0.out.all
  go_wp2_with fail
  refine (CP.out _ B0.out).mono ?_
  rintro e w1 ⟨g, cap, rfl, hg, hi, hb⟩
  have gl := hi.lt
  have hcap := hi.le
  have s0 := S0.out
  have I0 := Lib.hid (hi.ints.old (.cells #[.int .i64 r, .int .i64 c, .slice (some ⟨g, 0, none⟩) N cap] 26))
  have R1 := Lib.hid ((R0.out.step hb).old (.cells #[.int .i64 r, .int .i64 c, .slice (some ⟨g, 0, none⟩) N cap] 26))
  have K1 : Hid (Blk3 (w1.alloc (.cells #[.int .i64 r, .int .i64 c, .slice (some ⟨g, 0, none⟩) N cap] 26)) w1.heap.size 26 (.int .i64 r) (.int .i64 c) (.slice (some ⟨g, 0, none⟩) N cap)) := Blk3.at_ _ _ _ _ rfl
  have Bx := B0.out.trans (hb.mono (by omega))
  have B1 := Lib.hid (Bx.alloc Bx.size (.cells #[.int .i64 r, .int .i64 c, .slice (some ⟨g, 0, none⟩) N cap] 26))
  have S1 : Hid ((w1.alloc (.cells #[.int .i64 r, .int .i64 c, .slice (some ⟨g, 0, none⟩) N cap] 26)).heap.size = w1.heap.size + 1) := by show _ = _; simp
  rw [HX.out] at hcap
  have sb := hb.size
  clear hb hi Bx K0 R0 B0 S0 p0 p1 p2
  go_upto_region 2 with fail
  generalize w1.alloc (.cells #[.int .i64 r, .int .i64 c, .slice (some ⟨g, 0, none⟩) N cap] 26) = W at I0 R1 K1 B1 S1 ⊢
  obtain ⟨b, hbb⟩ : ∃ b, w1.heap.size = b := ⟨_, rfl⟩
  rw [hbb] at K1 S1 gl sb ⊢
  have lgb : g < b := gl
  have lrb : w.heap.size + 1 < g := by omega
  have lwg : w.heap.size < g := by omega
  have s1 := S1.out
  clear hbb S1 s0 gl sb hg
  obtain ⟨rb, hrb⟩ : ∃ rb, w.heap.size + 1 = rb := ⟨_, rfl⟩
  rw [hrb] at R1 lrb ⊢
  clear w1
  have lwr : w.heap.size < rb := by omega
  clear hrb
  go_upto_region 3 with fail
  have ST : Hid (EcSt w (b + 1) b rb r c g N cap xs (.slice (some ⟨b + 1, 0, none⟩) 0 0) [] (W.alloc (.cells #[] 3))) := ⟨K1.out.old _, R1.out.old _, I0.out.old _, OwnQ.none_ (Nat.le_refl _) ⟨Nat.zero_le _, [], rfl, by rw [← s1]; exact heap_alloc_new W _⟩, B1.out.alloc B1.out.size _, by simp; omega⟩
  generalize W.alloc (.cells #[] 3) = W2 at ST ⊢
  clear K1 R1 I0 B1 s1
  go_wp2_with fail
  go_loopw [7] (fun v7 wr => ∃ i : Nat, v7 = .int .i64 i ∧ i ≤ r ∧ EcSt w (b + 1) b rb r c g N cap (prTo r c i xs) (.slice (some ⟨b + 1, 0, none⟩) 0 0) [] wr) (fun v7 _ => r - (intOf v7).toNat)
  case atStart => exact ⟨0, rfl, by omega, by rw [prTo_zero (by rw [HX.out, HN.out])]; exact ST.out⟩
  case round =>
    clear ST
    obtain ⟨i, rfl, hi, hst⟩ := hrel
    have ST := Lib.hid hst
    clear hst
    obtain ⟨p0, p1, p2, -, -, -⟩ := ST.out.blk.all
    by_cases hlt : i < r
    · go_wp2_with fail
      refine (sPrim r c i N g cap (prTo r c i xs) _ HN.out (by rw [prTo_length, HN.out]) hr hc hlt (prTo_nums (by rw [HX.out, HN.out]) NX.out) ST.out.ints).mono ?_
      rintro e w2 ⟨rfl, hi2, hg2⟩
      have hs := ST.out.one hi2 hg2 (by omega) (by omega) (by omega) (by omega)
      rw [prTo_step hlt] at hs
      have S2 := Lib.hid hs
      clear hs hi2 hg2
      go_wp2_with fail
      go_roundw
      case rel => exact ⟨i + 1, by go_num, by omega, S2.out⟩
      case measure => simp [intOf]; omega
    · obtain rfl : r = i := by omega
      clear hlt
      have YL : Hid ((prTo r c r xs).length = N) := by show _ = _; rw [prTo_length, HN.out]
      have YN : Hid (nums (prTo r c r xs) = true) := prTo_nums (by rw [HX.out, HN.out]) NX.out
      generalize prTo r c r xs = y0 at ST HR YL YN
      go_wp2_with fail
      clear p0 p1 p2
      go_loopw [3, 4, 6, 8, 9, 10, 11, 12, 13, 14, 15, 16] (fun _ _ v6 v8 _ _ _ _ _ _ _ _ wr => ∃ (j k : Nat) (ys : List Int) (q : Option Addr) (qc : Nat) (pv : List Nat), v6 = .slice q pv.length qc ∧ v8 = .int .i64 j ∧ j + k = c ∧ ys.length = N ∧ nums ys = true ∧ pv.length ≤ r ∧ echC r c k j ys pv = RES ∧ EcSt w (b + 1) b rb r c g N cap ys (.slice q pv.length qc) pv wr) (fun _ _ _ v8 _ _ _ _ _ _ _ _ _ => c - (intOf v8).toNat)
      case atStart => exact ⟨0, c, y0, _, _, [], rfl, rfl, by omega, YL.out, YN.out, by simp, HR.out, ST.out⟩
      case round =>
        clear ST YL YN HR
        obtain ⟨j, k, ys, q, qc, pv, rfl, rfl, hjk, hl, hn, hpv, hR, hst⟩ := hrel
        have ST := Lib.hid hst
        have HL := Lib.hid hl
        have HY := Lib.hid hn
        have HR := Lib.hid hR
        clear hst hl hn hR
        obtain ⟨t, ht⟩ : ∃ t, pv.length = t := ⟨_, rfl⟩
        have PT := Lib.hid ht
        rw [ht] at ST hpv ⊢
        clear ht
        obtain ⟨p0, p1, p2, -, -, -⟩ := ST.out.blk.all
        by_cases hjc : j < c
        · by_cases htr : t < r
          · obtain ⟨k, rfl⟩ : ∃ k', k = k' + 1 := ⟨k - 1, by omega⟩
            go_wp2_with fail
            go_loopw [10] (fun v10 wq => ∃ p : Nat, v10 = .int .i64 p ∧ t ≤ p ∧ p ≤ r ∧ (∀ i, t ≤ i → i < p → mxC c ys i j = 0) ∧ wq = wr) (fun v10 _ => r - (intOf v10).toNat)
            case atStart => exact ⟨t, rfl, Nat.le_refl _, by omega, fun i h1 h2 => by omega, rfl⟩
            case round =>
              obtain ⟨p, rfl, hp1, hp2, hp0, rfl⟩ := hrel
              have P0 := Lib.hid hp0
              clear hp0
              by_cases hpr : p < r
              · obtain ⟨P, hP, hPN, u1, u2⟩ := IX.out p j hpr hjc
                have Pa : (0 : Int) ≤ (P : Int) := by omega
                have Pb : (P : Int) < (N : Int) := by omega
                have hcell := ST.out.ints.cell (i := P) (by rw [HL.out]; exact hPN)
                rw [← hP, show ys.getD (p * c + j) 0 = mxC c ys p j from rfl, hP] at hcell
                obtain ⟨x, hxx⟩ : ∃ x, mxC c ys p j = x := ⟨_, rfl⟩
                have X := Lib.hid hxx
                rw [hxx] at hcell
                clear hxx hP
                by_cases h0 : x = 0
                · have n1 : (x == 0) = true := by simp [h0]
                  have P1 : Hid (∀ i, t ≤ i → i < p + 1 → mxC c ys i j = 0) := fun i h1 h2 => by
                    rcases Nat.lt_or_ge i p with h3 | h3
                    · exact P0.out i h1 h3
                    · obtain rfl : i = p := by omega
                      rw [X.out, h0]
                  clear h0
                  go_wp2_with fail
                  go_roundw
                  case rel => exact ⟨p + 1, by go_num, by omega, by omega, P1.out, trivial⟩
                  case measure => simp [intOf]; omega
                · have n1 : (x == 0) = false := by simpa using h0
                  have FS : Hid (fstR c j ys (r - pv.length) pv.length = p) := fstR_eq (by rw [PT.out]; omega) (by rw [PT.out]; omega) (fun i h1 h2 => P0.out i (by rw [← PT.out]; exact h1) h2) (fun _ => by rw [X.out]; exact h0)
                  have ZL : Hid ((swC p t c ys).length = N) := by show _ = _; rw [swC_length, HL.out]
                  have ZN : Hid (nums (swC p t c ys) = true) := swC_nums (by rw [HL.out, HN.out]) HY.out hpr htr
                  have EN : Hid (elimR r c t j r 0 (swC p t c ys) = none → RES = none) := fun h => by
                    have h1 := HR.out
                    rw [echC_none (p := p) (by rw [PT.out]; exact htr) FS.out (by omega) (by rw [PT.out]; exact h)] at h1
                    exact h1.symm
                  have EO : Hid (∀ us, elimR r c t j r 0 (swC p t c ys) = some us → echC r c k (j + 1) us (pv ++ [j]) = RES) := fun us h => by
                    have h1 := HR.out
                    rw [echC_on (p := p) (by rw [PT.out]; exact htr) FS.out (by omega) (by rw [PT.out]; exact h)] at h1
                    exact h1
                  have SW : Hid (p ≠ t → opL 0 p t 0 c ys = swC p t c ys) := fun h => by unfold swC; rw [if_neg h]
                  have SN : Hid (p = t → ys = swC p t c ys) := fun h => by unfold swC; rw [if_pos h]
                  generalize swC p t c ys = zs at ZL ZN EN EO SW SN
                  obtain ⟨E, hE⟩ : ∃ E, elimR r c t j r 0 zs = E := ⟨_, rfl⟩
                  rw [hE] at EN EO
                  have EE := Lib.hid hE
                  clear hE h0
                  have n3 : ((p : Int) == (r : Int)) = false := by simp; omega
                  go_upto_if 71 with fail
                  go_cut [] (fun wx => EcSt w (b + 1) b rb r c g N cap zs (.slice q t qc) pv wx)
                  case first =>
                    by_cases hpt : p = t
                    · have n2 : ((p : Int) != (t : Int)) = false := by simp [hpt]
                      have hs := ST.out
                      rw [SN.out hpt] at hs
                      have S2 := Lib.hid hs
                      clear hs hpt
                      go_wp2_with fail
                      go_meet
                      exact S2.out
                    · have n2 : ((p : Int) != (t : Int)) = true := by simp; omega
                      go_wp2_with fail
                      refine (sDo r c p t g N cap 0 0 ys _ ST.out.ints HL.out HN.out hr hc hpr htr (.inl rfl) (fun _ => hpt)).mono ?_
                      rintro e w4 ⟨rfl, hi4, hg4⟩
                      have hs := ST.out.one hi4 hg4 (by omega) (by omega) (by omega) (by omega)
                      rw [SW.out hpt] at hs
                      have S2 := Lib.hid hs
                      clear hs hi4 hg4
                      go_wp2_with fail
                      go_meet
                      exact S2.out
                  case rest =>
                    clear ST
                    have ST := Lib.hid hcut
                    clear hcut hcell p0 p1 p2
                    obtain ⟨p0, p1, p2, -, -, -⟩ := ST.out.blk.all
                    go_wp2_with fail
                    clear p0 p1 p2
                    go_loopw [3, 4, 11, 12, 13, 14, 15, 16] (fun _ _ v11 _ _ _ _ _ wu => ∃ (i l : Nat) (us : List Int), v11 = .int .i64 i ∧ i + l = r ∧ us.length = N ∧ nums us = true ∧ elimR r c t j l i us = E ∧ EcSt w (b + 1) b rb r c g N cap us (.slice q t qc) pv wu) (fun _ _ v11 _ _ _ _ _ _ => r - (intOf v11).toNat)
                    case atStart => exact ⟨0, r, zs, rfl, by omega, ZL.out, ZN.out, EE.out, ST.out⟩
                    case round =>
                      clear ST
                      obtain ⟨i, l, us, rfl, hil, hul, hun, hue, hst⟩ := hrel
                      have ST := Lib.hid hst
                      have UL := Lib.hid hul
                      have UN := Lib.hid hun
                      have UE := Lib.hid hue
                      clear hst hul hun hue
                      obtain ⟨p0, p1, p2, -, -, -⟩ := ST.out.blk.all
                      by_cases hir : i < r
                      · obtain ⟨l, rfl⟩ : ∃ l', l = l' + 1 := ⟨l - 1, by omega⟩
                        obtain ⟨P, hP, hPN, u1, u2⟩ := IX.out i j hir hjc
                        have Pa : (0 : Int) ≤ (P : Int) := by omega
                        have Pb : (P : Int) < (N : Int) := by omega
                        have hcell := ST.out.ints.cell (i := P) (by rw [UL.out]; exact hPN)
                        rw [← hP, show us.getD (i * c + j) 0 = mxC c us i j from rfl, hP] at hcell
                        have hxn : NumP (mxC c us i j) := mx_nums (by rw [UL.out, HN.out]) UN.out hir hjc
                        obtain ⟨x, hxx⟩ : ∃ x, mxC c us i j = x := ⟨_, rfl⟩
                        have X := Lib.hid hxx
                        rw [hxx] at hcell hxn
                        clear hxx hP
                        by_cases hs : i = t ∨ x = 0
                        · have UE2 : Hid (elimR r c t j l (i + 1) us = E) := by
                            have h1 := UE.out
                            rw [elimR_skip (by rw [X.out]; exact hs)] at h1
                            exact h1
                          by_cases hit : i = t
                          · have n2 : ((i : Int) == (t : Int)) = true := by simp [hit]
                            clear hs hit
                            go_wp2_with fail
                            go_roundw
                            case rel => exact ⟨i + 1, l, us, by go_num, by omega, UL.out, UN.out, UE2.out, ST.out⟩
                            case measure => simp [intOf]; omega
                          · have n2 : ((i : Int) == (t : Int)) = false := by simp; omega
                            have n3 : (x == 0) = true := by simp [hs.resolve_left hit]
                            clear hs hit
                            go_wp2_with fail
                            go_roundw
                            case rel => exact ⟨i + 1, l, us, by go_num, by omega, UL.out, UN.out, UE2.out, ST.out⟩
                            case measure => simp [intOf]; omega
                        · have hit : i ≠ t := fun e => hs (.inl e)
                          have hx0 : x ≠ 0 := fun e => hs (.inr e)
                          have n2 : ((i : Int) == (t : Int)) = false := by simp; omega
                          have n3 : (x == 0) = false := by simpa using hx0
                          obtain ⟨Q, hQ, hQN, y1, y2⟩ := IX.out t j htr hjc
                          have Qa : (0 : Int) ≤ (Q : Int) := by omega
                          have Qb : (Q : Int) < (N : Int) := by omega
                          have hcell2 := ST.out.ints.cell (i := Q) (by rw [UL.out]; exact hQN)
                          rw [← hQ, show us.getD (t * c + j) 0 = mxC c us t j from rfl, hQ] at hcell2
                          have hyn : NumP (mxC c us t j) := mx_nums (by rw [UL.out, HN.out]) UN.out htr hjc
                          obtain ⟨y, hyy⟩ : ∃ y, mxC c us t j = y := ⟨_, rfl⟩
                          have Y := Lib.hid hyy
                          rw [hyy] at hcell2 hyn
                          have UB : Hid (rowN c (rdV j (mxC c us i) (mxC c us t)) ≠ true → E = none) := fun h => by
                            have h1 := UE.out
                            rw [elimR_bad (by rw [X.out]; exact hs) h] at h1
                            exact h1.symm
                          have UO : Hid (rowN c (rdV j (mxC c us i) (mxC c us t)) = true → elimR r c t j l (i + 1) (rdL r c t j i us) = E) := fun h => by
                            have h1 := UE.out
                            rw [elimR_on (by rw [X.out]; exact hs) h] at h1
                            exact h1
                          have UD : Hid (prL r c i (rowL r c i (rdV j (mxC c us i) (mxC c us t)) us) = rdL r c t j i us) := rdL_prim hir
                          have UM : Hid (rowN c (rdV j (mxC c us i) (mxC c us t)) = true → nums (rdL r c t j i us) = true) := fun h => rdL_nums (by rw [UL.out, HN.out]) UN.out h
                          have UK : Hid ((rdL r c t j i us).length = N) := by show _ = _; rw [rdL_length, HN.out]
                          clear hs hyy hQ
                          go_wp2_with fail
                          refine (sGcd x y _ hxn hyn).mono ?_
                          rintro e w5 ⟨rfl, nq, rfl⟩
                          have ST := Lib.hid (ST.out.drewN nq)
                          have hgp : 0 < x.gcd y := Int.gcd_pos_of_ne_zero_left y hx0
                          have UV : Hid (∀ h, rdV j (mxC c us i) (mxC c us t) h = y.tdiv (x.gcd y) * mxC c us i h - x.tdiv (x.gcd y) * mxC c us t h) := fun h => by rw [← X.out, ← Y.out]; rfl
                          obtain ⟨gg, hgg⟩ : ∃ gg : Int, (x.gcd y : Int) = gg := ⟨_, rfl⟩
                          rw [hgg] at UV ⊢
                          have g1 : gg ≠ 0 := by omega
                          have g2 : (gg == 0) = false := by simpa using g1
                          have b1 := tdiv_bb (y := gg) hxn.1 hxn.2
                          have b2 := tdiv_bb (y := gg) hyn.1 hyn.2
                          obtain ⟨qx, hqx⟩ : ∃ qx, x.tdiv gg = qx := ⟨_, rfl⟩
                          obtain ⟨qy, hqy⟩ : ∃ qy, y.tdiv gg = qy := ⟨_, rfl⟩
                          rw [hqx] at UV b1
                          rw [hqy] at UV b2
                          have wx : IntKind.i64.wrap qx = qx := IntWalk.i64_in _ (by omega)
                          have wy : IntKind.i64.wrap qy = qy := IntWalk.i64_in _ (by omega)
                          generalize rdV j (mxC c us i) (mxC c us t) = u at UB UO UV UD UM
                          generalize rdL r c t j i us = vs at UO UD UM UK
                          have RT : Hid (∀ k, k < c → (rowTo r c i u us k).set (i * c + k) (u k) = rowTo r c i u us (k + 1)) := fun k hk => rowTo_step hir hk
                          have RX : Hid (∀ k, k < c → (rowTo r c i u us k).getD (i * c + k) 0 = mxC c us i k) := fun k hk => rowTo_old hir hk (.inr (Nat.le_refl _))
                          have RY : Hid (∀ k, k < c → (rowTo r c i u us k).getD (t * c + k) 0 = mxC c us t k) := fun k hk => rowTo_old htr hk (.inl (fun e => hit e.symm))
                          have RL : Hid (∀ k, (rowTo r c i u us k).length = N) := fun k => by rw [rowTo_length, HN.out]
                          have NI : Hid (∀ k, k < c → NumP (mxC c us i k)) := fun k hk => mx_nums (by rw [UL.out, HN.out]) UN.out hir hk
                          have NT : Hid (∀ k, k < c → NumP (mxC c us t k)) := fun k hk => mx_nums (by rw [UL.out, HN.out]) UN.out htr hk
                          rw [← rowTo_zero (r := r) (c := c) (i := i) (v := u) (xs := us) (by rw [UL.out, HN.out])] at ST
                          clear p0 p1 p2 hcell hcell2 hgp
                          generalize wr.drewN nq = wz at ST ⊢
                          obtain ⟨p0, p1, p2, -, -, -⟩ := ST.out.blk.all
                          go_wp2_with fail
                          clear p0 p1 p2
                          go_loopw [3, 4, 15, 16] (fun _ _ v15 _ wv => ∃ h : Nat, v15 = .int .i64 h ∧ h ≤ c ∧ (∀ k, k < h → NumP (u k)) ∧ EcSt w (b + 1) b rb r c g N cap (rowTo r c i u us h) (.slice q t qc) pv wv) (fun _ _ v15 _ _ => c - (intOf v15).toNat)
                          case atStart => exact ⟨0, rfl, by omega, fun k hk => by omega, by first | exact ST.out | (have h := ST.out; rw [rowTo_zero (by rw [rowTo_length])] at h; exact h)⟩
                          case round =>
                            clear ST
                            obtain ⟨h, rfl, hh, hhn, hst⟩ := hrel
                            have ST := Lib.hid hst
                            have HH := Lib.hid hhn
                            clear hst hhn
                            obtain ⟨p0, p1, p2, -, -, -⟩ := ST.out.blk.all
                            by_cases hhc : h < c
                            · obtain ⟨P, hP, hPN, u1, u2⟩ := IX.out i h hir hhc
                              have Pa : (0 : Int) ≤ (P : Int) := by omega
                              have Pb : (P : Int) < (N : Int) := by omega
                              have hcell := ST.out.ints.cell (i := P) (by rw [RL.out]; exact hPN)
                              have hfr := ST.out.ints.free P
                              rw [← hP, RX.out h hhc, hP] at hcell
                              obtain ⟨Q, hQ, hQN, y1, y2⟩ := IX.out t h htr hhc
                              have Qa : (0 : Int) ≤ (Q : Int) := by omega
                              have Qb : (Q : Int) < (N : Int) := by omega
                              have hcell2 := ST.out.ints.cell (i := Q) (by rw [RL.out]; exact hQN)
                              rw [← hQ, RY.out h hhc, hQ] at hcell2
                              have na := NI.out h hhc
                              have nb := NT.out h hhc
                              have uv := UV.out h
                              have RS := Lib.hid (RT.out h hhc)
                              rw [hP] at RS
                              generalize mxC c us i h = ea at hcell na uv
                              generalize mxC c us t h = eb at hcell2 nb uv
                              have m1 := mul_num qy ea b2 na
                              have m2 := mul_num qx eb b1 nb
                              have v1 : IntKind.i64.wrap (qy * ea) = qy * ea := IntWalk.i64_in _ (by omega)
                              have v2 : IntKind.i64.wrap (qx * eb) = qx * eb := IntWalk.i64_in _ (by omega)
                              have v3 : IntKind.i64.wrap (qy * ea - qx * eb) = qy * ea - qx * eb := IntWalk.i64_in _ (by omega)
                              obtain ⟨z, hz⟩ : ∃ z, u h = z := ⟨_, rfl⟩
                              have Z := Lib.hid hz
                              rw [hz] at uv RS
                              have q0 : qy * ea - qx * eb = z := uv.symm
                              rw [q0] at v3
                              clear na nb m1 m2 hz hP hQ uv
                              go_wp2_with fail
                              go_still_tail 29, (by kernel_rfl)
                              go_wp2_with fail
                              refine (sFit z _).mono ?_
                              rintro e w6 ⟨rfl, rfl⟩
                              have S3 := Lib.hid ST.out.drew
                              clear ST p0 p1 p2 hcell hcell2 hfr
                              generalize wr.drew = wy at S3 ⊢
                              obtain ⟨p0, p1, p2, -, -, -⟩ := S3.out.blk.all
                              have hold := S3.out.ints.cell (i := P) (by rw [RL.out]; exact hPN)
                              have hfr := S3.out.ints.free P
                              by_cases hz : NumP z
                              · have n4 : (z == -4611686018427387904) = false := by have h := hz; unfold NumP at h; simp; omega
                                rw [show fitB z = z from if_pos hz]
                                have HH2 : Hid (∀ k, k < h + 1 → NumP (u k)) := fun k hk => by
                                  rcases Nat.lt_or_ge k h with h3 | h3
                                  · exact HH.out k h3
                                  · obtain rfl : k = h := by omega
                                    rw [Z.out]; exact hz
                                clear hz
                                go_wp2_with fail
                                go_roundw
                                case rel => exact ⟨h + 1, by go_num, by omega, HH2.out, by rw [← RS.out]; exact S3.out.put (by omega) (by omega) (by omega) (by omega) P z⟩
                                case measure => simp [intOf]; omega
                              · have RZ : Hid (RES = none) := EN.out (UB.out fun h1 => hz (by rw [← Z.out]; exact rowN_iff.mp h1 h hhc))
                                rw [show fitB z = -4611686018427387904 from if_neg hz]
                                clear hz hold hfr p0 p1 p2
                                obtain ⟨r0, r1, r2, f0, f1, f2⟩ := S3.out.ret.all
                                obtain ⟨e0, e1, e2, l0, l1, l2⟩ := (S3.out.ret.old (.cells #[] 3)).all
                                go_wp2_with fail
                                obtain ⟨E0, E1, E2, -, -, -⟩ := ((((S3.out.ret.old (.cells #[] 3)).set0 (.int .i64 0)).set1 (.int .i64 0)).set2 (.slice none 0 0)).all
                                exact bodyPost_ret (v := .tuple #[.agg #[.int .i64 0, .int .i64 0, .slice none 0 0], .slice (some ⟨wy.heap.size, 0, none⟩) 0 0, .bool false]) (by simp [results, Try.results107, go_sem, E0, E1, E2]) rfl (by rw [RZ.out]; exact S3.out.bad (by omega) (by omega) (by omega) _ _ _)
                            · obtain rfl : c = h := by omega
                              clear hhc
                              have RW : Hid (rowN c u = true) := rowN_iff.mpr HH.out
                              go_wp2_with fail
                              refine (sPrim r c i N g cap (rowTo r c i u us c) _ HN.out (RL.out c) hr hc hir (by rw [rowTo_all]; exact rowL_nums (by rw [UL.out, HN.out]) UN.out (fun q hq => HH.out q hq)) ST.out.ints).mono ?_
                              rintro e w7 ⟨rfl, hi7, hg7⟩
                              have hs := ST.out.one hi7 hg7 (by omega) (by omega) (by omega) (by omega)
                              rw [rowTo_all, UD.out] at hs
                              have S7 := Lib.hid hs
                              clear hs hi7 hg7
                              go_wp2_with fail
                              go_roundw
                              case rel => exact ⟨i + 1, l, vs, by go_num, by omega, UK.out, UM.out RW.out, UO.out RW.out, S7.out⟩
                              case measure => simp [intOf]; omega
                      · obtain rfl : l = 0 := by omega
                        have UF : Hid (echC r c k (j + 1) us (pv ++ [j]) = RES) := EO.out us UE.out.symm
                        obtain ⟨fi, hfi, hz0, hz1, hz2⟩ := facts_int
                        have HO : Hid ((wr.alloc (.cells #[.int .i64 j] 3)).ownsRow (b + 1) 3 1 (.slice q t qc) t ((pvI pv).map (Value.int .i64))) := by
                          have h1 := ST.out.own.keep ((Below.refl _ _).alloc (Nat.le_refl _) (.cells #[.int .i64 j] 3))
                          unfold OwnQ at h1
                          rw [pvI_length, PT.out] at h1
                          exact h1
                        have le := ST.out.le
                        go_wp2_with (at_builtin; refine wpList_append_own_at _ rfl _ _ 24 rfl (b + 1) 3 fi (.int .i64 0) 1 8 underlying_ints hfi hz0 hz1 hz2 rfl (by decide) _ _ _ rfl HO.out ⟨wr.heap.size, 0, none⟩ 1 1 [.int .i64 j] ?hx ?hl ?hnews ?h1 ?h63 ?hbytes ?hbase ?hnext)
                        case hx => rfl
                        case hl => rfl
                        case hnews => exact cell_one_new _ _ _
                        case h1 => intro v hv; simp at hv; subst hv; rfl
                        case h63 => unfold maxLen; omega
                        case hbytes => omega
                        case hbase => simp; omega
                        case hnext =>
                          rintro v' w7 ho hg7 - -
                          have O7 : OwnQ (b + 1) w7 v' (pvI (pv ++ [j])) := by
                            unfold OwnQ pvI
                            rw [List.map_append, List.length_append, List.map_append, List.length_map, PT.out]
                            exact ho
                          have hs := ST.out.app hg7 O7 (by omega) (by omega) (by omega) (by omega)
                          obtain ⟨q', qc', rfl⟩ := O7.form
                          rw [pvI_length] at hs ⊢
                          have S7 := Lib.hid hs
                          clear hs O7 ho hg7
                          go_wp2_with fail
                          go_roundw
                          case rel => exact ⟨j + 1, k, us, q', qc', pv ++ [j], rfl, by go_num, by omega, UL.out, UN.out, by rw [List.length_append, PT.out]; simp; omega, UF.out, S7.out⟩
                          case measure => simp [intOf]; omega
              · have hpe : p = r := by omega
                have FS : Hid (fstR c j ys (r - pv.length) pv.length = r) := fstR_eq (by rw [PT.out]; omega) (by rw [PT.out]; omega) (fun i h1 h2 => P0.out i (by rw [← PT.out]; exact h1) (by omega)) (fun h => by rw [PT.out] at h; omega)
                have RN : Hid (echC r c k (j + 1) ys pv = RES) := by
                  have h1 := HR.out
                  rw [echC_skip (by rw [PT.out]; exact htr) FS.out] at h1
                  exact h1
                have n1 : decide ((p : Int) < (r : Int)) = false := by simpa using hpr
                have n2 : ((p : Int) == (r : Int)) = true := by simp [hpe]
                clear hpe
                go_wp2_with fail
                go_roundw
                case rel => exact ⟨j + 1, k, ys, q, qc, pv, by rw [PT.out], by go_num, by omega, HL.out, HY.out, by rw [PT.out]; exact hpv, RN.out, by rw [PT.out]; exact ST.out⟩
                case measure => simp [intOf]; omega
          · have RF : Hid (some (ys, pv) = RES) := by
              have h1 := HR.out
              rw [echC_end (by rw [PT.out]; exact htr)] at h1
              exact h1
            obtain ⟨NR, -, -, -⟩ := PR.out ys pv RF.out.symm
            have NR := Lib.hid NR
            go_wp2_with fail
            clear p0 p1 p2
            go_loopw [17] (fun v17 wf => ∃ i : Nat, v17 = .int .i64 i ∧ i ≤ t ∧ EcSt w (b + 1) b rb r c g N cap ys (.slice q t qc) pv wf) (fun v17 _ => t - (intOf v17).toNat)
            case atStart => exact ⟨0, rfl, by omega, ST.out⟩
            case round =>
              clear ST
              obtain ⟨i, rfl, hi, hst⟩ := hrel
              have ST := Lib.hid hst
              clear hst
              obtain ⟨p0, p1, p2, f0, f1, f2⟩ := ST.out.blk.all
              by_cases hlt : i < t
              · go_wp2_with fail
                refine (sPrim r c i N g cap ys _ HN.out HL.out hr hc (by omega) HY.out ST.out.ints).mono ?_
                rintro e w2 ⟨rfl, hi2, hg2⟩
                have hs := ST.out.one hi2 hg2 (by omega) (by omega) (by omega) (by omega)
                rw [NR.out i (by omega)] at hs
                have S2 := Lib.hid hs
                clear hs hi2 hg2
                go_wp2_with fail
                go_roundw
                case rel => exact ⟨i + 1, by go_num, by omega, S2.out⟩
                case measure => simp [intOf]; omega
              · have hlt := hlt
                obtain ⟨r0, r1, r2, h0, h1, h2⟩ := ST.out.ret.all
                go_wp2_with fail
                obtain ⟨E0, E1, E2, -, -, -⟩ := (((ST.out.ret.set0 (.int .i64 r)).set1 (.int .i64 c)).set2 (.slice (some ⟨g, 0, none⟩) N cap)).all
                exact bodyPost_ret (v := .tuple #[.agg #[.int .i64 r, .int .i64 c, .slice (some ⟨g, 0, none⟩) N cap], .slice q t qc, .bool true]) (by simp [results, Try.results107, go_sem, E0, E1, E2]) rfl (by rw [← RF.out]; exact ST.out.end_ HL.out hcap (by omega) (by rw [PT.out]; omega) (by omega) (by omega) (by omega) (by omega) (by omega) _ _ _)
        · obtain rfl : k = 0 := by omega
          have RF : Hid (some (ys, pv) = RES) := HR.out
          obtain ⟨NR, -, -, -⟩ := PR.out ys pv RF.out.symm
          have NR := Lib.hid NR
          go_wp2_with fail
          clear p0 p1 p2
          go_loopw [17] (fun v17 wf => ∃ i : Nat, v17 = .int .i64 i ∧ i ≤ t ∧ EcSt w (b + 1) b rb r c g N cap ys (.slice q t qc) pv wf) (fun v17 _ => t - (intOf v17).toNat)
          case atStart => exact ⟨0, rfl, by omega, ST.out⟩
          case round =>
            clear ST
            obtain ⟨i, rfl, hi, hst⟩ := hrel
            have ST := Lib.hid hst
            clear hst
            obtain ⟨p0, p1, p2, f0, f1, f2⟩ := ST.out.blk.all
            by_cases hlt : i < t
            · go_wp2_with fail
              refine (sPrim r c i N g cap ys _ HN.out HL.out hr hc (by omega) HY.out ST.out.ints).mono ?_
              rintro e w2 ⟨rfl, hi2, hg2⟩
              have hs := ST.out.one hi2 hg2 (by omega) (by omega) (by omega) (by omega)
              rw [NR.out i (by omega)] at hs
              have S2 := Lib.hid hs
              clear hs hi2 hg2
              go_wp2_with fail
              go_roundw
              case rel => exact ⟨i + 1, by go_num, by omega, S2.out⟩
              case measure => simp [intOf]; omega
            · have hlt := hlt
              obtain ⟨r0, r1, r2, h0, h1, h2⟩ := ST.out.ret.all
              go_wp2_with fail
              obtain ⟨E0, E1, E2, -, -, -⟩ := (((ST.out.ret.set0 (.int .i64 r)).set1 (.int .i64 c)).set2 (.slice (some ⟨g, 0, none⟩) N cap)).all
              exact bodyPost_ret (v := .tuple #[.agg #[.int .i64 r, .int .i64 c, .slice (some ⟨g, 0, none⟩) N cap], .slice q t qc, .bool true]) (by simp [results, Try.results107, go_sem, E0, E1, E2]) rfl (by rw [← RF.out]; exact ST.out.end_ HL.out hcap (by omega) (by rw [PT.out]; omega) (by omega) (by omega) (by omega) (by omega) (by omega) _ _ _)
end Go.Proofs.Ytcapddcmnjeloaa
end
