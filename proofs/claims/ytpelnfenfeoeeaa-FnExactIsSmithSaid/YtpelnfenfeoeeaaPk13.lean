/-
  Texts of this seat, joined: ClO · UdI
-/
import Derived.Deep.DeepCutAuto
import Derived.IntWalk
import Derived.Test.YtpelnfenfeoeeaaPk2
import Derived.Test.YtpelnfenfeoeeaaPk3
import Derived.Test.YtpelnfenfeoeeaaPk4

section
/-
  Chapter 13, in the program: a column, a diagonal, in memory of their own.
-/
namespace Go.Proofs.Ytpelnfenfeoeeaa
set_option maxRecDepth 100000
open Go.RowKit

/-- The first k are done. -/
def upV (v : Nat → Int) (N k : Nat) : List Int := (List.range N).map fun i => if i < k then v i else 0
theorem upV_length (v : Nat → Int) (N k : Nat) : (upV v N k).length = N := by simp [upV]
theorem upV_at {v : Nat → Int} {N k i : Nat} (hi : i < N) : (upV v N k).getD i 0 = if i < k then v i else 0 := by simp [upV, List.getD, hi]
theorem upV_zero (v : Nat → Int) (N : Nat) : upV v N 0 = List.replicate N 0 := by
  refine list_getD (by rw [upV_length, List.length_replicate]) fun p hp => ?_
  rw [upV_length] at hp
  rw [upV_at hp, if_neg (Nat.not_lt_zero _)]
  simp [List.getD, hp]
theorem upV_all (v : Nat → Int) (N : Nat) : upV v N N = rwL N v := by
  refine list_getD (by rw [upV_length, rwL_length]) fun p hp => ?_
  rw [upV_length] at hp
  rw [upV_at hp, if_pos hp, rwL_at hp]
theorem upV_set {v : Nat → Int} {N k : Nat} (hk : k < N) : (upV v N k).set k (v k) = upV v N (k + 1) := by
  refine list_getD (by rw [List.length_set, upV_length, upV_length]) fun p hp => ?_
  rw [List.length_set, upV_length] at hp
  rw [getD_set _ _ _ _ (by rw [upV_length]; exact hk), upV_at hp, upV_at hp]
  by_cases e : p = k
  · rw [if_pos e, e, if_pos (Nat.lt_succ_self _)]
  · rw [if_neg e]
    by_cases h : p < k
    · rw [if_pos h, if_pos (by omega)]
    · rw [if_neg h, if_neg (by omega)]
/-- A new slice of N numbers. -/
def LineRes (N : Nat) (v : Nat → Int) (w : World) (e : Ending) (w' : World) : Prop := ∃ g : Nat, e = .returned (.slice (some ⟨g, 0, none⟩) N N) ∧ w.heap.size ≤ g ∧ Ints w' g (rwL N v) ∧ Below w.heap.size w w'
set_option maxHeartbeats 2000000 in
theorem iColOf (R C : Nat) (a : Option Addr) (n m j : Nat) (xs : List Int) (w : World) (h : Rd w a xs) (hA : CelA a n m) (hx : xs.length = n) (hn : n = R * C) (hR : R ≤ 24) (hC : C ≤ 24) (hj : j < C) :
    Calls Try.prog 151 #[.agg #[.int .i64 R, .int .i64 C, .slice a n m], .int .i64 j] w (LineRes R (fun i => mxC C xs i j) w) := by
  have hle : R * C ≤ 24 * 24 := Nat.mul_le_mul hR hC
  have RW : Hid (∀ i w', i < R → Calls Try.prog 83 #[.agg #[.int .i64 R, .int .i64 C, .slice a n m], .int .i64 i] w' (RowAt a (i * C) C w')) := fun i w' hi => iRowIn R C i (i * C) n m a w' hA.spot rfl (by rw [hn, ← Nat.succ_mul]; exact Nat.mul_le_mul_right _ hi) hA.le hA.nil (by omega) (by omega)
  have CX : Hid (∀ i w', i < R → Below w.heap.size w w' → ∃ g o : Nat, a = some ⟨g, o, none⟩ ∧ w'.cell? ⟨g, o + i * C + j, none⟩ = some (.int .i64 (mxC C xs i j))) := fun i w' hi hb => by
    obtain ⟨g, o, h1, h2⟩ := h.below hb (i * C + j) (by rw [hx, hn]; exact idx_lt hi hj)
    exact ⟨g, o, h1, by rw [Nat.add_assoc]; exact h2⟩
  obtain ⟨v, hv⟩ : ∃ v : Nat → Int, (fun i => mxC C xs i j) = v := ⟨_, rfl⟩
  have CX : Hid (∀ i w', i < R → Below w.heap.size w w' → ∃ g o : Nat, a = some ⟨g, o, none⟩ ∧ w'.cell? ⟨g, o + i * C + j, none⟩ = some (.int .i64 (v i))) := by rw [← hv]; exact CX
  rw [hv]
  clear h hA hx hn hv hle
  go_enter Try.func151, Try.ntmps151
  have hmk := makeInts R (by omega)
  have I0 : Hid (Ints ((w.alloc (.cells #[.int .i64 R, .int .i64 C, .slice a n m] 26)).alloc (.cells (madeCells #[.int .i64 0] R) 3)) (w.heap.size + 1) (upV v R 0)) := by
    refine Lib.hid ?_
    rw [upV_zero]
    exact Ints.made R (by simp)
  have K0 : Hid (Blk3 ((w.alloc (.cells #[.int .i64 R, .int .i64 C, .slice a n m] 26)).alloc (.cells (madeCells #[.int .i64 0] R) 3)) w.heap.size 26 (.int .i64 R) (.int .i64 C) (.slice a n m)) := (Blk3.at_ _ _ _ _ rfl).old _
  have B0 : Hid (Below w.heap.size w ((w.alloc (.cells #[.int .i64 R, .int .i64 C, .slice a n m] 26)).alloc (.cells (madeCells #[.int .i64 0] R) 3))) := ((Below.refl _ _).alloc (Nat.le_refl _) _).alloc (by simp) _
  have S0 : Hid (((w.alloc (.cells #[.int .i64 R, .int .i64 C, .slice a n m] 26)).alloc (.cells (madeCells #[.int .i64 0] R) 3)).heap.size = w.heap.size + 2) := by show _ = _; simp
  go_wp2_with fail
  generalize (w.alloc (.cells #[.int .i64 R, .int .i64 C, .slice a n m] 26)).alloc (.cells (madeCells #[.int .i64 0] R) 3) = W0 at I0 K0 B0 S0 ⊢
  clear hmk
  go_loopw [6, 12] (fun _ v9 wq => ∃ k : Nat, v9 = .int .i64 k ∧ k ≤ R ∧ Ints wq (w.heap.size + 1) (upV v R k) ∧ FrS (fun b => b = w.heap.size + 1) W0 wq) (fun _ v9 _ => R - (intOf v9).toNat)
  case atStart => exact ⟨0, rfl, by omega, I0.out, FrS.refl _ _⟩
  case round =>
    clear I0
    obtain ⟨k, rfl, hk, hi, hfr⟩ := hrel
    have I := Lib.hid hi
    have F := Lib.hid hfr
    clear hi hfr
    have K := Lib.hid (K0.out.frs F.out (by omega))
    have B := Lib.hid (B0.out.trans (F.out.below (B := w.heap.size) (fun k hk => by omega) B0.out.size))
    obtain ⟨p0, p1, p2, -, -, -⟩ := K.out.all
    by_cases hlt : k < R
    · have CXX := Lib.hid (fun w' h9 => CX.out k w' hlt h9)
      have US := Lib.hid (upV_set (v := v) hlt)
      obtain ⟨x, hx⟩ : ∃ x, v k = x := ⟨_, rfl⟩
      rw [hx] at CXX US
      clear hx
      go_wp2_with fail
      refine (RW.out k _ hlt).mono ?_
      rintro e w3 ⟨q', m', rfl, -, hq', -, hb3⟩
      have B3 := Lib.hid (B.out.trans (hb3.mono B.out.size))
      obtain ⟨g9, o9, hag, hcell⟩ := CXX.out w3 B3.out
      obtain rfl := hq' g9 o9 hag (by omega)
      have I3 := Lib.hid (I.out.keep hb3 I.out.lt)
      have F3 := Lib.hid (F.out.trans (FrS.of_below hb3))
      have hold := I3.out.cell (i := k) (by rw [upV_length]; exact hlt)
      have hfree := I3.out.free k
      have u1 : (k : Int) < (R : Int) := by omega
      have u2 : (j : Int) < (C : Int) := by omega
      clear hb3 hq' hag p0 p1 p2
      go_wp2_with fail
      go_roundw
      case rel => exact ⟨k + 1, by go_num, by omega, by rw [← US.out]; exact I3.out.set k x, F3.out.set (a := ⟨w.heap.size + 1, k, none⟩) (.inl rfl) _⟩
      case measure => simp [intOf]; omega
    · have hkN : k = R := by omega
      have II : Hid (Ints wr (w.heap.size + 1) (rwL R v)) := by refine Lib.hid ?_; rw [← upV_all, ← hkN]; rw [← hkN] at I; exact I.out
      clear hkN
      go_wp2_with fail
      go_ret
      exact ⟨_, rfl, by omega, II.out, B.out⟩
set_option maxHeartbeats 4000000 in
theorem iDiagOf (R C : Nat) (a : Option Addr) (n m : Nat) (xs : List Int) (w : World) (h : Rd w a xs) (hA : CelA a n m) (hx : xs.length = n) (hn : n = R * C) (hR : R ≤ 24) (hC : C ≤ 24) :
    Calls Try.prog 64 #[.agg #[.int .i64 R, .int .i64 C, .slice a n m]] w (LineRes (min R C) (fun i => mxC C xs i i) w) := by
  have hle : R * C ≤ 24 * 24 := Nat.mul_le_mul hR hC
  have RW : Hid (∀ i w', i < R → Calls Try.prog 83 #[.agg #[.int .i64 R, .int .i64 C, .slice a n m], .int .i64 i] w' (RowAt a (i * C) C w')) := fun i w' hi => iRowIn R C i (i * C) n m a w' hA.spot rfl (by rw [hn, ← Nat.succ_mul]; exact Nat.mul_le_mul_right _ hi) hA.le hA.nil (by omega) (by omega)
  have CX : Hid (∀ i w', i < R → i < C → Below w.heap.size w w' → ∃ g o : Nat, a = some ⟨g, o, none⟩ ∧ w'.cell? ⟨g, o + i * C + i, none⟩ = some (.int .i64 (mxC C xs i i))) := fun i w' hi hj hb => by
    obtain ⟨g, o, h1, h2⟩ := h.below hb (i * C + i) (by rw [hx, hn]; exact idx_lt hi hj)
    exact ⟨g, o, h1, by rw [Nat.add_assoc]; exact h2⟩
  obtain ⟨v, hv⟩ : ∃ v : Nat → Int, (fun i => mxC C xs i i) = v := ⟨_, rfl⟩
  have CX : Hid (∀ i w', i < R → i < C → Below w.heap.size w w' → ∃ g o : Nat, a = some ⟨g, o, none⟩ ∧ w'.cell? ⟨g, o + i * C + i, none⟩ = some (.int .i64 (v i))) := by rw [← hv]; exact CX
  rw [hv]
  clear h hA hx hn hv hle
  rcases Nat.lt_or_ge C R with hCR | hCR
  · have CX : Hid (∀ i w', i < C → Below w.heap.size w w' → ∃ g o : Nat, a = some ⟨g, o, none⟩ ∧ w'.cell? ⟨g, o + i * C + i, none⟩ = some (.int .i64 (v i))) := fun i w' h1 h2 => CX.out i w' (by omega) h1 h2
    have RW : Hid (∀ i w', i < C → Calls Try.prog 83 #[.agg #[.int .i64 R, .int .i64 C, .slice a n m], .int .i64 i] w' (RowAt a (i * C) C w')) := fun i w' h1 => RW.out i w' (by omega)
    rw [Nat.min_eq_right (Nat.le_of_lt hCR)]
    go_enter Try.func64, Try.ntmps64
    have hmk := makeInts C (by omega)
    have I0 : Hid (Ints ((w.alloc (.cells #[.int .i64 R, .int .i64 C, .slice a n m] 26)).alloc (.cells (madeCells #[.int .i64 0] C) 3)) (w.heap.size + 1) (upV v C 0)) := by
      refine Lib.hid ?_
      rw [upV_zero]
      exact Ints.made C (by simp)
    have K0 : Hid (Blk3 ((w.alloc (.cells #[.int .i64 R, .int .i64 C, .slice a n m] 26)).alloc (.cells (madeCells #[.int .i64 0] C) 3)) w.heap.size 26 (.int .i64 R) (.int .i64 C) (.slice a n m)) := (Blk3.at_ _ _ _ _ rfl).old _
    have B0 : Hid (Below w.heap.size w ((w.alloc (.cells #[.int .i64 R, .int .i64 C, .slice a n m] 26)).alloc (.cells (madeCells #[.int .i64 0] C) 3))) := ((Below.refl _ _).alloc (Nat.le_refl _) _).alloc (by simp) _
    have S0 : Hid (((w.alloc (.cells #[.int .i64 R, .int .i64 C, .slice a n m] 26)).alloc (.cells (madeCells #[.int .i64 0] C) 3)).heap.size = w.heap.size + 2) := by show _ = _; simp
    go_wp2_with fail
    generalize (w.alloc (.cells #[.int .i64 R, .int .i64 C, .slice a n m] 26)).alloc (.cells (madeCells #[.int .i64 0] C) 3) = W0 at I0 K0 B0 S0 ⊢
    clear hmk
    go_loopw [4, 13] (fun _ v9 wq => ∃ k : Nat, v9 = .int .i64 k ∧ k ≤ C ∧ Ints wq (w.heap.size + 1) (upV v C k) ∧ FrS (fun b => b = w.heap.size + 1) W0 wq) (fun _ v9 _ => C - (intOf v9).toNat)
    case atStart => exact ⟨0, rfl, by omega, I0.out, FrS.refl _ _⟩
    case round =>
      clear I0
      obtain ⟨k, rfl, hk, hi, hfr⟩ := hrel
      have I := Lib.hid hi
      have F := Lib.hid hfr
      clear hi hfr
      have K := Lib.hid (K0.out.frs F.out (by omega))
      have B := Lib.hid (B0.out.trans (F.out.below (B := w.heap.size) (fun k hk => by omega) B0.out.size))
      obtain ⟨p0, p1, p2, -, -, -⟩ := K.out.all
      by_cases hlt : k < C
      · have CXX := Lib.hid (fun w' h9 => CX.out k w' hlt h9)
        have US := Lib.hid (upV_set (v := v) hlt)
        obtain ⟨x, hx⟩ : ∃ x, v k = x := ⟨_, rfl⟩
        rw [hx] at CXX US
        clear hx
        go_wp2_with fail
        refine (RW.out k _ hlt).mono ?_
        rintro e w3 ⟨q', m', rfl, -, hq', -, hb3⟩
        have B3 := Lib.hid (B.out.trans (hb3.mono B.out.size))
        obtain ⟨g9, o9, hag, hcell⟩ := CXX.out w3 B3.out
        obtain rfl := hq' g9 o9 hag (by omega)
        have I3 := Lib.hid (I.out.keep hb3 I.out.lt)
        have F3 := Lib.hid (F.out.trans (FrS.of_below hb3))
        have hold := I3.out.cell (i := k) (by rw [upV_length]; exact hlt)
        have hfree := I3.out.free k
        have u1 : (k : Int) < (C : Int) := by omega
        have u2 : (k : Int) < (C : Int) := by omega
        clear hb3 hq' hag p0 p1 p2
        go_wp2_with fail
        go_roundw
        case rel => exact ⟨k + 1, by go_num, by omega, by rw [← US.out]; exact I3.out.set k x, F3.out.set (a := ⟨w.heap.size + 1, k, none⟩) (.inl rfl) _⟩
        case measure => simp [intOf]; omega
      · have hkN : k = C := by omega
        have II : Hid (Ints wr (w.heap.size + 1) (rwL C v)) := by refine Lib.hid ?_; rw [← upV_all, ← hkN]; rw [← hkN] at I; exact I.out
        clear hkN
        go_wp2_with fail
        go_ret
        exact ⟨_, rfl, by omega, II.out, B.out⟩
  · have CX : Hid (∀ i w', i < R → Below w.heap.size w w' → ∃ g o : Nat, a = some ⟨g, o, none⟩ ∧ w'.cell? ⟨g, o + i * C + i, none⟩ = some (.int .i64 (v i))) := fun i w' h1 h2 => CX.out i w' h1 (by omega) h2
    have hCR2 : ¬ C < R := by omega
    rw [Nat.min_eq_left hCR]
    go_enter Try.func64, Try.ntmps64
    have hmk := makeInts R (by omega)
    have I0 : Hid (Ints ((w.alloc (.cells #[.int .i64 R, .int .i64 C, .slice a n m] 26)).alloc (.cells (madeCells #[.int .i64 0] R) 3)) (w.heap.size + 1) (upV v R 0)) := by
      refine Lib.hid ?_
      rw [upV_zero]
      exact Ints.made R (by simp)
    have K0 : Hid (Blk3 ((w.alloc (.cells #[.int .i64 R, .int .i64 C, .slice a n m] 26)).alloc (.cells (madeCells #[.int .i64 0] R) 3)) w.heap.size 26 (.int .i64 R) (.int .i64 C) (.slice a n m)) := (Blk3.at_ _ _ _ _ rfl).old _
    have B0 : Hid (Below w.heap.size w ((w.alloc (.cells #[.int .i64 R, .int .i64 C, .slice a n m] 26)).alloc (.cells (madeCells #[.int .i64 0] R) 3))) := ((Below.refl _ _).alloc (Nat.le_refl _) _).alloc (by simp) _
    have S0 : Hid (((w.alloc (.cells #[.int .i64 R, .int .i64 C, .slice a n m] 26)).alloc (.cells (madeCells #[.int .i64 0] R) 3)).heap.size = w.heap.size + 2) := by show _ = _; simp
    go_wp2_with fail
    generalize (w.alloc (.cells #[.int .i64 R, .int .i64 C, .slice a n m] 26)).alloc (.cells (madeCells #[.int .i64 0] R) 3) = W0 at I0 K0 B0 S0 ⊢
    clear hmk
    go_loopw [4, 13] (fun _ v9 wq => ∃ k : Nat, v9 = .int .i64 k ∧ k ≤ R ∧ Ints wq (w.heap.size + 1) (upV v R k) ∧ FrS (fun b => b = w.heap.size + 1) W0 wq) (fun _ v9 _ => R - (intOf v9).toNat)
    case atStart => exact ⟨0, rfl, by omega, I0.out, FrS.refl _ _⟩
    case round =>
      clear I0
      obtain ⟨k, rfl, hk, hi, hfr⟩ := hrel
      have I := Lib.hid hi
      have F := Lib.hid hfr
      clear hi hfr
      have K := Lib.hid (K0.out.frs F.out (by omega))
      have B := Lib.hid (B0.out.trans (F.out.below (B := w.heap.size) (fun k hk => by omega) B0.out.size))
      obtain ⟨p0, p1, p2, -, -, -⟩ := K.out.all
      by_cases hlt : k < R
      · have CXX := Lib.hid (fun w' h9 => CX.out k w' hlt h9)
        have US := Lib.hid (upV_set (v := v) hlt)
        obtain ⟨x, hx⟩ : ∃ x, v k = x := ⟨_, rfl⟩
        rw [hx] at CXX US
        clear hx
        go_wp2_with fail
        refine (RW.out k _ hlt).mono ?_
        rintro e w3 ⟨q', m', rfl, -, hq', -, hb3⟩
        have B3 := Lib.hid (B.out.trans (hb3.mono B.out.size))
        obtain ⟨g9, o9, hag, hcell⟩ := CXX.out w3 B3.out
        obtain rfl := hq' g9 o9 hag (by omega)
        have I3 := Lib.hid (I.out.keep hb3 I.out.lt)
        have F3 := Lib.hid (F.out.trans (FrS.of_below hb3))
        have hold := I3.out.cell (i := k) (by rw [upV_length]; exact hlt)
        have hfree := I3.out.free k
        have u1 : (k : Int) < (R : Int) := by omega
        have u2 : (k : Int) < (C : Int) := by omega
        clear hb3 hq' hag p0 p1 p2
        go_wp2_with fail
        go_roundw
        case rel => exact ⟨k + 1, by go_num, by omega, by rw [← US.out]; exact I3.out.set k x, F3.out.set (a := ⟨w.heap.size + 1, k, none⟩) (.inl rfl) _⟩
        case measure => simp [intOf]; omega
      · have hkN : k = R := by omega
        have II : Hid (Ints wr (w.heap.size + 1) (rwL R v)) := by refine Lib.hid ?_; rw [← upV_all, ← hkN]; rw [← hkN] at I; exact I.out
        clear hkN
        go_wp2_with fail
        go_ret
        exact ⟨_, rfl, by omega, II.out, B.out⟩
end Go.Proofs.Ytpelnfenfeoeeaa
end

section
/-
  Chapter 13, in the program: is a number a multiple; the first row with a cell that the pivot does not divide.
-/
namespace Go.Proofs.Ytpelnfenfeoeeaa
set_option maxRecDepth 100000
open Go.RowKit

theorem iMult (n d : Int) (w : World) (hn : NumP n) (hd : NumP d) : Calls Try.prog 65 #[.int .i64 n, .int .i64 d] w (Gives (.bool (decide (d ∣ n))) w) := by
  obtain ⟨n1, n2⟩ := hn
  obtain ⟨d1, d2⟩ := hd
  by_cases hd0 : d = 0
  · have e1 : (d == 0) = true := by simp [hd0]
    by_cases hn0 : n = 0
    · have V : Hid (decide (d ∣ n) = true) := decide_eq_true (by rw [hn0]; exact Int.dvd_zero d)
      have e2 : (n == 0) = true := by simp [hn0]
      rw [V.out]
      clear hd0 hn0
      go_enter Try.func65, Try.ntmps65
      go_wp2_with fail
      go_ret
      exact ⟨rfl, Below.refl _ _⟩
    · have V : Hid (decide (d ∣ n) = false) := decide_eq_false (by rw [hd0, Int.zero_dvd]; exact hn0)
      have e2 : (n == 0) = false := by simpa using hn0
      rw [V.out]
      clear hd0 hn0
      go_enter Try.func65, Try.ntmps65
      go_wp2_with fail
      go_ret
      exact ⟨rfl, Below.refl _ _⟩
  · have e1 : (d == 0) = false := by simpa using hd0
    have t1 := tmod_small n d hd0
    obtain ⟨tm, htm⟩ : ∃ tm, n.tmod d = tm := ⟨_, rfl⟩
    have TD : Hid (tm = 0 ↔ d ∣ n) := by refine Lib.hid ?_; rw [← htm, ← Int.dvd_iff_tmod_eq_zero]
    rw [htm] at t1
    have vm : IntKind.i64.wrap (n.tmod d) = tm := by rw [htm]; exact IntWalk.i64_in _ (by omega)
    by_cases h0 : tm = 0
    · have V : Hid (decide (d ∣ n) = true) := decide_eq_true (TD.out.1 h0)
      have e2 : (tm == 0) = true := by simp [h0]
      rw [V.out]
      clear hd0 h0
      go_enter Try.func65, Try.ntmps65
      go_wp2_with fail
      go_ret
      exact ⟨rfl, Below.refl _ _⟩
    · have V : Hid (decide (d ∣ n) = false) := decide_eq_false (fun h => h0 (TD.out.2 h))
      have e2 : (tm == 0) = false := by simpa using h0
      rw [V.out]
      clear hd0 h0
      go_enter Try.func65, Try.ntmps65
      go_wp2_with fail
      go_ret
      exact ⟨rfl, Below.refl _ _⟩
theorem one0F {W w' : World} {b : Nat} {p : Value} (h : W.cell? ⟨b, 0, none⟩ = some p) (hb : Below W.heap.size W w') : w'.cell? ⟨b, 0, none⟩ = some p := (hb.cell (World.block_lt_of_cell? W _ h)).trans h
theorem iUnd (x p : Int) (b : Nat) (w : World) (hb : w.cell? ⟨b, 0, none⟩ = some (.int .i64 p)) (hx : NumP x) (hp : NumP p) :
    Calls Try.prog 154 #[.int .i64 x, .pointer (some ⟨b, 0, none⟩)] w (Gives (.bool (!decide (p ∣ x))) w) := by
  have IM := Lib.hid (fun w' => iMult x p w' hx hp)
  generalize decide (p ∣ x) = d at IM ⊢
  go_enter Try.func154, Try.ntmps154
  go_wp2_with fail
  refine (IM.out _).mono ?_
  rintro e w1 ⟨rfl, hb1⟩
  go_wp2_with fail
  go_ret
  exact ⟨rfl, hb1⟩
set_option maxHeartbeats 1000000 in
theorem iIdxU (p : Int) (b m L : Nat) (q : Option Addr) (v : Nat → Int) (w : World) (h : Rd w q (rwL L v)) (hb : w.cell? ⟨b, 0, none⟩ = some (.int .i64 p)) (hp : NumP p) (hv : ∀ k, k < L → NumP (v k)) (hl : L ≤ 16777216) :
    Calls Try.prog 121 #[.slice q L m, .func (.func 154) #[] #[.pointer (some ⟨b, 0, none⟩)]] w fun e w' => ((∃ k : Nat, e = .returned (.int .i64 k) ∧ k < L ∧ ¬ p ∣ v k) ∨ (e = .returned (.int .i64 (-1)) ∧ ∀ k, k < L → p ∣ v k)) ∧ Below w.heap.size w w' := by
  have H := Lib.hid h
  have HV := Lib.hid hv
  have HB := Lib.hid hb
  clear h hv hb
  go_enter Try.func121, Try.ntmps121
  go_wp2_with fail
  go_loopw [5, 8] (fun _ v8 wr => ∃ k : Nat, v8 = .int .i64 k ∧ k ≤ L ∧ (∀ i, i < k → p ∣ v i) ∧ Below w.heap.size w wr) (fun _ v8 _ => L - (intOf v8).toNat)
  case atStart => exact ⟨0, rfl, by omega, fun i hi => by omega, Below.refl _ _⟩
  case round =>
    obtain ⟨k, rfl, hk, hi, hB⟩ := hrel
    have HI := Lib.hid hi
    have B := Lib.hid hB
    clear hi hB
    by_cases hlt : k < L
    · obtain ⟨g, o, rfl, hc⟩ := H.out.below B.out k (by rw [rwL_length]; exact hlt)
      rw [rwL_at hlt] at hc
      have hx := HV.out k hlt
      have hcall := iUnd (v k) p b wr (one0F HB.out B.out) hx hp
      obtain ⟨d, hd⟩ : ∃ d, decide (p ∣ v k) = d := ⟨_, rfl⟩
      rw [hd] at hcall
      have D := Lib.hid hd
      obtain ⟨x, hxx⟩ : ∃ x, v k = x := ⟨_, rfl⟩
      rw [hxx] at hc hcall
      have k0 : (k : Int) < (L : Int) := by omega
      clear hd hx hxx
      go_wp2_with fail
      refine hcall.mono ?_
      rintro e w' ⟨rfl, hb1⟩
      have B1 := Lib.hid (B.out.trans (hb1.mono B.out.size))
      clear hb1 hcall
      cases d with
      | false =>
        go_wp2_with fail
        go_ret
        exact ⟨.inl ⟨k, rfl, hlt, of_decide_eq_false D.out⟩, B1.out⟩
      | true =>
        go_wp2_with fail
        go_roundw
        case rel => exact ⟨k + 1, by go_num, by omega, fun i hi2 => by
          rcases Nat.lt_or_ge i k with h3 | h3
          · exact HI.out i h3
          · obtain rfl : i = k := by omega
            exact of_decide_eq_true D.out, B1.out⟩
        case measure => simp [intOf]; omega
    · obtain rfl : L = k := by omega
      go_wp2_with fail
      go_ret
      exact ⟨.inr ⟨rfl, HI.out⟩, B.out⟩
theorem iContU (p : Int) (b m L : Nat) (q : Option Addr) (v : Nat → Int) (w : World) (h : Rd w q (rwL L v)) (hb : w.cell? ⟨b, 0, none⟩ = some (.int .i64 p)) (hp : NumP p) (hv : ∀ k, k < L → NumP (v k)) (hl : L ≤ 16777216) :
    Calls Try.prog 153 #[.slice q L m, .func (.func 154) #[] #[.pointer (some ⟨b, 0, none⟩)]] w fun e w' => ((e = .returned (.bool true) ∧ ∃ k, k < L ∧ ¬ p ∣ v k) ∨ (e = .returned (.bool false) ∧ ∀ k, k < L → p ∣ v k)) ∧ Below w.heap.size w w' := by
  have hi := Lib.hid (iIdxU p b m L q v w h hb hp hv hl)
  clear h hb hv
  go_enter Try.func153, Try.ntmps153
  go_wp2_with fail
  refine hi.out.mono ?_
  rintro e w' ⟨⟨k, rfl, h1, h2⟩ | ⟨rfl, h1⟩, hb⟩
  · have H1 := Lib.hid h1
    have H2 := Lib.hid h2
    have HB := Lib.hid hb
    clear h1 h2 hb hi
    go_wp2_with fail
    go_ret
    exact ⟨.inl ⟨rfl, k, H1.out, H2.out⟩, HB.out⟩
  · have H1 := Lib.hid h1
    have HB := Lib.hid hb
    clear h1 hb hi
    go_wp2_with fail
    go_ret
    exact ⟨.inr ⟨rfl, H1.out⟩, HB.out⟩
/-- What undividedRow answers. -/
def UdRes (R C t : Nat) (p : Int) (xs : List Int) (w : World) (e : Ending) (w' : World) : Prop :=
  ((∃ k : Nat, e = .returned (.int .i64 k) ∧ t < k ∧ k < R ∧ (∃ j, j < C ∧ ¬ p ∣ mxC C xs k j) ∧ ∀ i, t < i → i < k → ∀ j, j < C → p ∣ mxC C xs i j) ∨ (e = .returned (.int .i64 (-1)) ∧ ∀ i, t < i → i < R → ∀ j, j < C → p ∣ mxC C xs i j)) ∧ Below w.heap.size w w'
set_option maxHeartbeats 2000000 in
theorem iUndiv (R C : Nat) (a : Option Addr) (n m t : Nat) (xs : List Int) (p : Int) (w : World) (h : Rd w a xs) (hA : CelA a n m) (hx : xs.length = n) (hn : n = R * C) (hR : R ≤ 24) (hC : C ≤ 24) (htR : t < R) (htC : t < C) (ho : nums xs = true) (hp : mxC C xs t t = p) :
    Calls Try.prog 119 #[.agg #[.int .i64 R, .int .i64 C, .slice a n m], .int .i64 t] w (UdRes R C t p xs w) := by
  have hle : R * C ≤ 24 * 24 := Nat.mul_le_mul hR hC
  have K0 : Hid (Blk3 (w.alloc (.cells #[.int .i64 R, .int .i64 C, .slice a n m] 26)) w.heap.size 26 (.int .i64 R) (.int .i64 C) (.slice a n m)) := Blk3.at_ _ _ _ _ rfl
  have B0 : Hid (Below w.heap.size w (w.alloc (.cells #[.int .i64 R, .int .i64 C, .slice a n m] 26))) := (Below.refl _ _).alloc (Nat.le_refl _) _
  have RW : Hid (∀ i w', i < R → Calls Try.prog 83 #[.agg #[.int .i64 R, .int .i64 C, .slice a n m], .int .i64 i] w' (RowAt a (i * C) C w')) := fun i w' hi => iRowIn R C i (i * C) n m a w' hA.spot rfl (by rw [hn, ← Nat.succ_mul]; exact Nat.mul_le_mul_right _ hi) hA.le hA.nil (by omega) (by omega)
  have RD : Hid (∀ i w' q', i < R → Below w.heap.size w w' → (∀ g o : Nat, a = some ⟨g, o, none⟩ → 0 < C → q' = some ⟨g, o + i * C, none⟩) → Rd w' q' (rwL C (mxC C xs i))) := fun i w' q' hi hb hq => (h.below hb).row (by rw [hx, hn]) hi hq
  have NU : Hid (∀ i j, NumP (mxC C xs i j)) := fun i j => nums_def ho _
  have CN : Hid (∀ (b m' L : Nat) (q : Option Addr) (v : Nat → Int) w', Rd w' q (rwL L v) → w'.cell? ⟨b, 0, none⟩ = some (.int .i64 p) → (∀ k, k < L → NumP (v k)) → L ≤ 16777216 → Calls Try.prog 153 #[.slice q L m', .func (.func 154) #[] #[.pointer (some ⟨b, 0, none⟩)]] w' fun e w2 => ((e = .returned (.bool true) ∧ ∃ k, k < L ∧ ¬ p ∣ v k) ∨ (e = .returned (.bool false) ∧ ∀ k, k < L → p ∣ v k)) ∧ Below w'.heap.size w' w2) := fun b m' L q v w' q1 q2 q3 q4 => iContU p b m' L q v w' q1 q2 (by rw [← hp]; exact nums_def ho _) q3 q4
  have HP := Lib.hid hp
  clear h hA hx hn ho hp hle
  go_enter Try.func119, Try.ntmps119
  go_upto_region 1 with fail
  have S0 : Hid ((w.alloc (.cells #[.int .i64 R, .int .i64 C, .slice a n m] 26)).heap.size = w.heap.size + 1) := by show _ = _; simp
  generalize w.alloc (.cells #[.int .i64 R, .int .i64 C, .slice a n m] 26) = W0 at K0 B0 S0 ⊢
  obtain ⟨p0, p1, p2, -, -, -⟩ := K0.out.all
  go_wp2_with fail
  refine (RW.out t _ htR).mono ?_
  rintro e w3 ⟨q', m', rfl, -, hq', -, hb3⟩
  have K3 := Lib.hid (K0.out.step hb3)
  have B3 := Lib.hid (B0.out.trans (hb3.mono B0.out.size))
  have SB := hb3.size
  have RT := RD.out t w3 q' htR B3.out hq'
  obtain ⟨g9, o9, rfl, hcell⟩ := RT t (by rw [rwL_length]; exact htC)
  rw [rwL_at htC, HP.out] at hcell
  have u0 : (t : Int) < (C : Int) := by omega
  have Pb : Hid ((w3.alloc (.cells #[.int .i64 p] 3)).cell? ⟨w3.heap.size, 0, none⟩ = some (.int .i64 p)) := by
    show _ = _
    have := cell_one_new w3 (.int .i64 p) 3 0 _ rfl
    exact this
  have K4 := Lib.hid (K3.out.old (.cells #[.int .i64 p] 3))
  have B4 := Lib.hid (B3.out.alloc (by have := S0.out; omega) (.cells #[.int .i64 p] 3))
  clear hb3 hq' p0 p1 p2 K0 B0 K3 B3 RT
  go_upto_region 2 with fail
  clear hcell u0
  obtain ⟨b5, hb5⟩ : ∃ b, w3.heap.size = b := ⟨_, rfl⟩
  rw [hb5] at Pb ⊢
  generalize w3.alloc (.cells #[.int .i64 p] 3) = W4 at Pb K4 B4 ⊢
  clear hb5 SB S0
  go_wp2_with fail
  go_loopw [6] (fun v6 wr => ∃ i : Nat, v6 = .int .i64 i ∧ t + 1 ≤ i ∧ i ≤ R ∧ (∀ k, t < k → k < i → ∀ j, j < C → p ∣ mxC C xs k j) ∧ Blk3 wr w.heap.size 26 (.int .i64 R) (.int .i64 C) (.slice a n m) ∧ wr.cell? ⟨b5, 0, none⟩ = some (.int .i64 p) ∧ Below w.heap.size w wr) (fun v6 _ => R - (intOf v6).toNat)
  case atStart => exact ⟨t + 1, by go_num, Nat.le_refl _, htR, fun k h1 h2 => by omega, K4.out, Pb.out, B4.out⟩
  case round =>
    clear K4 Pb B4
    obtain ⟨i, rfl, hi1, hi2, hd, hK, hP, hB⟩ := hrel
    have D := Lib.hid hd
    have K := Lib.hid hK
    have PB := Lib.hid hP
    have B := Lib.hid hB
    clear hd hK hP hB
    obtain ⟨p0, p1, p2, -, -, -⟩ := K.out.all
    by_cases hlt : i < R
    · go_wp2_with fail
      refine (RW.out i _ hlt).mono ?_
      rintro e w5 ⟨q', m', rfl, -, hq', -, hb3⟩
      have K5 := Lib.hid (K.out.step hb3)
      have B5 := Lib.hid (B.out.trans (hb3.mono B.out.size))
      have P5 := Lib.hid (one0F PB.out hb3)
      have RT := Lib.hid (RD.out i w5 q' hlt B5.out hq')
      clear hb3 hq' p0 p1 p2 K PB B
      go_wp2_with fail
      refine (CN.out b5 m' C q' _ _ RT.out P5.out (fun k _ => NU.out i k) (by omega)).mono ?_
      rintro e w6 ⟨⟨rfl, hx⟩ | ⟨rfl, hx⟩, hb6⟩
      · have HX := Lib.hid hx
        have B6 := Lib.hid (B5.out.trans (hb6.mono B5.out.size))
        clear hx hb6
        go_wp2_with fail
        go_ret
        exact ⟨.inl ⟨i, rfl, by omega, hlt, HX.out, D.out⟩, B6.out⟩
      · have HX := Lib.hid hx
        have B6 := Lib.hid (B5.out.trans (hb6.mono B5.out.size))
        have K6 := Lib.hid (K5.out.step hb6)
        have P6 := Lib.hid (one0F P5.out hb6)
        clear hx hb6 K5 B5 P5
        go_wp2_with fail
        go_roundw
        case rel => exact ⟨i + 1, by go_num, by omega, by omega, fun k h1 h2 => by
          rcases Nat.lt_or_ge k i with h3 | h3
          · exact D.out k h1 h3
          · obtain rfl : k = i := by omega
            exact HX.out, K6.out, P6.out, B6.out⟩
        case measure => simp [intOf]; omega
    · obtain rfl : R = i := by omega
      go_wp2_with fail
      go_ret
      exact ⟨.inr ⟨rfl, D.out⟩, B.out⟩
end Go.Proofs.Ytpelnfenfeoeeaa
end
