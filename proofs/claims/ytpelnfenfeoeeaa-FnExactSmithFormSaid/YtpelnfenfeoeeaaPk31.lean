/-
  Texts of this seat, joined: ZAUdI · ZASgMath · ZANumGD · ZALdI · ZAAlI · ZAAnI · ZATsP · ZAMatI3 · ZASfI
-/
import Derived.Deep.DeepCutAuto
import Derived.IntWalk
import Derived.Test.YtpelnfenfeoeeaaRows
import Derived.WalkKit
import Derived.BigQuiet
import Derived.Deep.QuietTactic
import Derived.Lib.Hide
import Derived.Deep.LoopGhost
import Derived.Test.YtpelnfenfeoeeaaPk24
import Derived.Test.YtpelnfenfeoeeaaPk25
import Derived.Test.YtpelnfenfeoeeaaPk26
import Derived.Test.YtpelnfenfeoeeaaPk27
import Derived.Test.YtpelnfenfeoeeaaPk28
import Derived.Test.YtpelnfenfeoeeaaPk30

section
/-
  Chapter 13, in the program: is a number a multiple; the first row with a cell that the pivot does not divide.
-/
namespace Go.Proofs.Ytpelnfenfeoeeaa
set_option maxRecDepth 100000
open Go.RowKit
theorem iMult (n d : Int) (w : World) (hn : NumP n) (hd : NumP d) : Calls Try.prog 65 #[.int .i64 n, .int .i64 d] w (Gives (.bool (decide (d ∣ n))) w) := by
  obtain ⟨n1, n2⟩ := hn
  obtain ⟨d1, d2⟩ := hd
  by_cases hd0 : d = 0
  · have e1 : (d == 0) = true := by simp [hd0]
    by_cases hn0 : n = 0
    · have V : Hid (decide (d ∣ n) = true) := decide_eq_true (by rw [hn0]; exact Int.dvd_zero d)
      have e2 : (n == 0) = true := by simp [hn0]
      rw [V.out]
      clear hd0 hn0
      go_enter Try.func65, Try.ntmps65
      go_wp2_with fail
      go_ret
      exact ⟨rfl, Below.refl _ _⟩
    · have V : Hid (decide (d ∣ n) = false) := decide_eq_false (by rw [hd0, Int.zero_dvd]; exact hn0)
      have e2 : (n == 0) = false := by simpa using hn0
      rw [V.out]
      clear hd0 hn0
      go_enter Try.func65, Try.ntmps65
      go_wp2_with fail
      go_ret
      exact ⟨rfl, Below.refl _ _⟩
  · have e1 : (d == 0) = false := by simpa using hd0
    have t1 := tmod_small n d hd0
    obtain ⟨tm, htm⟩ : ∃ tm, n.tmod d = tm := ⟨_, rfl⟩
    have TD : Hid (tm = 0 ↔ d ∣ n) := by refine Lib.hid ?_; rw [← htm, ← Int.dvd_iff_tmod_eq_zero]
    rw [htm] at t1
    have vm : IntKind.i64.wrap (n.tmod d) = tm := by rw [htm]; exact IntWalk.i64_in _ (by omega)
    by_cases h0 : tm = 0
    · have V : Hid (decide (d ∣ n) = true) := decide_eq_true (TD.out.1 h0)
      have e2 : (tm == 0) = true := by simp [h0]
      rw [V.out]
      clear hd0 h0
      go_enter Try.func65, Try.ntmps65
      go_wp2_with fail
      go_ret
      exact ⟨rfl, Below.refl _ _⟩
    · have V : Hid (decide (d ∣ n) = false) := decide_eq_false (fun h => h0 (TD.out.2 h))
      have e2 : (tm == 0) = false := by simpa using h0
      rw [V.out]
      clear hd0 h0
      go_enter Try.func65, Try.ntmps65
      go_wp2_with fail
      go_ret
      exact ⟨rfl, Below.refl _ _⟩
theorem one0F {W w' : World} {b : Nat} {p : Value} (h : W.cell? ⟨b, 0, none⟩ = some p) (hb : Below W.heap.size W w') : w'.cell? ⟨b, 0, none⟩ = some p := (hb.cell (World.block_lt_of_cell? W _ h)).trans h
theorem iUnd (x p : Int) (b : Nat) (w : World) (hb : w.cell? ⟨b, 0, none⟩ = some (.int .i64 p)) (hx : NumP x) (hp : NumP p) :
    Calls Try.prog 154 #[.int .i64 x, .pointer (some ⟨b, 0, none⟩)] w (Gives (.bool (!decide (p ∣ x))) w) := by
  have IM := Lib.hid (fun w' => iMult x p w' hx hp)
  generalize decide (p ∣ x) = d at IM ⊢
  go_enter Try.func154, Try.ntmps154
  go_wp2_with fail
  refine (IM.out _).mono ?_
  rintro e w1 ⟨rfl, hb1⟩
  go_wp2_with fail
  go_ret
  exact ⟨rfl, hb1⟩
set_option maxHeartbeats 1000000 in
theorem iIdxU (p : Int) (b m L : Nat) (q : Option Addr) (v : Nat → Int) (w : World) (h : Rd w q (rwL L v)) (hb : w.cell? ⟨b, 0, none⟩ = some (.int .i64 p)) (hp : NumP p) (hv : ∀ k, k < L → NumP (v k)) (hl : L ≤ 16777216) :
    Calls Try.prog 121 #[.slice q L m, .func (.func 154) #[] #[.pointer (some ⟨b, 0, none⟩)]] w fun e w' => ((∃ k : Nat, e = .returned (.int .i64 k) ∧ k < L ∧ ¬ p ∣ v k) ∨ (e = .returned (.int .i64 (-1)) ∧ ∀ k, k < L → p ∣ v k)) ∧ Below w.heap.size w w' := by
  have H := Lib.hid h
  have HV := Lib.hid hv
  have HB := Lib.hid hb
  clear h hv hb
  go_enter Try.func121, Try.ntmps121
  go_wp2_with fail
  go_loopw [5, 8] (fun _ v8 wr => ∃ k : Nat, v8 = .int .i64 k ∧ k ≤ L ∧ (∀ i, i < k → p ∣ v i) ∧ Below w.heap.size w wr) (fun _ v8 _ => L - (intOf v8).toNat)
  case atStart => exact ⟨0, rfl, by omega, fun i hi => by omega, Below.refl _ _⟩
  case round =>
    obtain ⟨k, rfl, hk, hi, hB⟩ := hrel
    have HI := Lib.hid hi
    have B := Lib.hid hB
    clear hi hB
    by_cases hlt : k < L
    · obtain ⟨g, o, rfl, hc⟩ := H.out.below B.out k (by rw [rwL_length]; exact hlt)
      rw [rwL_at hlt] at hc
      have hx := HV.out k hlt
      have hcall := iUnd (v k) p b wr (one0F HB.out B.out) hx hp
      obtain ⟨d, hd⟩ : ∃ d, decide (p ∣ v k) = d := ⟨_, rfl⟩
      rw [hd] at hcall
      have D := Lib.hid hd
      obtain ⟨x, hxx⟩ : ∃ x, v k = x := ⟨_, rfl⟩
      rw [hxx] at hc hcall
      have k0 : (k : Int) < (L : Int) := by omega
      clear hd hx hxx
      go_wp2_with fail
      refine hcall.mono ?_
      rintro e w' ⟨rfl, hb1⟩
      have B1 := Lib.hid (B.out.trans (hb1.mono B.out.size))
      clear hb1 hcall
      cases d with
      | false =>
        go_wp2_with fail
        go_ret
        exact ⟨.inl ⟨k, rfl, hlt, of_decide_eq_false D.out⟩, B1.out⟩
      | true =>
        go_wp2_with fail
        go_roundw
        case rel => exact ⟨k + 1, by go_num, by omega, fun i hi2 => by
          rcases Nat.lt_or_ge i k with h3 | h3
          · exact HI.out i h3
          · obtain rfl : i = k := by omega
            exact of_decide_eq_true D.out, B1.out⟩
        case measure => simp [intOf]; omega
    · obtain rfl : L = k := by omega
      go_wp2_with fail
      go_ret
      exact ⟨.inr ⟨rfl, HI.out⟩, B.out⟩
theorem iContU (p : Int) (b m L : Nat) (q : Option Addr) (v : Nat → Int) (w : World) (h : Rd w q (rwL L v)) (hb : w.cell? ⟨b, 0, none⟩ = some (.int .i64 p)) (hp : NumP p) (hv : ∀ k, k < L → NumP (v k)) (hl : L ≤ 16777216) :
    Calls Try.prog 153 #[.slice q L m, .func (.func 154) #[] #[.pointer (some ⟨b, 0, none⟩)]] w fun e w' => ((e = .returned (.bool true) ∧ ∃ k, k < L ∧ ¬ p ∣ v k) ∨ (e = .returned (.bool false) ∧ ∀ k, k < L → p ∣ v k)) ∧ Below w.heap.size w w' := by
  have hi := Lib.hid (iIdxU p b m L q v w h hb hp hv hl)
  clear h hb hv
  go_enter Try.func153, Try.ntmps153
  go_wp2_with fail
  refine hi.out.mono ?_
  rintro e w' ⟨⟨k, rfl, h1, h2⟩ | ⟨rfl, h1⟩, hb⟩
  · have H1 := Lib.hid h1
    have H2 := Lib.hid h2
    have HB := Lib.hid hb
    clear h1 h2 hb hi
    go_wp2_with fail
    go_ret
    exact ⟨.inl ⟨rfl, k, H1.out, H2.out⟩, HB.out⟩
  · have H1 := Lib.hid h1
    have HB := Lib.hid hb
    clear h1 hb hi
    go_wp2_with fail
    go_ret
    exact ⟨.inr ⟨rfl, H1.out⟩, HB.out⟩
def UdRes (R C t : Nat) (p : Int) (xs : List Int) (w : World) (e : Ending) (w' : World) : Prop :=
  ((∃ k : Nat, e = .returned (.int .i64 k) ∧ t < k ∧ k < R ∧ (∃ j, j < C ∧ ¬ p ∣ mxC C xs k j) ∧ ∀ i, t < i → i < k → ∀ j, j < C → p ∣ mxC C xs i j) ∨ (e = .returned (.int .i64 (-1)) ∧ ∀ i, t < i → i < R → ∀ j, j < C → p ∣ mxC C xs i j)) ∧ Below w.heap.size w w'
set_option maxHeartbeats 2000000 in
theorem iUndiv (R C : Nat) (a : Option Addr) (n m t : Nat) (xs : List Int) (p : Int) (w : World) (h : Rd w a xs) (hA : CelA a n m) (hx : xs.length = n) (hn : n = R * C) (hR : R ≤ 24) (hC : C ≤ 24) (htR : t < R) (htC : t < C) (ho : nums xs = true) (hp : mxC C xs t t = p) :
    Calls Try.prog 119 #[.agg #[.int .i64 R, .int .i64 C, .slice a n m], .int .i64 t] w (UdRes R C t p xs w) := by
  have hle : R * C ≤ 24 * 24 := Nat.mul_le_mul hR hC
  have K0 : Hid (Blk3 (w.alloc (.cells #[.int .i64 R, .int .i64 C, .slice a n m] 26)) w.heap.size 26 (.int .i64 R) (.int .i64 C) (.slice a n m)) := Blk3.at_ _ _ _ _ rfl
  have B0 : Hid (Below w.heap.size w (w.alloc (.cells #[.int .i64 R, .int .i64 C, .slice a n m] 26))) := (Below.refl _ _).alloc (Nat.le_refl _) _
  have RW : Hid (∀ i w', i < R → Calls Try.prog 83 #[.agg #[.int .i64 R, .int .i64 C, .slice a n m], .int .i64 i] w' (RowAt a (i * C) C w')) := fun i w' hi => iRowIn R C i (i * C) n m a w' hA.spot rfl (by rw [hn, ← Nat.succ_mul]; exact Nat.mul_le_mul_right _ hi) hA.le hA.nil (by omega) (by omega)
  have RD : Hid (∀ i w' q', i < R → Below w.heap.size w w' → (∀ g o : Nat, a = some ⟨g, o, none⟩ → 0 < C → q' = some ⟨g, o + i * C, none⟩) → Rd w' q' (rwL C (mxC C xs i))) := fun i w' q' hi hb hq => (h.below hb).row (by rw [hx, hn]) hi hq
  have NU : Hid (∀ i j, NumP (mxC C xs i j)) := fun i j => nums_def ho _
  have CN : Hid (∀ (b m' L : Nat) (q : Option Addr) (v : Nat → Int) w', Rd w' q (rwL L v) → w'.cell? ⟨b, 0, none⟩ = some (.int .i64 p) → (∀ k, k < L → NumP (v k)) → L ≤ 16777216 → Calls Try.prog 153 #[.slice q L m', .func (.func 154) #[] #[.pointer (some ⟨b, 0, none⟩)]] w' fun e w2 => ((e = .returned (.bool true) ∧ ∃ k, k < L ∧ ¬ p ∣ v k) ∨ (e = .returned (.bool false) ∧ ∀ k, k < L → p ∣ v k)) ∧ Below w'.heap.size w' w2) := fun b m' L q v w' q1 q2 q3 q4 => iContU p b m' L q v w' q1 q2 (by rw [← hp]; exact nums_def ho _) q3 q4
  have HP := Lib.hid hp
  clear h hA hx hn ho hp hle
  go_enter Try.func119, Try.ntmps119
  go_upto_region 1 with fail
  have S0 : Hid ((w.alloc (.cells #[.int .i64 R, .int .i64 C, .slice a n m] 26)).heap.size = w.heap.size + 1) := by show _ = _; simp
  generalize w.alloc (.cells #[.int .i64 R, .int .i64 C, .slice a n m] 26) = W0 at K0 B0 S0 ⊢
  obtain ⟨p0, p1, p2, -, -, -⟩ := K0.out.all
  go_wp2_with fail
  refine (RW.out t _ htR).mono ?_
  rintro e w3 ⟨q', m', rfl, -, hq', -, hb3⟩
  have K3 := Lib.hid (K0.out.step hb3)
  have B3 := Lib.hid (B0.out.trans (hb3.mono B0.out.size))
  have SB := hb3.size
  have RT := RD.out t w3 q' htR B3.out hq'
  obtain ⟨g9, o9, rfl, hcell⟩ := RT t (by rw [rwL_length]; exact htC)
  rw [rwL_at htC, HP.out] at hcell
  have u0 : (t : Int) < (C : Int) := by omega
  have Pb : Hid ((w3.alloc (.cells #[.int .i64 p] 3)).cell? ⟨w3.heap.size, 0, none⟩ = some (.int .i64 p)) := by
    show _ = _
    have := cell_one_new w3 (.int .i64 p) 3 0 _ rfl
    exact this
  have K4 := Lib.hid (K3.out.old (.cells #[.int .i64 p] 3))
  have B4 := Lib.hid (B3.out.alloc (by have := S0.out; omega) (.cells #[.int .i64 p] 3))
  clear hb3 hq' p0 p1 p2 K0 B0 K3 B3 RT
  go_upto_region 2 with fail
  clear hcell u0
  obtain ⟨b5, hb5⟩ : ∃ b, w3.heap.size = b := ⟨_, rfl⟩
  rw [hb5] at Pb ⊢
  generalize w3.alloc (.cells #[.int .i64 p] 3) = W4 at Pb K4 B4 ⊢
  clear hb5 SB S0
  go_wp2_with fail
  go_loopw [6] (fun v6 wr => ∃ i : Nat, v6 = .int .i64 i ∧ t + 1 ≤ i ∧ i ≤ R ∧ (∀ k, t < k → k < i → ∀ j, j < C → p ∣ mxC C xs k j) ∧ Blk3 wr w.heap.size 26 (.int .i64 R) (.int .i64 C) (.slice a n m) ∧ wr.cell? ⟨b5, 0, none⟩ = some (.int .i64 p) ∧ Below w.heap.size w wr) (fun v6 _ => R - (intOf v6).toNat)
  case atStart => exact ⟨t + 1, by go_num, Nat.le_refl _, htR, fun k h1 h2 => by omega, K4.out, Pb.out, B4.out⟩
  case round =>
    clear K4 Pb B4
    obtain ⟨i, rfl, hi1, hi2, hd, hK, hP, hB⟩ := hrel
    have D := Lib.hid hd
    have K := Lib.hid hK
    have PB := Lib.hid hP
    have B := Lib.hid hB
    clear hd hK hP hB
    obtain ⟨p0, p1, p2, -, -, -⟩ := K.out.all
    by_cases hlt : i < R
    · go_wp2_with fail
      refine (RW.out i _ hlt).mono ?_
      rintro e w5 ⟨q', m', rfl, -, hq', -, hb3⟩
      have K5 := Lib.hid (K.out.step hb3)
      have B5 := Lib.hid (B.out.trans (hb3.mono B.out.size))
      have P5 := Lib.hid (one0F PB.out hb3)
      have RT := Lib.hid (RD.out i w5 q' hlt B5.out hq')
      clear hb3 hq' p0 p1 p2 K PB B
      go_wp2_with fail
      refine (CN.out b5 m' C q' _ _ RT.out P5.out (fun k _ => NU.out i k) (by omega)).mono ?_
      rintro e w6 ⟨⟨rfl, hx⟩ | ⟨rfl, hx⟩, hb6⟩
      · have HX := Lib.hid hx
        have B6 := Lib.hid (B5.out.trans (hb6.mono B5.out.size))
        clear hx hb6
        go_wp2_with fail
        go_ret
        exact ⟨.inl ⟨i, rfl, by omega, hlt, HX.out, D.out⟩, B6.out⟩
      · have HX := Lib.hid hx
        have B6 := Lib.hid (B5.out.trans (hb6.mono B5.out.size))
        have K6 := Lib.hid (K5.out.step hb6)
        have P6 := Lib.hid (one0F P5.out hb6)
        clear hx hb6 K5 B5 P5
        go_wp2_with fail
        go_roundw
        case rel => exact ⟨i + 1, by go_num, by omega, by omega, fun k h1 h2 => by
          rcases Nat.lt_or_ge k i with h3 | h3
          · exact D.out k h1 h3
          · obtain rfl : k = i := by omega
            exact HX.out, K6.out, P6.out, B6.out⟩
        case measure => simp [intOf]; omega
    · obtain rfl : R = i := by omega
      go_wp2_with fail
      go_ret
      exact ⟨.inr ⟨rfl, D.out⟩, B.out⟩
end Go.Proofs.Ytpelnfenfeoeeaa
end

section
/-
  Plain mathematics of chapter 7: what a row is divided by in the program. Nothing of a program is used.
-/
namespace Go.Proofs.Ytpelnfenfeoeeaa
end Go.Proofs.Ytpelnfenfeoeeaa
end

section
/-
  Chapter 1, in the program: greatestDivisor.
-/
namespace Go.Proofs.Ytpelnfenfeoeeaa
open Go.RowKit
end Go.Proofs.Ytpelnfenfeoeeaa
end

section
/-
  Chapter 7, in the program: a row's first cell with something, and what the row is divided by.
-/
namespace Go.Proofs.Ytpelnfenfeoeeaa
set_option maxRecDepth 100000
open Go.RowKit
theorem iLead (c cap : Nat) (q : Option Addr) (v : Nat → Int) (w : World) (h : Rd w q (rwL c v)) (hc : c ≤ 24) :
    Calls Try.prog 82 #[.slice q c cap] w (fun e w' => e = .returned (.int .i64 (leadC c v : Int)) ∧ w' = w) := by
  have RX : Hid (∀ j, j < c → ∃ b o : Nat, q = some ⟨b, o, none⟩ ∧ w.cell? ⟨b, o + j, none⟩ = some (.int .i64 (v j))) := fun j hj => by
    have := h j (by rw [rwL_length]; exact hj)
    rw [rwL_at hj] at this
    exact this
  clear h
  go_enter Try.func82, Try.ntmps82
  go_wp2_with fail
  go_loopw [3, 4, 7] (fun _ _ v7 wr => ∃ j : Nat, v7 = .int .i64 j ∧ j ≤ c ∧ (∀ i, i < j → v i = 0) ∧ wr = w) (fun _ _ v7 _ => c - (intOf v7).toNat)
  case atStart => exact ⟨0, rfl, by omega, fun i hi => by omega, rfl⟩
  case round =>
    obtain ⟨j, rfl, hj, hz, rfl⟩ := hrel
    have Z := Lib.hid hz
    clear hz
    by_cases hlt : j < c
    · obtain ⟨b, o, rfl, hcell⟩ := RX.out j hlt
      obtain ⟨x, hx⟩ : ∃ x, v j = x := ⟨_, rfl⟩
      have X := Lib.hid hx
      rw [hx] at hcell
      clear hx
      by_cases h0 : x = 0
      · have n1 : (x != 0) = false := by simp [h0]
        have n2 : (x == 0) = true := by simp [h0]
        have Z1 : Hid (∀ i, i < j + 1 → v i = 0) := fun i hi => by
          rcases Nat.lt_or_ge i j with h1 | h1
          · exact Z.out i h1
          · obtain rfl : i = j := by omega
            rw [X.out, h0]
        clear h0
        go_wp2_with fail
        go_roundw
        case rel => exact ⟨j + 1, by go_num, by omega, Z1.out, trivial⟩
        case measure => simp [intOf]; omega
      · have n1 : (x != 0) = true := by simpa using h0
        have n2 : (x == 0) = false := by simpa using h0
        have L : Hid (leadC c v = j) := leadF_eq (Nat.zero_le _) (by omega) (fun i _ hi => Z.out i hi) (fun _ => by rw [X.out]; exact h0)
        clear h0
        go_wp2_with fail
        go_ret
        exact ⟨by rw [L.out]; rfl, rfl⟩
    · obtain rfl : c = j := by omega
      have L : Hid (leadC c v = c) := leadF_eq (Nat.zero_le _) (by omega) (fun i _ hi => Z.out i hi) (fun h => by omega)
      go_wp2_with fail
      go_ret
      exact ⟨by rw [L.out]; rfl, rfl⟩
end Go.Proofs.Ytpelnfenfeoeeaa
end

section
/-
  Chapter 7, in the program: whether a row alone has something in a column, of the rows from one on.
-/
namespace Go.Proofs.Ytpelnfenfeoeeaa
set_option maxRecDepth 100000
open Go.RowKit
set_option maxHeartbeats 1000000 in
theorem iAloneF (r c N t i l : Nat) (a : Option Addr) (m : Nat) (xs : List Int) (w : World) (h : Rd w a xs) (hx : xs.length = N) (hN : N = r * c) (hr : r ≤ 24) (hc : c ≤ 24) (hl : l < c) (ht : t ≤ r) (b : Bool) (hb : b = true ↔ ∀ k, t ≤ k → k < r → k ≠ i → mxC c xs k l = 0) :
    Calls Try.prog 152 #[.agg #[.int .i64 r, .int .i64 c, .slice a N m], .int .i64 t, .int .i64 i, .int .i64 l] w (Gives (.bool b) w) := by
  have hle : r * c ≤ 24 * 24 := Nat.mul_le_mul hr hc
  rw [← hN] at hle
  have IX : Hid (∀ k, k < r → ∃ P : Nat, k * c + l = P ∧ P < N ∧ IntKind.i64.wrap ((k : Int) * (c : Int)) = (k : Int) * (c : Int) ∧ IntKind.i64.wrap ((k : Int) * (c : Int) + (l : Int)) = (P : Int)) := fun k hk => by
    have h1 : k * c + l < r * c := idx_lt hk hl
    have c1 : (k : Int) * (c : Int) = ((k * c : Nat) : Int) := (Int.natCast_mul _ _).symm
    refine ⟨k * c + l, rfl, by omega, IntWalk.i64_in _ (by rw [c1]; omega), ?_⟩
    rw [show (k : Int) * (c : Int) + (l : Int) = ((k * c + l : Nat) : Int) by rw [c1]; omega]
    exact IntWalk.i64_in _ (by omega)
  have BW : Hid (Below w.heap.size w (w.alloc (.cells #[.int .i64 r, .int .i64 c, .slice a N m] 26))) := (Below.refl _ _).alloc (Nat.le_refl _) _
  have K0 : Hid (Blk3 (w.alloc (.cells #[.int .i64 r, .int .i64 c, .slice a N m] 26)) w.heap.size 26 (.int .i64 r) (.int .i64 c) (.slice a N m)) := Blk3.at_ _ _ _ _ rfl
  have CX : Hid (∀ k P, k < r → k * c + l = P → ∃ b o : Nat, a = some ⟨b, o, none⟩ ∧ (w.alloc (.cells #[.int .i64 r, .int .i64 c, .slice a N m] 26)).cell? ⟨b, o + P, none⟩ = some (.int .i64 (mxC c xs k l))) := fun k P hk hP => by
    subst hP
    exact h.below BW.out _ (by rw [hx, hN]; exact idx_lt hk hl)
  have HB := Lib.hid hb
  clear hN hx h hb
  go_enter Try.func152, Try.ntmps152
  go_wp2_with fail
  generalize w.alloc (.cells #[.int .i64 r, .int .i64 c, .slice a N m] 26) = W at BW K0 CX
  obtain ⟨p0, p1, p2, -, -, -⟩ := K0.out.all
  go_wp2_with fail
  go_loopw [8, 9] (fun _ v9 wq => ∃ k : Nat, v9 = .int .i64 k ∧ t ≤ k ∧ k ≤ r ∧ (∀ p, t ≤ p → p < k → p ≠ i → mxC c xs p l = 0) ∧ wq = W) (fun _ v9 _ => r - (intOf v9).toNat)
  case atStart => exact ⟨t, rfl, Nat.le_refl _, ht, fun p h1 h2 => by omega, rfl⟩
  case round =>
    obtain ⟨k, rfl, htk, hk, hz, rfl⟩ := hrel
    have Z := Lib.hid hz
    clear hz
    by_cases hkr : k < r
    · by_cases hki : k = i
      · have n1 : ((k : Int) != (i : Int)) = false := by simp [hki]
        have Z1 : Hid (∀ p, t ≤ p → p < k + 1 → p ≠ i → mxC c xs p l = 0) := fun p h0 h1 h2 => Z.out p h0 (by omega) h2
        clear hki
        go_wp2_with fail
        go_roundw
        case rel => exact ⟨k + 1, by go_num, by omega, by omega, Z1.out, trivial⟩
        case measure => simp [intOf]; omega
      · have n1 : ((k : Int) != (i : Int)) = true := by simp; omega
        obtain ⟨P, hP, hPN, u1, u2⟩ := IX.out k hkr
        have Pa : (0 : Int) ≤ (P : Int) := by omega
        have Pb : (P : Int) < (N : Int) := by omega
        obtain ⟨g, o, rfl, hcell⟩ := CX.out k P hkr hP
        obtain ⟨x, hxx⟩ : ∃ x, mxC c xs k l = x := ⟨_, rfl⟩
        have X := Lib.hid hxx
        rw [hxx] at hcell
        clear hxx hP
        by_cases h0 : x = 0
        · have n2 : (x != 0) = false := by simp [h0]
          have n3 : (x == 0) = true := by simp [h0]
          have Z1 : Hid (∀ p, t ≤ p → p < k + 1 → p ≠ i → mxC c xs p l = 0) := fun p h4 h1 h2 => by
            rcases Nat.lt_or_ge p k with h3 | h3
            · exact Z.out p h4 h3 h2
            · obtain rfl : p = k := by omega
              rw [X.out, h0]
          clear h0 hki
          go_wp2_with fail
          go_roundw
          case rel => exact ⟨k + 1, by go_num, by omega, by omega, Z1.out, trivial⟩
          case measure => simp [intOf]; omega
        · have n2 : (x != 0) = true := by simpa using h0
          have n3 : (x == 0) = false := by simpa using h0
          have FB : Hid (b = false) := by
            show b = false
            cases b with
            | false => rfl
            | true => exact absurd (HB.out.mp rfl k htk hkr hki) (by rw [X.out]; exact h0)
          clear h0 hki
          go_wp2_with fail
          go_ret
          exact ⟨by rw [FB.out]; rfl, BW.out⟩
    · obtain rfl : r = k := by omega
      clear hkr
      have TB : Hid (b = true) := HB.out.mpr fun p h0 h1 h2 => Z.out p h0 h1 h2
      go_wp2_with fail
      go_ret
      exact ⟨by rw [TB.out]; rfl, BW.out⟩
end Go.Proofs.Ytpelnfenfeoeeaa
end

section
/-
  Chapter 13, in the program: is the pivot alone in its row and its column.
-/
namespace Go.Proofs.Ytpelnfenfeoeeaa
set_option maxRecDepth 100000
open Go.RowKit
theorem al_col {R C t : Nat} {s : SSt} : clI t (fun i => cel3S C s i t) R ↔ ∀ k, t ≤ k → k < R → k ≠ t → mxC C s.1 k t = 0 :=
  ⟨fun h k h1 h2 h3 => h k (by omega) h2, fun h i h1 h2 => h i (by omega) h2 (by omega)⟩
theorem al_row {C t : Nat} {s : SSt} (ht : t < C) : clI t (fun j => cel3S C s t j) C ↔ ∀ j, j < C - (t + 1) → mxC C s.1 t (t + 1 + j) = 0 :=
  ⟨fun h j hj => h (t + 1 + j) (by omega) (by omega), fun h i h1 h2 => by
    have := h (i - (t + 1)) (by omega)
    rw [show t + 1 + (i - (t + 1)) = i by omega] at this
    exact this⟩
theorem lead_all {c : Nat} {v : Nat → Int} : leadC c v = c ↔ ∀ j, j < c → v j = 0 := by
  obtain ⟨h1, h2, h3⟩ := leadC_says c v
  constructor
  · intro h j hj
    exact h2 j (by omega)
  · intro h
    refine Classical.byContradiction fun hn => ?_
    exact h3 (by omega) (h _ (by omega))
set_option maxHeartbeats 2000000 in
theorem iAlone2 (R C px B t : Nat) (s : SSt) (w : World) (h : TsW R C px B s w) (hR : R ≤ 24) (hC : C ≤ 24) (htR : t < R) (htC : t < C) :
    Calls Try.prog 118 #[.pointer (some ⟨px, 0, none⟩), .int .i64 t] w (Gives (.bool (clB R C t s)) w) := by
  have hS := h.siz
  obtain ⟨qa, qu, qv, ma, mu, mv, q⟩ := h
  obtain ⟨g, o, hqa, -⟩ := q.fA.rdS (t * C + t) (by rw [hS.l1]; exact idx_lt htR htC)
  subst hqa
  have hle : R * C ≤ 600 := Nat.le_trans (Nat.mul_le_mul hR hC) (by decide)
  have RW : Hid (∀ w', Calls Try.prog 83 #[.agg #[.int .i64 R, .int .i64 C, .slice (some ⟨g, o, none⟩) (R * C) ma], .int .i64 t] w' (fun e w2 => ∃ m', e = .returned (.slice (some ⟨g, o + t * C, none⟩) C m') ∧ C ≤ m' ∧ Below w'.heap.size w' w2)) := fun w' => (iRowIn R C t (t * C) (R * C) ma _ w' q.fA.celA.spot rfl (by rw [← Nat.succ_mul]; exact Nat.mul_le_mul_right _ htR) q.fA.celA.le q.fA.celA.nil (by omega) (by omega)).mono fun e w2 ⟨q', m', h1, h0, h2, _, h3⟩ => ⟨m', by rw [h1, h2 g o rfl (by omega)], h0, h3⟩
  have AL : Hid (∀ (b : Bool) w', Below w.heap.size w w' → (b = true ↔ clI t (fun i => cel3S C s i t) R) → Calls Try.prog 152 #[.agg #[.int .i64 R, .int .i64 C, .slice (some ⟨g, o, none⟩) (R * C) ma], .int .i64 t, .int .i64 t, .int .i64 t] w' (Gives (.bool b) w')) := fun b w' hb h9 => iAloneF R C (R * C) t t t _ ma s.1 w' (q.fA.rdS.below hb) hS.l1 rfl hR hC htC (by omega) b (h9.trans al_col)
  have LD : Hid (∀ (D L : Nat) (q' : Option Addr) (m' : Nat) w', D = t + 1 → L = C - D → Below w.heap.size w w' → (q' = some ⟨g, o + t * C + D, none⟩ ∨ C = D) → Calls Try.prog 82 #[.slice q' L m'] w' (fun e w2 => e = .returned (.int .i64 (leadC (C - (t + 1)) (fun j => mxC C s.1 t (t + 1 + j)) : Int)) ∧ w2 = w')) := fun D L q' m' w' hD hL hb hq => by
    subst hD hL
    refine iLead (C - (t + 1)) m' _ _ w' (fun j hj => ?_) (by omega)
    rw [rwL_length] at hj
    rcases hq with rfl | hq
    · obtain ⟨g2, o2, e, hc⟩ := q.fA.rdS.below hb (t * C + (t + 1 + j)) (by rw [hS.l1]; exact idx_lt htR (by omega))
      injection e with e
      injection e with e1 e2
      subst e1 e2
      refine ⟨_, _, rfl, ?_⟩
      rw [rwL_at hj, show o + t * C + (t + 1) + j = o + (t * C + (t + 1 + j)) by omega]
      exact hc
    · omega
  have LE : Hid (leadC (C - (t + 1)) (fun j => mxC C s.1 t (t + 1 + j)) = C - (t + 1) ↔ clI t (fun j => cel3S C s t j) C) := by
    refine Lib.hid ?_
    rw [al_row htC]
    exact lead_all
  have CB : Hid (clB R C t s = true ↔ (clI t (fun i => cel3S C s i t) R ∧ clI t (fun j => cel3S C s t j) C)) := clB_iff
  obtain ⟨c0, c1, c2, -⟩ := q.k.all
  have K := Lib.hid q.k
  obtain ⟨ld, hld⟩ : ∃ ld, leadC (C - (t + 1)) (fun j => mxC C s.1 t (t + 1 + j)) = ld := ⟨_, rfl⟩
  rw [hld] at LD LE
  obtain ⟨cb, hcb⟩ : ∃ cb, clB R C t s = cb := ⟨_, rfl⟩
  rw [hcb] at CB ⊢
  obtain ⟨D, hD⟩ : ∃ D, t + 1 = D := ⟨_, rfl⟩
  have v0 : IntKind.i64.wrap ((t : Int) + 1) = (D : Int) := by rw [← hD]; exact IntWalk.i64_in _ (by omega)
  have DC : D ≤ C := by omega
  rw [hD] at LE
  have ED := Lib.hid hD.symm
  clear q hS hle hld hcb hD
  go_enter Try.func118, Try.ntmps118
  go_wp2_with fail
  refine (RW.out _).mono ?_
  rintro e w2 ⟨m', rfl, hm', hb⟩
  have B2 := Lib.hid hb
  obtain ⟨c0', c1', c2', -⟩ := (K.out.step hb).all
  clear hb c0 c1 c2
  have K2 := Lib.hid (K.out.step B2.out)
  obtain ⟨c0, c1, c2, -⟩ := K2.out.all
  clear c0' c1' c2'
  rcases Nat.lt_or_ge D m' with hlt | hge
  · go_upto_region 2 with fail
    by_cases hcl : clI t (fun i => cel3S C s i t) R
    · have A1 := Lib.hid (AL.out true w2 B2.out ⟨fun _ => hcl, fun _ => rfl⟩)
      have L1 := Lib.hid (fun m9 w' hb => LD.out D (C - D) (some ⟨g, o + t * C + D, none⟩) m9 w' ED.out rfl hb (.inl rfl))
      go_wp2_with fail
      refine A1.out.mono ?_
      rintro e w3 ⟨rfl, hb⟩
      have B3 := Lib.hid (B2.out.trans (hb.mono B2.out.size))
      clear hb A1 B2 K2 c0 c1 c2
      go_wp2_with fail
      refine (L1.out _ _ B3.out).mono ?_
      rintro e w4 ⟨rfl, hw4⟩
      rw [hw4]
      clear hw4 L1
      by_cases hl : ld = C - D
      · have V : Hid (cb = true) := CB.out.2 ⟨hcl, LE.out.1 hl⟩
        have n1 : ((ld : Int) == ((C - D : Nat) : Int)) = true := by simp; omega
        clear hl
        go_wp2_with fail
        go_ret
        exact ⟨by rw [V.out]; rfl, B3.out⟩
      · have V : Hid (cb = false) := by
          refine Lib.hid ?_
          cases hq : cb with
          | false => rfl
          | true => exact absurd (LE.out.2 (CB.out.1 hq).2) hl
        have n1 : ((ld : Int) == ((C - D : Nat) : Int)) = false := by simp; omega
        clear hl
        go_wp2_with fail
        go_ret
        exact ⟨by rw [V.out]; rfl, B3.out⟩
    · have A1 := Lib.hid (AL.out false w2 B2.out ⟨fun h => (by cases h), fun h => absurd h hcl⟩)
      have V : Hid (cb = false) := by
        refine Lib.hid ?_
        cases hq : cb with
        | false => rfl
        | true => exact absurd (CB.out.1 hq).1 hcl
      go_wp2_with fail
      refine A1.out.mono ?_
      rintro e w3 ⟨rfl, hb⟩
      have B3 := Lib.hid (B2.out.trans (hb.mono B2.out.size))
      clear hb A1 B2 c0 c1 c2
      go_wp2_with fail
      go_ret
      exact ⟨by rw [V.out]; rfl, B3.out⟩
  · obtain rfl : m' = C := by omega
    have hCD : m' = D := by omega
    subst hCD
    go_upto_region 2 with fail
    by_cases hcl : clI t (fun i => cel3S m' s i t) R
    · have A1 := Lib.hid (AL.out true w2 B2.out ⟨fun _ => hcl, fun _ => rfl⟩)
      have L1 := Lib.hid (fun m9 w' hb => LD.out m' 0 (some ⟨g, o + t * m', none⟩) m9 w' ED.out (by omega) hb (.inr rfl))
      go_wp2_with fail
      refine A1.out.mono ?_
      rintro e w3 ⟨rfl, hb⟩
      have B3 := Lib.hid (B2.out.trans (hb.mono B2.out.size))
      clear hb A1 B2 K2 c0 c1 c2
      go_wp2_with fail
      refine (L1.out _ _ B3.out).mono ?_
      rintro e w4 ⟨rfl, hw4⟩
      rw [hw4]
      clear hw4 L1
      by_cases hl : ld = m' - m'
      · have V : Hid (cb = true) := CB.out.2 ⟨hcl, LE.out.1 hl⟩
        have n1 : ((ld : Int) == (0 : Int)) = true := by simp; omega
        clear hl
        go_wp2_with fail
        go_ret
        exact ⟨by rw [V.out]; rfl, B3.out⟩
      · have V : Hid (cb = false) := by
          refine Lib.hid ?_
          cases hq : cb with
          | false => rfl
          | true => exact absurd (LE.out.2 (CB.out.1 hq).2) hl
        have n1 : ((ld : Int) == (0 : Int)) = false := by simp; omega
        clear hl
        go_wp2_with fail
        go_ret
        exact ⟨by rw [V.out]; rfl, B3.out⟩
    · have A1 := Lib.hid (AL.out false w2 B2.out ⟨fun h => (by cases h), fun h => absurd h hcl⟩)
      have V : Hid (cb = false) := by
        refine Lib.hid ?_
        cases hq : cb with
        | false => rfl
        | true => exact absurd (CB.out.1 hq).1 hcl
      go_wp2_with fail
      refine A1.out.mono ?_
      rintro e w3 ⟨rfl, hb⟩
      have B3 := Lib.hid (B2.out.trans (hb.mono B2.out.size))
      clear hb A1 B2 c0 c1 c2
      go_wp2_with fail
      go_ret
      exact ⟨by rw [V.out]; rfl, B3.out⟩
end Go.Proofs.Ytpelnfenfeoeeaa
end

section
/-
  Chapter 13, in the program: rounds until the pivot is alone and divides all that comes after it.
-/
namespace Go.Proofs.Ytpelnfenfeoeeaa
set_option maxRecDepth 100000
open Go.RowKit
def PvtRes (R C px B t : Nat) (LF : Option (SSt × Bool)) (w : World) (e : Ending) (w' : World) : Prop :=
  FrS (fun b => b = px) w w' ∧ ((LF = none ∧ e = .returned (.bool false)) ∨ ∃ u, LF = some (u, true) ∧ e = .returned (.bool true) ∧ TsW R C px B (ng3 R C t u) w')
theorem ud_nd {R C t : Nat} {s : SSt} (hI : SmI R C (mxC C s.1) t) (hcl : clB R C t s = true) {p : Int} : ∀ i, t < i → i < R → ((∀ j, j < C → p ∣ mxC C s.1 i j) ↔ ∀ j, t < j → j < C → cel3S C s i j % p = 0) := fun i h1 h2 => by
  obtain ⟨q1, -⟩ := clB_true hcl
  constructor
  · intro h j _ h4
    exact Int.emod_eq_zero_of_dvd (h j h4)
  · intro h j hj
    rcases Nat.lt_trichotomy j t with h3 | h3 | h3
    · have := hI.col i j h3 h2 (by omega)
      rw [this]; exact Int.dvd_zero p
    · have := q1 i h1 h2
      rw [h3]
      rw [show mxC C s.1 i t = 0 from this]; exact Int.dvd_zero p
    · exact Int.dvd_of_emod_eq_zero (h j h3 hj)
theorem ud_none {R C t : Nat} {s : SSt} (hI : SmI R C (mxC C s.1) t) (hcl : clB R C t s = true) {p : Int} (hp : cel3S C s t t = p) (h : ∀ i, t < i → i < R → ∀ j, j < C → p ∣ mxC C s.1 i j) : ndF R C t s = none :=
  ndF_all fun i h1 h2 b h3 h4 => by rw [hp]; exact (ud_nd hI hcl i h1 h2).1 (h i h1 h2) b h3 h4
theorem ud_some {R C t k : Nat} {s : SSt} (hI : SmI R C (mxC C s.1) t) (hcl : clB R C t s = true) {p : Int} (hp : cel3S C s t t = p) (h1 : t < k) (h2 : k < R) (h3 : ∃ j, j < C ∧ ¬ p ∣ mxC C s.1 k j) (h4 : ∀ i, t < i → i < k → ∀ j, j < C → p ∣ mxC C s.1 i j) : ndF R C t s = some k := by
  have hn : ∃ j, t < j ∧ j < C ∧ cel3S C s k j % p ≠ 0 := Classical.byContradiction fun hn => by
    obtain ⟨j, hj, hd⟩ := h3
    refine hd ((ud_nd hI hcl k h1 h2).2 (fun b b1 b2 => ?_) j hj)
    exact Classical.byContradiction fun h9 => hn ⟨b, b1, b2, h9⟩
  obtain ⟨j, a1, a2, a3⟩ := hn
  exact ndF_found h1 h2 a1 a2 (by rw [hp]; exact a3) fun i b1 b2 b b3 b4 => by rw [hp]; exact (ud_nd hI hcl i b1 (by omega)).1 (h4 i b1 b2) b b3 b4
set_option maxHeartbeats 8000000 in
theorem iMakePivot (R C px B t f0 : Nat) (M : Mx) (s : SSt) (LF : Option (SSt × Bool)) (w : World) (h : TsW R C px B s w) (hR : R ≤ 24) (hC : C ≤ 24) (htR : t < R) (htC : t < C) (hF : Fin3 R C M s) (hI : SmI R C (mxC C s.1) t) (hpl : plS R C t s ≠ none) (hfu : FuelS R C t f0 s) (hLF : loopS R C t f0 s = LF) :
    Calls Try.prog 62 #[.pointer (some ⟨px, 0, none⟩), .int .i64 t] w (PvtRes R C px B t LF w) := by
  have hle := le600 hR hC
  have PL : Hid (∀ s1, plS R C t s1 ≠ none → ∃ i j, PlaceP R C t s1 i j) := fun s1 h9 => by
    rcases plS_says R C t s1 htR htC with ⟨h1, -⟩ | h1
    · exact absurd h1 h9
    · exact h1
  have RND : Hid (∀ s1 w' i j, TsW R C px B s1 w' → Fin3 R C M s1 → SmI R C (mxC C s1.1) t → PlaceP R C t s1 i j → Calls Try.prog 117 #[.pointer (some ⟨px, 0, none⟩), .int .i64 t] w' (TsRes R C px B (rdF R C t (sw3 R C t i j s1)) w')) := fun s1 w' i j q1 q2 q3 q4 => by
    obtain ⟨-, -, hz⟩ := sw3_says q2 q3 htR htC q4.i0 q4.i1 q4.j0 q4.j1 (ok3_sw q2.ok)
    exact iRound R C px B t i j s1 w' q1 hR hC q2.ok htR htC q4.i1 q4.j1 q4.eq (by rw [hz]; exact q4.nz)
  have ALN : Hid (∀ s1 w', TsW R C px B s1 w' → Calls Try.prog 118 #[.pointer (some ⟨px, 0, none⟩), .int .i64 t] w' (Gives (.bool (clB R C t s1)) w')) := fun s1 w' q1 => iAlone2 R C px B t s1 w' q1 hR hC htR htC
  have UDV : Hid (∀ (s1 : SSt) (qa : Option Addr) (ma : Nat) w', Own B w' (.slice qa (R * C) ma) s1.1 → Siz3 R C s1 → ok3 s1 = true → Calls Try.prog 119 #[.agg #[.int .i64 R, .int .i64 C, .slice qa (R * C) ma], .int .i64 t] w' (UdRes R C t (cel3S C s1 t t) s1.1 w')) := fun s1 qa ma w' q1 q2 q3 => iUndiv R C qa (R * C) ma t s1.1 _ w' q1.rdS q1.celA q2.l1 rfl hR hC htR htC (ok3_and q3).1 rfl
  have ADD : Hid (∀ s1 w' k, TsW R C px B s1 w' → ok3 s1 = true → t < k → k < R → Calls Try.prog 120 #[.pointer (some ⟨px, 0, none⟩), .agg #[.int .i64 2, .int .i64 t, .int .i64 k, .int .i64 1]] w' (TsRes R C px B (row3 R C 2 t k 1 s1) w')) := fun s1 w' k q1 q2 q3 q4 => iDoRow R C px B t k 2 1 s1 w' q1 hR hC q2 (isOp_add hR htR q4 (by omega) (by decide))
  have NEG : Hid (∀ s1 w', TsW R C px B s1 w' → ok3 s1 = true → Calls Try.prog 120 #[.pointer (some ⟨px, 0, none⟩), .agg #[.int .i64 1, .int .i64 t, .int .i64 t, .int .i64 0]] w' (TsRes R C px B (row3 R C 1 t t 0 s1) w')) := fun s1 w' q1 q2 => iDoRow R C px B t t 1 0 s1 w' q1 hR hC q2 (isOp_neg hR htR)
  have RI : Hid (∀ (g o ma : Nat) (zs : List Int) w', Own B w' (.slice (some ⟨g, o, none⟩) (R * C) ma) zs → Calls Try.prog 83 #[.agg #[.int .i64 R, .int .i64 C, .slice (some ⟨g, o, none⟩) (R * C) ma], .int .i64 t] w' (fun e w2 => ∃ m', e = .returned (.slice (some ⟨g, o + t * C, none⟩) C m') ∧ Below w'.heap.size w' w2)) := fun g o ma zs w' hw => (iRowIn R C t (t * C) (R * C) ma _ w' hw.celA.spot rfl (by rw [← Nat.succ_mul]; exact Nat.mul_le_mul_right _ htR) hw.celA.le hw.celA.nil (by omega) (by omega)).mono fun e w2 ⟨q', m', h1, _, h2, _, h3⟩ => ⟨m', by rw [h1, h2 g o rfl (by omega)], h3⟩
  have HA : Hid (∀ (s1 : SSt) (qa : Option Addr) w', Siz3 R C s1 → Rd w' qa s1.1 → ∃ g o : Nat, qa = some ⟨g, o, none⟩ ∧ w'.cell? ⟨g, o + t * C + t, none⟩ = some (.int .i64 (cel3S C s1 t t))) := fun s1 qa w' hs hw => by
    obtain ⟨g, o, e, hc⟩ := hw (t * C + t) (by rw [hs.l1]; exact idx_lt htR htC)
    exact ⟨g, o, e, by rw [Nat.add_assoc]; exact hc⟩
  have NXT : Hid (∀ (f : Nat) (s1 : SSt) (i j : Nat), Fin3 R C M s1 → SmI R C (mxC C s1.1) t → PlaceP R C t s1 i j → FuelS R C t (f + 1) s1 → loopS R C t (f + 1) s1 = LF → ok3 (rdF R C t (sw3 R C t i j s1)) = true → Fin3 R C M (rdF R C t (sw3 R C t i j s1)) ∧ SmI R C (mxC C (rdF R C t (sw3 R C t i j s1)).1) t ∧ cel3S C (rdF R C t (sw3 R C t i j s1)) t t ≠ 0 ∧ (clB R C t (rdF R C t (sw3 R C t i j s1)) = false → FuelS R C t f (rdF R C t (sw3 R C t i j s1)) ∧ loopS R C t f (rdF R C t (sw3 R C t i j s1)) = LF) ∧ (clB R C t (rdF R C t (sw3 R C t i j s1)) = true → (ndF R C t (rdF R C t (sw3 R C t i j s1)) = none → LF = some (rdF R C t (sw3 R C t i j s1), true)) ∧ ∀ k, ndF R C t (rdF R C t (sw3 R C t i j s1)) = some k → (ok3 (row3 R C 2 t k 1 (rdF R C t (sw3 R C t i j s1))) = false → LF = none) ∧ (ok3 (row3 R C 2 t k 1 (rdF R C t (sw3 R C t i j s1))) = true → Fin3 R C M (row3 R C 2 t k 1 (rdF R C t (sw3 R C t i j s1))) ∧ SmI R C (mxC C (row3 R C 2 t k 1 (rdF R C t (sw3 R C t i j s1))).1) t ∧ FuelS R C t f (row3 R C 2 t k 1 (rdF R C t (sw3 R C t i j s1))) ∧ loopS R C t f (row3 R C 2 t k 1 (rdF R C t (sw3 R C t i j s1))) = LF ∧ plS R C t (row3 R C 2 t k 1 (rdF R C t (sw3 R C t i j s1))) ≠ none))) := fun f s1 i j q1 q2 q3 q4 q5 q6 => by
    obtain ⟨g1, g2, g3, -, -⟩ := round_says q1 q2 htR htC q3 q6
    refine ⟨g1, g2, by rw [g3]; exact q3.nz, fun hcl => ⟨fuel_left q1 q2 htR htC q3 q4 q6 hcl, ?_⟩, fun hcl => ⟨fun hn => ?_, fun k hn => ?_⟩⟩
    · rw [← q5]; exact (loopS_left q3.eq q6 hcl).symm
    · rw [← q5]; exact loopS_done q3.eq q6 hcl hn
    · have e := loopS_add (f := f) q3.eq q6 hcl hn
      obtain ⟨k0, k1, -⟩ := ndF_some hn
      refine ⟨fun h => ?_, fun h => ?_⟩
      · rw [← q5, e, if_neg (by rw [h]; decide)]
      · obtain ⟨a1, a2⟩ := g1.row (.inr (.inr rfl)) htR k1 (fun _ => by omega) (by decide) h
        refine ⟨a1, (g2.op (Nat.le_refl _) htR (by omega) k1).congr fun a b ha hb => a2 a b ha hb, fuel_add q1 q2 htR htC q3 q4 q6 hcl hn h, ?_, fun hnone => ?_⟩
        · rw [← q5, e, if_pos h]
        · rcases plS_says R C t (row3 R C 2 t k 1 (rdF R C t (sw3 R C t i j s1))) htR htC with ⟨-, b2⟩ | ⟨i', j', b2⟩
          · have b3 := b2 t t (Nat.le_refl _) htR (Nat.le_refl _) htC
            rw [a2 t t htR htC] at b3
            unfold opX at b3
            rw [if_neg (by decide), if_neg (by decide), if_pos rfl] at b3
            have b4 := (clB_true hcl).1 k k0 k1
            have b5 : mxC C (rdF R C t (sw3 R C t i j s1)).1 k t = 0 := b4
            rw [b5, Int.zero_mul, Int.add_zero] at b3
            exact absurd b3 (by show cel3S C _ t t ≠ 0; rw [g3]; exact q3.nz)
          · rw [b2.eq] at hnone; cases hnone
  have BADL : Hid (∀ (f : Nat) (s1 : SSt) (i j : Nat), PlaceP R C t s1 i j → loopS R C t (f + 1) s1 = LF → ok3 (rdF R C t (sw3 R C t i j s1)) = false → LF = none) := fun f s1 i j q1 q2 q3 => by rw [← q2]; exact loopS_bad q1.eq q3
  have PLN : Hid (∀ s1, cel3S C s1 t t ≠ 0 → plS R C t s1 ≠ none) := fun s1 h9 hn => by
    rcases plS_says R C t s1 htR htC with ⟨-, b2⟩ | ⟨i', j', b2⟩
    · exact h9 (b2 t t (Nat.le_refl _) htR (Nat.le_refl _) htC)
    · rw [b2.eq] at hn; cases hn
  have UN : Hid (∀ s1 : SSt, SmI R C (mxC C s1.1) t → clB R C t s1 = true → (∀ i, t < i → i < R → ∀ j, j < C → cel3S C s1 t t ∣ mxC C s1.1 i j) → ndF R C t s1 = none) := fun s1 q1 q2 q3 => ud_none q1 q2 rfl q3
  have US : Hid (∀ (s1 : SSt) (k : Nat), SmI R C (mxC C s1.1) t → clB R C t s1 = true → t < k → k < R → (∃ j, j < C ∧ ¬ cel3S C s1 t t ∣ mxC C s1.1 k j) → (∀ i, t < i → i < k → ∀ j, j < C → cel3S C s1 t t ∣ mxC C s1.1 i j) → ndF R C t s1 = some k) := fun s1 k q1 q2 q3 q4 q5 q6 => ud_some q1 q2 rfl q3 q4 q5 q6
  have W0 := Lib.hid h
  have F0 := Lib.hid hF
  have I0 := Lib.hid hI
  have P0 := Lib.hid hpl
  have U0 := Lib.hid hfu
  have E0 := Lib.hid hLF
  clear h hF hI hpl hfu hLF hR hC hle
  go_enter Try.func62, Try.ntmps62
  go_wp2_with fail
  go_loopg [5] f0 (fun gk _ wq => ∃ s1 : SSt, TsW R C px B s1 wq ∧ FrS (fun b => b = px) w wq ∧ Fin3 R C M s1 ∧ SmI R C (mxC C s1.1) t ∧ plS R C t s1 ≠ none ∧ FuelS R C t gk s1 ∧ loopS R C t gk s1 = LF)
  case atStart => exact ⟨s, W0.out, FrS.refl _ _, F0.out, I0.out, P0.out, U0.out, E0.out⟩
  case round =>
    clear W0 F0 I0 P0 U0 E0
    obtain ⟨s1, hW, hfr, hF, hI, hpl, hfu, hlf⟩ := hrel
    obtain ⟨f, rfl⟩ : ∃ f, gk = f + 1 := ⟨gk - 1, by have := hfu.1; omega⟩
    obtain ⟨i, j, hP⟩ := PL.out s1 hpl
    have RN := Lib.hid (RND.out s1 wr i j hW hF hI hP)
    have BD := Lib.hid (BADL.out f s1 i j hP hlf)
    have NX := Lib.hid (NXT.out f s1 i j hF hI hP hfu hlf)
    have FR := Lib.hid hfr
    clear hW hfr hF hI hpl hfu hlf hP RND BADL NXT PL
    generalize rdF R C t (sw3 R C t i j s1) = s2 at RN BD NX
    go_wp2_with fail
    refine RN.out.mono ?_
    rintro e w1 ⟨rfl, hf, hw⟩
    have F1 := Lib.hid (FR.out.trans hf)
    have HW := Lib.hid hw
    obtain ⟨ok, hok⟩ : ∃ ok, ok3 s2 = ok := ⟨_, rfl⟩
    have HO := Lib.hid hok
    rw [hok] at BD NX HW ⊢
    clear hf hw FR RN hok
    cases ok with
    | false =>
      have V := Lib.hid (BD.out (by trivial))
      go_wp2_with fail
      go_ret
      exact ⟨F1.out, .inl ⟨V.out, rfl⟩⟩
    | true =>
    have W1 := Lib.hid (HW.out (by trivial))
    obtain ⟨a1, a2, a3, a4, a5⟩ := NX.out (by trivial)
    have FN := Lib.hid a1
    have IN := Lib.hid a2
    have NZ := Lib.hid a3
    have L0 := Lib.hid a4
    have L1 := Lib.hid a5
    have AL1 := Lib.hid (ALN.out s2 w1 W1.out)
    obtain ⟨cl, hcl⟩ : ∃ cl, clB R C t s2 = cl := ⟨_, rfl⟩
    have CL := Lib.hid hcl
    rw [hcl] at L0 L1 AL1
    clear a1 a2 a3 a4 a5 NX HW BD hcl ALN
    go_wp2_with fail
    refine AL1.out.mono ?_
    rintro e w2 ⟨rfl, hb⟩
    have W2 := Lib.hid (W1.out.step hb)
    have F2 := Lib.hid (F1.out.trans (FrS.of_below hb))
    clear hb AL1 W1 F1
    cases cl with
    | false =>
      obtain ⟨b1, b2⟩ := L0.out (by trivial)
      have PN := Lib.hid (PLN.out s2 NZ.out)
      go_wp2_with fail
      go_roundg f
      case measure => omega
      case rel => exact ⟨s2, W2.out, F2.out, FN.out, IN.out, PN.out, b1, b2⟩
    | true =>
    obtain ⟨b1, b2⟩ := L1.out (by trivial)
    have LN := Lib.hid b1
    have LS := Lib.hid b2
    obtain ⟨qa, qu, qv, ma, mu, mv, q⟩ := W2.out
    obtain ⟨c0, c1, c2, -⟩ := q.k.all
    have UD := Lib.hid (UDV.out s2 qa ma w2 q.fA q.siz HO.out)
    have UN1 := Lib.hid (UN.out s2 IN.out CL.out)
    have US1 := Lib.hid (fun k => US.out s2 k IN.out CL.out)
    clear q b1 b2 L0 L1 UDV UN US
    go_wp2_with fail
    refine UD.out.mono ?_
    rintro e w3 ⟨hx, hb⟩
    have W3 := Lib.hid (W2.out.step hb)
    have F3 := Lib.hid (F2.out.trans (FrS.of_below hb))
    clear hb UD W2 F2 c0 c1 c2
    rcases hx with ⟨k, rfl, k1, k2, k3, k4⟩ | ⟨rfl, k4⟩
    · have HN := US1.out k k1 k2 k3 k4
      obtain ⟨b1, b2⟩ := LS.out k HN
      have B1 := Lib.hid b1
      have B2 := Lib.hid b2
      have n1 : ¬ (k : Int) < 0 := by omega
      have AD := Lib.hid (ADD.out s2 w3 k W3.out HO.out k1 k2)
      clear b1 b2 k3 k4 HN LS LN UN1 US1 ADD
      generalize row3 R C 2 t k 1 s2 = s4 at B1 B2 AD
      go_wp2_with fail
      refine AD.out.mono ?_
      rintro e w4 ⟨rfl, hf, hw⟩
      have F4 := Lib.hid (F3.out.trans hf)
      have HW := Lib.hid hw
      obtain ⟨ok, hok⟩ : ∃ ok, ok3 s4 = ok := ⟨_, rfl⟩
      rw [hok] at B1 B2 HW ⊢
      clear hf hw AD W3 F3 hok
      cases ok with
      | false =>
        have V := Lib.hid (B1.out (by trivial))
        go_wp2_with fail
        go_ret
        exact ⟨F4.out, .inl ⟨V.out, rfl⟩⟩
      | true =>
        have W4 := Lib.hid (HW.out (by trivial))
        obtain ⟨d1, d2, d3, d4, d5⟩ := B2.out (by trivial)
        have D1 := Lib.hid d1
        have D2 := Lib.hid d2
        have D3 := Lib.hid d3
        have D4 := Lib.hid d4
        have D5 := Lib.hid d5
        clear d1 d2 d3 d4 d5 B1 B2 HW
        go_wp2_with fail
        go_roundg f
        case measure => omega
        case rel => exact ⟨s4, W4.out, F4.out, D1.out, D2.out, D5.out, D3.out, D4.out⟩
    · have HN := UN1.out k4
      have V := Lib.hid (LN.out HN)
      clear k4 HN LS LN UN1 US1 ADD
      have NG1 : Hid (cel3S C s2 t t < 0 → row3 R C 1 t t 0 s2 = ng3 R C t s2) := fun h => by unfold ng3; rw [if_pos h]
      have NG2 : Hid (¬ cel3S C s2 t t < 0 → s2 = ng3 R C t s2) := fun h => by unfold ng3; rw [if_neg h]
      have ON : Hid (ok3 (ng3 R C t s2) = true) := ok3_ng HO.out
      obtain ⟨qa, qu, qv, ma, mu, mv, q⟩ := W3.out
      obtain ⟨c0, c1, c2, -⟩ := q.k.all
      obtain ⟨g, o, rfl, -⟩ := HA.out s2 qa _ q.siz q.fA.rdS
      have RIx := Lib.hid (RI.out g o ma s2.1 w3 q.fA)
      have CE : Hid (∀ w', Below w3.heap.size w3 w' → w'.cell? ⟨g, o + t * C + t, none⟩ = some (.int .i64 (cel3S C s2 t t))) := fun w' hb => by
        obtain ⟨g', o', e, hc⟩ := HA.out s2 _ w' q.siz (q.fA.rdS.below hb)
        injection e with e
        injection e with e1 e2
        rw [e1, e2]; exact hc
      have NGC := Lib.hid (fun w' h9 => NEG.out s2 w' h9 HO.out)
      obtain ⟨s5, hs5⟩ : ∃ s5, ng3 R C t s2 = s5 := ⟨_, rfl⟩
      have RES : Hid (∀ e w', FrS (fun b => b = px) w w' → e = .returned (.bool true) → TsW R C px B s5 w' → PvtRes R C px B t LF w e w') := fun e w' r1 r2 r3 => ⟨r1, .inr ⟨s2, V.out, r2, by rw [hs5]; exact r3⟩⟩
      rw [hs5] at NG1 NG2 ON
      obtain ⟨x, hx⟩ : ∃ x, cel3S C s2 t t = x := ⟨_, rfl⟩
      rw [hx] at CE NG1 NG2 NZ
      have u0 : (t : Int) < (C : Int) := by omega
      clear q hs5 hx HA RI NEG
      go_wp2_with fail
      refine RIx.out.mono ?_
      rintro e w4 ⟨m', rfl, hb⟩
      have W4 := Lib.hid (W3.out.step hb)
      have F4 := Lib.hid (F3.out.trans (FrS.of_below hb))
      have hcell := CE.out w4 hb
      clear hb RIx W3 F3 c0 c1 c2 CE
      by_cases hx0 : x < 0
      · have n1 : decide (0 < x) = false := decide_eq_false (by omega)
        have NG := Lib.hid (NGC.out w4 W4.out)
        rw [NG1.out hx0] at NG
        go_wp2_with fail
        refine NG.out.mono ?_
        rintro e w5 ⟨rfl, hf, hw⟩
        have F5 := Lib.hid (F4.out.trans hf)
        have W5 := Lib.hid (hw ON.out)
        clear hf hw NG
        go_wp2_with fail
        go_ret
        exact RES.out _ _ F5.out (by rw [ON.out]; first | rfl | simp) W5.out
      · have n1 : decide (0 < x) = true := decide_eq_true (by have := NZ.out; omega)
        have W5 : Hid (TsW R C px B s5 w4) := by refine Lib.hid ?_; rw [← NG2.out (by omega)]; exact W4.out
        go_wp2_with fail
        go_ret
        exact RES.out _ _ F4.out rfl W5.out
end Go.Proofs.Ytpelnfenfeoeeaa
end

section
/-
  Chapter 3, in the program: IdentityMatrix.
-/
namespace Go.Proofs.Ytpelnfenfeoeeaa
open Go.RowKit
set_option maxHeartbeats 1000000 in
theorem iIdent_t (n : Nat) (w : World) (hn : n ≤ 24) :
    Calls Try.prog 59 #[.int .i64 n] w (MatRes ⟨true, n, n, idL n n⟩ w) := by
  have hle : n * n ≤ 24 * 24 := Nat.mul_le_mul hn hn
  have B0 : ∀ o1, Below w.heap.size w (w.alloc o1) := fun o1 => (Below.refl _ _).alloc (Nat.le_refl _) _
  have BH := Lib.hid B0
  clear B0
  go_enter Try.func59, Try.ntmps59
  go_wp2_with fail
  refine (iSize_t n _ (by omega) (by omega)).mono ?_
  rintro e w2 ⟨rfl, rfl⟩
  have hmk := makeProd n n (by omega)
  obtain ⟨N, hN⟩ : ∃ N, n * n = N := ⟨_, rfl⟩
  have HN := Lib.hid hN
  have hp1 : (0 : Int) ≤ (n : Int) * (n : Int) := by rw [← Int.natCast_mul]; omega
  have hp2 : (n : Int) * (n : Int) ≤ 16777216 := by rw [← Int.natCast_mul]; omega
  rw [hN] at hmk hle
  clear hN
  have B2 := Lib.hid (((BH.out (.cells #[.int .i64 0, .int .i64 0, .slice none 0 0] 26)).alloc (by simp) (.cells (madeCells #[.int .i64 0] N) 3)).alloc (by simp <;> omega) (.cells #[.int .i64 n, .int .i64 n, .slice (some ⟨w.heap.size + 1, 0, none⟩) N N] 26))
  have K2 : Hid (Blk3 (((w.alloc (.cells #[.int .i64 0, .int .i64 0, .slice none 0 0] 26)).alloc (.cells (madeCells #[.int .i64 0] N) 3)).alloc (.cells #[.int .i64 n, .int .i64 n, .slice (some ⟨w.heap.size + 1, 0, none⟩) N N] 26)) w.heap.size 26 (.int .i64 0) (.int .i64 0) (.slice none 0 0)) := ((Blk3.at_ _ _ _ _ rfl).old _).old _
  have K6 : Hid (Blk3 (((w.alloc (.cells #[.int .i64 0, .int .i64 0, .slice none 0 0] 26)).alloc (.cells (madeCells #[.int .i64 0] N) 3)).alloc (.cells #[.int .i64 n, .int .i64 n, .slice (some ⟨w.heap.size + 1, 0, none⟩) N N] 26)) (w.heap.size + 2) 26 (.int .i64 n) (.int .i64 n) (.slice (some ⟨w.heap.size + 1, 0, none⟩) N N)) := Blk3.at_ _ _ _ _ (by simp)
  have I : Hid (Ints (((w.alloc (.cells #[.int .i64 0, .int .i64 0, .slice none 0 0] 26)).alloc (.cells (madeCells #[.int .i64 0] N) 3)).alloc (.cells #[.int .i64 n, .int .i64 n, .slice (some ⟨w.heap.size + 1, 0, none⟩) N N] 26)) (w.heap.size + 1) (List.replicate N 0)) := (Ints.made N (by simp)).old _
  go_wp2_with fail
  go_wp2_with fail
  go_loopw [5, 18] (fun _ i wr => ∃ k : Nat, i = .int .i64 k ∧ k ≤ n ∧ Ints wr (w.heap.size + 1) (idL n k) ∧ (((w.alloc (.cells #[.int .i64 0, .int .i64 0, .slice none 0 0] 26)).alloc (.cells (madeCells #[.int .i64 0] N) 3)).alloc (.cells #[.int .i64 n, .int .i64 n, .slice (some ⟨w.heap.size + 1, 0, none⟩) N N] 26)).grownBy wr (some (w.heap.size + 1))) (fun _ i _ => n - (intOf i).toNat)
  case atStart => exact ⟨0, rfl, by omega, by rw [idL_zero, HN.out]; exact I.out, World.grownBy.refl _ _⟩
  case round =>
    obtain ⟨k, rfl, hk, hi, hgr⟩ := hrel
    have I := Lib.hid hi
    have G := Lib.hid hgr
    clear hi hgr
    have R2 := Lib.hid (K2.out.keepOne G.out (by omega))
    have R6 := Lib.hid (K6.out.keepOne G.out (by omega))
    obtain ⟨r0, r1, r2, -, -, -⟩ := R6.out.all
    by_cases hlt : k < n
    · have i1 : k * n + k < N := by rw [← HN.out]; exact idx_lt hlt hlt
      have hold := I.out.cell (i := k * n + k) (by rw [idL_length, HN.out]; exact i1)
      rw [idL_at] at hold
      have hfr := I.out.free (k * n + k)
      have c1 : (k : Int) * (n : Int) = ((k * n : Nat) : Int) := (Int.natCast_mul _ _).symm
      have d1 : 0 ≤ (k : Int) * (n : Int) ∧ (k : Int) * (n : Int) ≤ 600 := by rw [c1]; omega
      have e1 : 0 ≤ (k : Int) * (n : Int) + (k : Int) := by omega
      have e2 : (k : Int) * (n : Int) + (k : Int) < (N : Int) := by rw [c1]; omega
      have e3 : ((k : Int) * (n : Int) + (k : Int)).toNat = k * n + k := by rw [c1]; omega
      obtain ⟨d11, d12⟩ := d1
      have v1 : IntKind.i64.wrap ((k : Int) * (n : Int)) = (k : Int) * (n : Int) := IntWalk.i64_in _ (by omega)
      have v2 : IntKind.i64.wrap ((k : Int) * (n : Int) + (k : Int)) = (k : Int) * (n : Int) + (k : Int) := IntWalk.i64_in _ (by omega)
      clear c1
      go_wp2_with fail
      go_roundw
      case rel =>
        refine ⟨k + 1, by go_num, by omega, ?_, ?_⟩
        · rw [← idL_step]
          first | exact I.out.set (k * n + k) _ | exact I.out.drew.set (k * n + k) _
        · first | exact grown_set_one G.out rfl _ | exact grown_drew_one (grown_set_one G.out rfl _)
      case measure => simp [intOf]; omega
    · have hkn : k = n := by omega
      subst hkn
      have BW := Lib.hid (B2.out.trans (below_of_one G.out (by omega) B2.out.size))
      obtain ⟨s0, s1, s2, t0, t1, t2⟩ := R2.out.all
      go_wp2_with fail
      obtain ⟨E0, E1, E2, -, -, -⟩ := (((R2.out.set0 (.int .i64 k)).set1 (.int .i64 k)).set2 (.slice (some ⟨w.heap.size + 1, 0, none⟩) N N)).all
      refine bodyPost_ret (v := .tuple #[.agg #[.int .i64 k, .int .i64 k, .slice (some ⟨w.heap.size + 1, 0, none⟩) N N], .bool true]) (by simp [results, Try.results59, go_sem, E0, E1, E2]) rfl ⟨_, rfl, ?_, ?_⟩
      · refine .inr ⟨w.heap.size + 1, N, by rw [idL_length, HN.out], by omega, ?_, by simp [idL_length, HN.out], by simp [idL_length, HN.out]; omega⟩
        exact ((I.out.far (by show w.heap.size + 1 ≠ w.heap.size; omega) _).far (by show w.heap.size + 1 ≠ w.heap.size; omega) _).far (by show w.heap.size + 1 ≠ w.heap.size; omega) _
      · exact ((BW.out.setCell (Nat.le_refl _) _).setCell (Nat.le_refl _) _).setCell (Nat.le_refl _) _
end Go.Proofs.Ytpelnfenfeoeeaa
end

section
/-
  Chapter 13, in the program: SmithForm.
-/
namespace Go.Proofs.Ytpelnfenfeoeeaa
set_option maxRecDepth 100000
open Go.RowKit
theorem turn_id (n : Nat) : turnL n n (idL n n) = idL n n := by
  refine list_getD (by rw [turnL_length, idL_length]) fun p hp => ?_
  rw [turnL_length] at hp
  have hn : 0 < n := by
    rcases Nat.eq_zero_or_pos n with e | e
    · rw [e, Nat.mul_zero] at hp; omega
    · exact e
  have hi : p % n < n := Nat.mod_lt p hn
  have hj : p / n < n := Nat.div_lt_of_lt_mul hp
  have ep : p = p / n * n + p % n := place_split
  have e1 := turnL_at n n (idL n n) hi hj
  rw [← ep] at e1
  rw [e1]
  have h1 := mxL_idL n (p % n) (p / n) hi hj
  have h2 := mxL_idL n (p / n) (p % n) hj hi
  have h1 : (idL n n).getD (p % n * n + p / n) 0 = idX (p % n) (p / n) := h1
  have h2 : (idL n n).getD (p / n * n + p % n) 0 = idX (p / n) (p % n) := h2
  rw [← ep] at h2
  rw [h1, h2]
  unfold idX
  by_cases e : p % n = p / n
  · rw [if_pos e, if_pos e.symm]
  · rw [if_neg e, if_neg (fun h => e h.symm)]
theorem mF {W w' : World} {b1 b2 b3 : Nat} {t1 t2 t3 : TypeId} {p1 p2 p3 q1 q2 q3 r1 r2 r3 : Value} (h1 : Blk3 W b1 t1 p1 p2 p3) (h2 : Blk3 W b2 t2 q1 q2 q3) (h3 : Blk3 W b3 t3 r1 r2 r3) (hb : Below W.heap.size W w') :
    w'.cell? ⟨b1, 0, none⟩ = some p1 ∧ w'.cell? ⟨b1, 1, none⟩ = some p2 ∧ w'.cell? ⟨b1, 2, none⟩ = some p3 ∧ w'.cell? ⟨b2, 0, none⟩ = some q1 ∧ w'.cell? ⟨b2, 1, none⟩ = some q2 ∧ w'.cell? ⟨b2, 2, none⟩ = some q3 ∧ w'.cell? ⟨b3, 0, none⟩ = some r1 ∧ w'.cell? ⟨b3, 1, none⟩ = some r2 ∧ w'.cell? ⟨b3, 2, none⟩ = some r3 := by
  obtain ⟨a1, a2, a3, -, -, -⟩ := (h1.step hb).all
  obtain ⟨a4, a5, a6, -, -, -⟩ := (h2.step hb).all
  obtain ⟨a7, a8, a9, -, -, -⟩ := (h3.step hb).all
  exact ⟨a1, a2, a3, a4, a5, a6, a7, a8, a9⟩
set_option maxHeartbeats 16000000 in
theorem iSmithForm (r c : Int) (a : Option Addr) (m : Nat) (xs : List Int) (w : World) (h : Rd w a xs) (hn : xs.length ≤ 16777216) :
    Calls Try.prog 17 #[.agg #[.int .i64 r, .int .i64 c, .slice a xs.length m]] w (SmG w (smR r c xs)) := by
  have IM : Hid (∀ w', Below w.heap.size w w' → Calls Try.prog 58 #[.agg #[.int .i64 r, .int .i64 c, .slice a xs.length m]] w' (Gives (.bool (isMat r c xs)) w')) := fun w' hb => iIsMat r c a m xs w' (h.below hb) hn
  cases hm : isMat r c xs with
  | false =>
    have RN : Hid (smR r c xs = SR.no) := smR_no hm
    rw [hm] at IM
    generalize smR r c xs = RES at RN ⊢
    generalize xs.length = L at IM ⊢
    clear h hn hm
    go_enter Try.func17, Try.ntmps17
    go_upto_region 1 with fail
    have K0 : Hid (Blk3 ((((w.alloc (.cells #[.int .i64 r, .int .i64 c, .slice a L m] 26)).alloc (.cells #[.int .i64 0, .int .i64 0, .slice none 0 0] 26)).alloc (.cells #[.int .i64 0, .int .i64 0, .slice none 0 0] 26)).alloc (.cells #[.int .i64 0, .int .i64 0, .slice none 0 0] 26)) w.heap.size 26 (.int .i64 r) (.int .i64 c) (.slice a L m)) := (((Blk3.at_ _ _ _ _ rfl).old _).old _).old _
    have R0 : Hid (Res3 w.heap.size (.int .i64 0) (.int .i64 0) (.slice none 0 0) (.int .i64 0) (.int .i64 0) (.slice none 0 0) (.int .i64 0) (.int .i64 0) (.slice none 0 0) ((((w.alloc (.cells #[.int .i64 r, .int .i64 c, .slice a L m] 26)).alloc (.cells #[.int .i64 0, .int .i64 0, .slice none 0 0] 26)).alloc (.cells #[.int .i64 0, .int .i64 0, .slice none 0 0] 26)).alloc (.cells #[.int .i64 0, .int .i64 0, .slice none 0 0] 26))) := ⟨((Blk3.at_ _ _ _ _ (by simp)).old _).old _, (Blk3.at_ _ _ _ _ (by simp)).old _, Blk3.at_ _ _ _ _ (by simp)⟩
    have B0 : Hid (Below w.heap.size w ((((w.alloc (.cells #[.int .i64 r, .int .i64 c, .slice a L m] 26)).alloc (.cells #[.int .i64 0, .int .i64 0, .slice none 0 0] 26)).alloc (.cells #[.int .i64 0, .int .i64 0, .slice none 0 0] 26)).alloc (.cells #[.int .i64 0, .int .i64 0, .slice none 0 0] 26))) := ((((Below.refl _ _).alloc (Nat.le_refl _) _).alloc (by simp) _).alloc (by simp; omega) _).alloc (by simp; omega) _
    have S0 : Hid (((((w.alloc (.cells #[.int .i64 r, .int .i64 c, .slice a L m] 26)).alloc (.cells #[.int .i64 0, .int .i64 0, .slice none 0 0] 26)).alloc (.cells #[.int .i64 0, .int .i64 0, .slice none 0 0] 26)).alloc (.cells #[.int .i64 0, .int .i64 0, .slice none 0 0] 26)).heap.size = w.heap.size + 4) := by show _ = _; simp
    generalize (((w.alloc (.cells #[.int .i64 r, .int .i64 c, .slice a L m] 26)).alloc (.cells #[.int .i64 0, .int .i64 0, .slice none 0 0] 26)).alloc (.cells #[.int .i64 0, .int .i64 0, .slice none 0 0] 26)).alloc (.cells #[.int .i64 0, .int .i64 0, .slice none 0 0] 26) = W0 at K0 R0 B0 S0 ⊢
    obtain ⟨p0, p1, p2, -, -, -⟩ := K0.out.all
    go_wp2_with fail
    refine (IM.out _ B0.out).mono ?_
    rintro e w1 ⟨rfl, hb⟩
    have R1 := Lib.hid (R0.out.step hb)
    have B1 := Lib.hid (B0.out.trans (hb.mono (by have := S0.out; omega)))
    clear hb p0 p1 p2 K0 R0 B0
    obtain ⟨r0, r1, r2, f0, f1, f2⟩ := R1.out.a.all
    obtain ⟨e0, e1, e2, l0, l1, l2⟩ := R1.out.b.all
    obtain ⟨g0, g1, g2, m0, m1, m2⟩ := R1.out.c.all
    go_wp2_with fail
    obtain ⟨E0, E1, E2⟩ := R1.out.zero.all
    obtain ⟨E3, E4, E5⟩ := E1
    obtain ⟨E6, E7, E8⟩ := E2
    obtain ⟨E0, E1, E2⟩ := E0
    refine bodyPost_ret (v := .tuple #[.agg #[.int .i64 0, .int .i64 0, .slice none 0 0], .agg #[.int .i64 0, .int .i64 0, .slice none 0 0], .agg #[.int .i64 0, .int .i64 0, .slice none 0 0], .bool false]) (by simp [results, Try.results17, go_sem, E0, E1, E2, E3, E4, E5, E6, E7, E8]) rfl ?_
    rw [RN.out]
    exact ⟨_, _, _, rfl, .inl ⟨rfl, rfl⟩, .inl ⟨rfl, rfl⟩, .inl ⟨rfl, rfl⟩, fun k hk => by simp [Value.ownBlock] at hk, fun k hk => by simp [Value.ownBlock] at hk, fun k hk => by simp [Value.ownBlock] at hk, belowK (belowK (belowK B1.out (by omega)) (by omega)) (by omega)⟩
  | true =>
    obtain ⟨⟨r0, r1⟩, ⟨c0, c1⟩, hl, nx⟩ := isMat_says hm
    obtain ⟨R, rfl⟩ := Int.eq_ofNat_of_zero_le r0
    obtain ⟨C, rfl⟩ := Int.eq_ofNat_of_zero_le c0
    have hl : xs.length = R * C := by rw [← Int.natCast_mul] at hl; omega
    have R24 : R ≤ 24 := by omega
    have C24 : C ≤ 24 := by omega
    have RS : Hid (smR R C xs = SR.of R C (smX R C xs)) := by show _ = _; unfold smR; rw [if_pos hm]; rfl
    have CP : Hid (∀ w', Below w.heap.size w w' → Calls Try.prog 60 #[.agg #[.int .i64 R, .int .i64 C, .slice a xs.length m]] w' (CopyM R C xs.length xs w')) := fun w' hb => iCopyOf R C a m xs.length xs rfl w' (h.below hb) hn
    have ID : Hid (∀ w', Calls Try.prog 59 #[.int .i64 R] w' (MatRes ⟨true, R, R, idL R R⟩ w')) := fun w' => iIdent_t R w' R24
    have IE : Hid (∀ w', Calls Try.prog 59 #[.int .i64 C] w' (MatRes ⟨true, C, C, idL C C⟩ w')) := fun w' => iIdent_t C w' C24
    have LC : Hid (∀ (s : SSt) (t : Nat) (qa : Option Addr) (ma : Nat) w', Own w.heap.size w' (.slice qa (R * C) ma) s.1 → Siz3 R C s → ok3 s = true → t < R → t < C → Calls Try.prog 61 #[.agg #[.int .i64 R, .int .i64 C, .slice qa (R * C) ma], .int .i64 t] w' (Gives (.tuple #[.int .i64 (lcR C t (plL C t s ((R - t) * (C - t)))), .int .i64 (lcC C t (plL C t s ((R - t) * (C - t)))), .bool (!decide (plL C t s ((R - t) * (C - t)) < 0))]) w')) := fun s t qa ma w' q1 q2 q3 q4 q5 => iLeastCell R C qa (R * C) ma t s w' q1.rdS q1.celA q2.l1 rfl R24 C24 q4 q5 (ok3_and q3).1
    have MP : Hid (∀ (M : Mx) (px t : Nat) (s : SSt) w', TsW R C px w.heap.size s w' → t < R → t < C → Fin3 R C M s → SmI R C (mxC C s.1) t → plS R C t s ≠ none → Calls Try.prog 62 #[.pointer (some ⟨px, 0, none⟩), .int .i64 t] w' (PvtRes R C px w.heap.size t (loopS R C t (fu0 R C t s) s) w')) := fun M px t s w' q1 q2 q3 q4 q5 q6 => iMakePivot R C px w.heap.size t (fu0 R C t s) M s _ w' q1 R24 C24 q2 q3 q4 q5 q6 (FuelS.start R C t s) rfl
    have TU : Hid (∀ (s : SSt) (qv : Option Addr) (mv : Nat) w', Own w.heap.size w' (.slice qv (C * C) mv) (turnL C C s.2.2) → Siz3 R C s → ok3 s = true → Calls Try.prog 35 #[.agg #[.int .i64 C, .int .i64 C, .slice qv (C * C) mv]] w' (MatRes ⟨true, C, C, s.2.2⟩ w')) := fun s qv mv w' q1 q2 q3 => by
      have hl := turnL_length C C s.2.2
      have := iTurn_t C C qv mv (turnL C C s.2.2) w' q1.rdS (by rw [hl]; have := le600 C24 C24; omega) (isMat_mk C24 C24 hl (by rw [nums_turn q2.l3]; exact (ok3_and q3).2.2))
      rw [hl, turn_turn C C _ q2.l3] at this
      exact this
    have F0 := Lib.hid (smX_start hl nx)
    have I0 : Hid (SmI R C (mxC C xs) 0) := SmI.start _ _ _
    have X0 : Hid (smX R C xs = outS R C (min R C - 0) 0 (xs, idL R R, idL C C)) := rfl
    have LB := Lib.hid (And.intro (le600 R24 C24) (And.intro (le600 R24 R24) (le600 C24 C24)))
    rw [hm] at IM
    rw [RS.out]
    obtain ⟨X, hX⟩ : ∃ X, smX R C xs = X := ⟨_, rfl⟩
    rw [hX] at X0 ⊢
    obtain ⟨N, hN⟩ : ∃ N, min R C = N := ⟨_, rfl⟩
    have NR : Hid (N ≤ R ∧ N ≤ C) := by refine Lib.hid ?_; rw [← hN]; exact ⟨Nat.min_le_left _ _, Nat.min_le_right _ _⟩
    have vm3 : Hid (min (R : Int) (C : Int) = (N : Int)) := by show _ = _; rw [← hN]; omega
    rw [hN] at X0
    rw [hl] at IM CP ⊢
    obtain ⟨M, hM⟩ : ∃ M, mxC C xs = M := ⟨_, rfl⟩
    rw [hM] at F0
    have XL := Lib.hid hl
    clear h hn hm r0 r1 c0 c1 hl nx RS hX hN hM
    go_enter Try.func17, Try.ntmps17
    go_upto_region 1 with fail
    have K0 : Hid (Blk3 ((((w.alloc (.cells #[.int .i64 R, .int .i64 C, .slice a (R * C) m] 26)).alloc (.cells #[.int .i64 0, .int .i64 0, .slice none 0 0] 26)).alloc (.cells #[.int .i64 0, .int .i64 0, .slice none 0 0] 26)).alloc (.cells #[.int .i64 0, .int .i64 0, .slice none 0 0] 26)) w.heap.size 26 (.int .i64 R) (.int .i64 C) (.slice a (R * C) m)) := (((Blk3.at_ _ _ _ _ rfl).old _).old _).old _
    have R0 : Hid (Res3 w.heap.size (.int .i64 0) (.int .i64 0) (.slice none 0 0) (.int .i64 0) (.int .i64 0) (.slice none 0 0) (.int .i64 0) (.int .i64 0) (.slice none 0 0) ((((w.alloc (.cells #[.int .i64 R, .int .i64 C, .slice a (R * C) m] 26)).alloc (.cells #[.int .i64 0, .int .i64 0, .slice none 0 0] 26)).alloc (.cells #[.int .i64 0, .int .i64 0, .slice none 0 0] 26)).alloc (.cells #[.int .i64 0, .int .i64 0, .slice none 0 0] 26))) := ⟨((Blk3.at_ _ _ _ _ (by simp)).old _).old _, (Blk3.at_ _ _ _ _ (by simp)).old _, Blk3.at_ _ _ _ _ (by simp)⟩
    have B0 : Hid (Below w.heap.size w ((((w.alloc (.cells #[.int .i64 R, .int .i64 C, .slice a (R * C) m] 26)).alloc (.cells #[.int .i64 0, .int .i64 0, .slice none 0 0] 26)).alloc (.cells #[.int .i64 0, .int .i64 0, .slice none 0 0] 26)).alloc (.cells #[.int .i64 0, .int .i64 0, .slice none 0 0] 26))) := ((((Below.refl _ _).alloc (Nat.le_refl _) _).alloc (by simp) _).alloc (by simp; omega) _).alloc (by simp; omega) _
    have S0 : Hid (((((w.alloc (.cells #[.int .i64 R, .int .i64 C, .slice a (R * C) m] 26)).alloc (.cells #[.int .i64 0, .int .i64 0, .slice none 0 0] 26)).alloc (.cells #[.int .i64 0, .int .i64 0, .slice none 0 0] 26)).alloc (.cells #[.int .i64 0, .int .i64 0, .slice none 0 0] 26)).heap.size = w.heap.size + 4) := by show _ = _; simp
    generalize (((w.alloc (.cells #[.int .i64 R, .int .i64 C, .slice a (R * C) m] 26)).alloc (.cells #[.int .i64 0, .int .i64 0, .slice none 0 0] 26)).alloc (.cells #[.int .i64 0, .int .i64 0, .slice none 0 0] 26)).alloc (.cells #[.int .i64 0, .int .i64 0, .slice none 0 0] 26) = W0 at K0 R0 B0 S0 ⊢
    obtain ⟨p0, p1, p2, -, -, -⟩ := K0.out.all
    go_wp2_with fail
    refine (IM.out _ B0.out).mono ?_
    rintro e w1 ⟨rfl, hb⟩
    have K1 := Lib.hid (K0.out.step hb)
    have R1 := Lib.hid (R0.out.step hb)
    have B1 := Lib.hid (B0.out.trans (hb.mono (by have := S0.out; omega)))
    have s1 : w.heap.size + 4 ≤ w1.heap.size := by have := S0.out; have := hb.size; omega
    clear hb p0 p1 p2 K0 R0 B0 S0
    obtain ⟨p0, p1, p2, -, -, -⟩ := K1.out.all
    go_wp2_with fail
    refine (ID.out _).mono ?_
    rintro e w2 ⟨v, rfl, own, hb⟩
    dsimp only at own ⊢
    obtain ⟨qu, mu, rfl, -, -⟩ := own.form
    rw [idL_length] at own ⊢
    have K2 := Lib.hid ((K1.out.step hb).old (.cells #[.int .i64 R, .int .i64 R, .slice qu (R * R) mu] 26))
    have R2 := Lib.hid ((R1.out.step hb).old (.cells #[.int .i64 R, .int .i64 R, .slice qu (R * R) mu] 26))
    have U2 : Hid (Blk3 (w2.alloc (.cells #[.int .i64 R, .int .i64 R, .slice qu (R * R) mu] 26)) w2.heap.size 26 (.int .i64 R) (.int .i64 R) (.slice qu (R * R) mu)) := Blk3.at_ _ _ _ _ rfl
    have OU2 := Lib.hid ((own.keep ((Below.refl _ _).alloc (Nat.le_refl _) (.cells #[.int .i64 R, .int .i64 R, .slice qu (R * R) mu] 26))).le (show w.heap.size + 4 ≤ _ by omega))
    have B2 := Lib.hid ((B1.out.trans (hb.mono (by omega))).alloc (by have := hb.size; omega) (.cells #[.int .i64 R, .int .i64 R, .slice qu (R * R) mu] 26))
    have s2 : w.heap.size + 4 ≤ w2.heap.size := by have := hb.size; omega
    clear hb own K1 R1 B1 p0 p1 p2 IM ID s1
    go_upto_region 4 with fail
    obtain ⟨b6, hb6⟩ : ∃ b, w2.heap.size = b := ⟨_, rfl⟩
    rw [hb6] at U2 s2 ⊢
    have s3 : Hid ((w2.alloc (.cells #[.int .i64 R, .int .i64 R, .slice qu (R * R) mu] 26)).heap.size = b6 + 1) := by show _ = _; simp [hb6]
    generalize w2.alloc (.cells #[.int .i64 R, .int .i64 R, .slice qu (R * R) mu] 26) = W2 at K2 R2 U2 OU2 B2 s3 ⊢
    clear hb6
    obtain ⟨p0, p1, p2, -, -, -⟩ := K2.out.all
    go_wp2_with fail
    refine (IE.out _).mono ?_
    rintro e w3 ⟨v, rfl, own, hb⟩
    dsimp only at own ⊢
    obtain ⟨qv, mv, rfl, -, -⟩ := own.form
    rw [idL_length] at own ⊢
    have K3 := Lib.hid ((K2.out.step hb).old (.cells #[.int .i64 C, .int .i64 C, .slice qv (C * C) mv] 26))
    have R3 := Lib.hid ((R2.out.step hb).old (.cells #[.int .i64 C, .int .i64 C, .slice qv (C * C) mv] 26))
    have U3 := Lib.hid ((U2.out.step hb).old (.cells #[.int .i64 C, .int .i64 C, .slice qv (C * C) mv] 26))
    have V3 : Hid (Blk3 (w3.alloc (.cells #[.int .i64 C, .int .i64 C, .slice qv (C * C) mv] 26)) w3.heap.size 26 (.int .i64 C) (.int .i64 C) (.slice qv (C * C) mv)) := Blk3.at_ _ _ _ _ rfl
    have OU3 := Lib.hid ((OU2.out.keep hb).keep ((Below.refl _ _).alloc (Nat.le_refl _) (.cells #[.int .i64 C, .int .i64 C, .slice qv (C * C) mv] 26)))
    have OV3 := Lib.hid ((own.keep ((Below.refl _ _).alloc (Nat.le_refl _) (.cells #[.int .i64 C, .int .i64 C, .slice qv (C * C) mv] 26))).le (show w.heap.size + 4 ≤ _ by have := s3.out; omega))
    have B3 := Lib.hid ((B2.out.trans (hb.mono B2.out.size)).alloc (by have := hb.size; have := B2.out.size; omega) (.cells #[.int .i64 C, .int .i64 C, .slice qv (C * C) mv] 26))
    have s4 : Hid (w.heap.size + 4 ≤ (w3.alloc (.cells #[.int .i64 C, .int .i64 C, .slice qv (C * C) mv] 26)).heap.size) := by have := hb.size; have := s3.out; show _ ≤ _; simp; omega
    clear hb own K2 R2 U2 OU2 B2 p0 p1 p2 IE s2 s3
    go_upto_region 5 with fail
    generalize w3.heap.size = b8 at V3 ⊢
    generalize w3.alloc (.cells #[.int .i64 C, .int .i64 C, .slice qv (C * C) mv] 26) = W3 at K3 R3 U3 V3 OU3 OV3 B3 s4 ⊢
    refine wp_region_T (S := fun w' => Below W3.heap.size W3 w') (T := fun j => j == 5 || j == 6) (by kernel_rfl) (Below.refl _ _).drew (fun hH => ?_)
    refine wpAnyT_take (i := 0) (v := ?_) (by simp only [List.getElem?_toArray, List.getElem?_cons_zero]; rfl) (by kernel_rfl) (by kernel_rfl) (by kernel_rfl) (by kernel_rfl) (two_only 5 6 (by kernel_rfl) (by kernel_rfl)) (by exact fun _ _ _ h => h) (Or.inl ⟨by rfl, ?_⟩) hH ?_
    rotate_left
    · (intro wS hS; (try dsimp only at hS); obtain ⟨k1, k2, k3, k4, k5, k6, k7, k8, k9⟩ := mF K3.out U3.out V3.out hS; go_simp; try rfl)
    try simp only [Act.put, List.setIfInBounds_toArray, List.set_cons_zero, List.set_cons_succ]
    refine wpAnyT_take (i := 2) (v := ?_) (by simp only [List.getElem?_toArray, List.getElem?_cons_succ, List.getElem?_cons_zero]; rfl) (by kernel_rfl) (by kernel_rfl) (by kernel_rfl) (by kernel_rfl) (two_only 5 6 (by kernel_rfl) (by kernel_rfl)) (by exact fun _ _ _ h => h) (Or.inl ⟨by rfl, ?_⟩) hH ?_
    rotate_left
    · (intro wS hS; (try dsimp only at hS); obtain ⟨k1, k2, k3, k4, k5, k6, k7, k8, k9⟩ := mF K3.out U3.out V3.out hS; go_simp; try rfl)
    try simp only [Act.put, List.setIfInBounds_toArray, List.set_cons_zero, List.set_cons_succ]
    refine wpAnyT_take (i := 3) (v := ?_) (by simp only [List.getElem?_toArray, List.getElem?_cons_succ, List.getElem?_cons_zero]; rfl) (by kernel_rfl) (by kernel_rfl) (by kernel_rfl) (by kernel_rfl) (two_only 5 6 (by kernel_rfl) (by kernel_rfl)) (by exact fun _ _ _ h => h) (Or.inl ⟨by rfl, ?_⟩) hH ?_
    rotate_left
    · (intro wS hS; (try dsimp only at hS); obtain ⟨k1, k2, k3, k4, k5, k6, k7, k8, k9⟩ := mF K3.out U3.out V3.out hS; go_simp; try rfl)
    try simp only [Act.put, List.setIfInBounds_toArray, List.set_cons_zero, List.set_cons_succ]
    refine wpAnyT_ready (rs := [1]) (by kernel_rfl) (by simp) ?_
    refine AllReadyT.cons (by simp only [List.getElem?_toArray, List.getElem?_cons_succ, List.getElem?_cons_zero]; rfl) (fun K hK => ?_) AllReadyT.nil
    go_simp
    (with_reducible refine (CP.out _ (B3.out.trans (hH.mono B3.out.size))).mono ?_)
    rintro e v1 ⟨qa, ma, rfl, own, hb1⟩
    try dsimp only
    have OA := Lib.hid (own.le hH.size)
    refine hK.out _ _ (fun _ => hH.trans (hb1.mono hH.size)) ?_
    clear hK K own
    have hH := hH.trans (hb1.mono hH.size)
    clear hb1
    try simp only [Act.put, List.setIfInBounds_toArray, List.set_cons_zero, List.set_cons_succ]
    refine wpAnyT_take (i := 4) (v := ?_) (by simp only [List.getElem?_toArray, List.getElem?_cons_succ, List.getElem?_cons_zero]; rfl) (by kernel_rfl) (by kernel_rfl) (by kernel_rfl) (by kernel_rfl) (two_only 5 6 (by kernel_rfl) (by kernel_rfl)) (by exact fun _ _ _ h => h) (Or.inl ⟨by rfl, ?_⟩) hH ?_
    rotate_left
    · (intro wS hS; clear hS; go_simp; try rfl)
    try simp only [Act.put, List.setIfInBounds_toArray, List.set_cons_zero, List.set_cons_succ]
    have HB := Lib.hid hH
    refine wpAnyT_ready (rs := [5]) (by kernel_rfl) (by simp) ?_
    refine AllReadyT.cons (by simp only [List.getElem?_toArray, List.getElem?_cons_succ, List.getElem?_cons_zero]; rfl) (fun K hK => ?_) AllReadyT.nil
    go_simp
    try dsimp only
    refine hK.out _ _ (fun h => by cases h) ?_
    clear hK K
    try simp only [Act.put, List.setIfInBounds_toArray, List.set_cons_zero, List.set_cons_succ]
    refine wpAnyT_ready (rs := [6]) (by kernel_rfl) (by simp) ?_
    refine AllReadyT.cons (by simp only [List.getElem?_toArray, List.getElem?_cons_succ, List.getElem?_cons_zero]; rfl) (fun K hK => ?_) AllReadyT.nil
    go_simp
    try dsimp only
    refine hK.out _ _ (fun h => by cases h) ?_
    clear hK K
    try simp only [Act.put, List.setIfInBounds_toArray, List.set_cons_zero, List.set_cons_succ]
    refine wpAnyT_done (by kernel_rfl) ?_ _
    have CT : Hid (Below v1.heap.size v1 (v1.alloc (.cells #[.int .i64 R, .int .i64 C, .slice qa (R * C) ma, .int .i64 R, .int .i64 R, .slice qu (R * R) mu, .int .i64 C, .int .i64 C, .slice qv (C * C) mv] 57))) := (Below.refl _ _).alloc (Nat.le_refl _) _
    have WS0 : Hid (TsW R C v1.heap.size w.heap.size (xs, idL R R, idL C C) (v1.alloc (.cells #[.int .i64 R, .int .i64 C, .slice qa (R * C) ma, .int .i64 R, .int .i64 R, .slice qu (R * R) mu, .int .i64 C, .int .i64 C, .slice qv (C * C) mv] 57))) := by
      have q := F0.out.siz
      refine ⟨qa, qu, qv, ma, mu, mv, Blk9.at_ _ _ _ _ _ _ _ _ _ _ rfl, (OA.out.le (by have := s4.out; omega)).keep CT.out, ((OU3.out.keep HB.out).le (by omega)).keep CT.out, ?_, fun k hk e => ?_, q, by have := s4.out; have := HB.out.size; simp; omega⟩
      · rw [show turnL C C (idL C C) = idL C C from turn_id C]
        exact ((OV3.out.keep HB.out).le (by omega)).keep CT.out
      · have a1 := OA.out.lt_of hk
        have a2 := OU3.out.lt_of e
        omega
    have R4 := Lib.hid ((R3.out.step HB.out).old (.cells #[.int .i64 R, .int .i64 C, .slice qa (R * C) ma, .int .i64 R, .int .i64 R, .slice qu (R * R) mu, .int .i64 C, .int .i64 C, .slice qv (C * C) mv] 57))
    have K4 := Lib.hid ((K3.out.step HB.out).old (.cells #[.int .i64 R, .int .i64 C, .slice qa (R * C) ma, .int .i64 R, .int .i64 R, .slice qu (R * R) mu, .int .i64 C, .int .i64 C, .slice qv (C * C) mv] 57))
    have B4 := Lib.hid ((B3.out.trans (HB.out.mono B3.out.size)).alloc (by have := s4.out; have := HB.out.size; omega) (.cells #[.int .i64 R, .int .i64 C, .slice qa (R * C) ma, .int .i64 R, .int .i64 R, .slice qu (R * R) mu, .int .i64 C, .int .i64 C, .slice qv (C * C) mv] 57))
    have PX : Hid (w.heap.size + 4 ≤ v1.heap.size) := by show _ ≤ _; have := s4.out; have := HB.out.size; omega
    clear OA OU3 OV3 U3 V3 R3 K3 B3 HB CT s4 CP
    obtain ⟨px, hpx⟩ : ∃ b, v1.heap.size = b := ⟨_, rfl⟩
    rw [hpx] at WS0 PX ⊢
    generalize v1.alloc (.cells #[.int .i64 R, .int .i64 C, .slice qa (R * C) ma, .int .i64 R, .int .i64 R, .slice qu (R * R) mu, .int .i64 C, .int .i64 C, .slice qv (C * C) mv] 57) = W4 at WS0 R4 K4 B4 ⊢
    clear hpx
    go_upto_region 6 with fail
    obtain ⟨p0, p1, p2, -, -, -⟩ := K4.out.all
    go_wp2_with fail
    simp only [vm3.out]
    clear p0 p1 p2 vm3
    go_loopw [11, 12, 13, 14, 46] (fun _ _ _ _ v46 wq => ∃ (t : Nat) (s : SSt), v46 = .int .i64 t ∧ t ≤ N ∧ Fin3 R C M s ∧ SmI R C (mxC C s.1) t ∧ X = outS R C (N - t) t s ∧ TsW R C px w.heap.size s wq ∧ Res3 w.heap.size (.int .i64 0) (.int .i64 0) (.slice none 0 0) (.int .i64 0) (.int .i64 0) (.slice none 0 0) (.int .i64 0) (.int .i64 0) (.slice none 0 0) wq ∧ Below w.heap.size w wq) (fun _ _ _ _ v46 _ => N - (intOf v46).toNat)
    case atStart => exact ⟨0, (xs, idL R R, idL C C), rfl, Nat.zero_le _, F0.out, I0.out, X0.out, WS0.out, R4.out, B4.out⟩
    case round =>
      clear WS0 F0 X0 I0 R4 K4 B4
      obtain ⟨t, s, rfl, ht, hF, hI, hX, hW, hr, hb⟩ := hrel
      have FN := Lib.hid hF
      have IN := Lib.hid hI
      have EX := Lib.hid hX
      have WS := Lib.hid hW
      have RS := Lib.hid hr
      have BS := Lib.hid hb
      clear hF hI hX hW hr hb
      by_cases htN : t < N
      rotate_left
      · have V : Hid (X = some s) := by refine Lib.hid ?_; rw [EX.out, show N - t = 0 by omega]; rfl
        clear EX
        obtain ⟨qa, qu, qv, ma, mu, mv, q⟩ := WS.out
        obtain ⟨-, -, -, -, -, -, c6, c7, c8⟩ := q.k.all
        have QX := Lib.hid q
        have TU1 := Lib.hid (TU.out s qv mv _ q.fV q.siz FN.out.ok)
        have L3 := Lib.hid q.siz.l3
        clear q
        go_wp2_with fail
        refine TU1.out.mono ?_
        rintro e w8 ⟨v, rfl, own, hb⟩
        dsimp only at own ⊢
        obtain ⟨q9, m9, rfl, -, -⟩ := own.form
        rw [L3.out] at own ⊢
        have QY := Lib.hid (QX.out.step hb)
        have RS8 := Lib.hid ((RS.out.step hb).old (.cells #[.int .i64 C, .int .i64 C, .slice q9 (C * C) m9] 26))
        have VK8 : Hid (Blk3 (w8.alloc (.cells #[.int .i64 C, .int .i64 C, .slice q9 (C * C) m9] 26)) w8.heap.size 26 (.int .i64 C) (.int .i64 C) (.slice q9 (C * C) m9)) := Blk3.at_ _ _ _ _ rfl
        have QZ := Lib.hid (QY.out.step ((Below.refl _ _).alloc (Nat.le_refl _) (.cells #[.int .i64 C, .int .i64 C, .slice q9 (C * C) m9] 26)))
        have OV8 := Lib.hid (own.keep ((Below.refl _ _).alloc (Nat.le_refl _) (.cells #[.int .i64 C, .int .i64 C, .slice q9 (C * C) m9] 26)))
        have BS8 := Lib.hid ((BS.out.trans (hb.mono BS.out.size)).alloc (by have := BS.out.size; have := hb.size; omega) (.cells #[.int .i64 C, .int .i64 C, .slice q9 (C * C) m9] 26))
        have D1 : Hid (∀ k, (Value.slice qa (R * C) ma).ownBlock = some k → (Value.slice q9 (C * C) m9).ownBlock ≠ some k) := fun k hk e => by have h1 := QX.out.fA.lt_of hk; have h2 := own.lt_of e; omega
        have D2 : Hid (∀ k, (Value.slice qu (R * R) mu).ownBlock = some k → (Value.slice q9 (C * C) m9).ownBlock ≠ some k) := fun k hk e => by have h1 := QX.out.fU.lt_of hk; have h2 := own.lt_of e; omega
        have sz8 : Hid (w.heap.size + 3 < w8.heap.size) := by have := PX.out; have := QY.out.k.lt; show _ < _; omega
        have SW8 := BS.out.size
        have SW9 := hb.size
        clear hb own QX QY TU1 WS RS BS c6 c7 c8
        go_upto_region 15 with fail
        obtain ⟨b9, hb9⟩ : ∃ b, w8.heap.size = b := ⟨_, rfl⟩
        rw [hb9] at VK8 sz8 ⊢
        have OV8 := Lib.hid (OV8.out.le (show w.heap.size ≤ _ by omega))
        generalize w8.alloc (.cells #[.int .i64 C, .int .i64 C, .slice q9 (C * C) m9] 26) = W8 at RS8 VK8 QZ OV8 BS8 ⊢
        clear hb9 SW8 SW9
        refine wp_region_T (S := fun w' => Blk9 w' px 57 (.int .i64 R) (.int .i64 C) (.slice qa (R * C) ma) (.int .i64 R) (.int .i64 R) (.slice qu (R * R) mu) (.int .i64 C) (.int .i64 C) (.slice qv (C * C) mv) ∧ Blk3 w' b9 26 (.int .i64 C) (.int .i64 C) (.slice q9 (C * C) m9)) (T := fun _ => false) (by kernel_rfl) ⟨QZ.out.k, VK8.out.drew⟩ (fun hH => ?_)
        have OA := Lib.hid (QZ.out.fA.moveA (w' := W8.drew) fun _ _ => rfl)
        have OU := Lib.hid (QZ.out.fU.moveA (w' := W8.drew) fun _ _ => rfl)
        have OV := Lib.hid (OV8.out.moveA (w' := W8.drew) fun _ _ => rfl)
        have R6 : Hid (Res3 _ _ _ _ _ _ _ _ _ _ W8.drew) := Lib.hid ⟨RS8.out.a.drew, RS8.out.b.drew, RS8.out.c.drew⟩
        have B6 := Lib.hid BS8.out.drew
        have DD := Lib.hid QZ.out.df
        generalize W8.drew = v0 at hH R6 B6 OA OU OV ⊢
        clear RS8 BS8 OV8 VK8 QZ
        refine wpAnyT_take (i := 0) (v := ?_) (by simp only [List.getElem?_toArray, List.getElem?_cons_zero]; rfl) (by kernel_rfl) (by kernel_rfl) (by kernel_rfl) (by kernel_rfl) (fun _ hj => by cases hj) (by exact fun _ _ _ h => h) (Or.inl ⟨by rfl, ?_⟩) hH ?_
        rotate_left
        · (intro wS hS; clear hS; go_simp; try rfl)
        try simp only [Act.put, List.setIfInBounds_toArray, List.set_cons_zero, List.set_cons_succ]
        refine wpAnyT_take (i := 1) (v := ?_) (by simp only [List.getElem?_toArray, List.getElem?_cons_succ, List.getElem?_cons_zero]; rfl) (by kernel_rfl) (by kernel_rfl) (by kernel_rfl) (by kernel_rfl) (fun _ hj => by cases hj) (by exact fun _ _ _ h => h) (Or.inl ⟨by rfl, ?_⟩) hH ?_
        rotate_left
        · (intro wS hS; clear hS; go_simp; try rfl)
        try simp only [Act.put, List.setIfInBounds_toArray, List.set_cons_zero, List.set_cons_succ]
        refine wpAnyT_take (i := 2) (v := ?_) (by simp only [List.getElem?_toArray, List.getElem?_cons_succ, List.getElem?_cons_zero]; rfl) (by kernel_rfl) (by kernel_rfl) (by kernel_rfl) (by kernel_rfl) (fun _ hj => by cases hj) (by exact fun _ _ _ h => h) (Or.inl ⟨by rfl, ?_⟩) hH ?_
        rotate_left
        · (intro wS hS; clear hS; go_simp; try rfl)
        try simp only [Act.put, List.setIfInBounds_toArray, List.set_cons_zero, List.set_cons_succ]
        refine wpAnyT_take (i := 3) (v := ?_) (by simp only [List.getElem?_toArray, List.getElem?_cons_succ, List.getElem?_cons_zero]; rfl) (by kernel_rfl) (by kernel_rfl) (by kernel_rfl) (by kernel_rfl) (fun _ hj => by cases hj) (by exact fun _ _ _ h => h) (Or.inl ⟨by rfl, ?_⟩) hH ?_
        rotate_left
        · (intro wS hS; (try dsimp only at hS); obtain ⟨k1, k2, k3, k4, k5, k6, k7, k8, k9⟩ := hS.1.all; go_simp; try rfl)
        try simp only [Act.put, List.setIfInBounds_toArray, List.set_cons_zero, List.set_cons_succ]
        refine wpAnyT_take (i := 4) (v := ?_) (by simp only [List.getElem?_toArray, List.getElem?_cons_succ, List.getElem?_cons_zero]; rfl) (by kernel_rfl) (by kernel_rfl) (by kernel_rfl) (by kernel_rfl) (fun _ hj => by cases hj) (by exact fun _ _ _ h => h) (Or.inl ⟨by rfl, ?_⟩) hH ?_
        rotate_left
        · (intro wS hS; clear hS; go_simp; try rfl)
        try simp only [Act.put, List.setIfInBounds_toArray, List.set_cons_zero, List.set_cons_succ]
        refine wpAnyT_take (i := 5) (v := ?_) (by simp only [List.getElem?_toArray, List.getElem?_cons_succ, List.getElem?_cons_zero]; rfl) (by kernel_rfl) (by kernel_rfl) (by kernel_rfl) (by kernel_rfl) (fun _ hj => by cases hj) (by exact fun _ _ _ h => h) (Or.inl ⟨by rfl, ?_⟩) hH ?_
        rotate_left
        · (intro wS hS; clear hS; go_simp; try rfl)
        try simp only [Act.put, List.setIfInBounds_toArray, List.set_cons_zero, List.set_cons_succ]
        refine wpAnyT_take (i := 6) (v := ?_) (by simp only [List.getElem?_toArray, List.getElem?_cons_succ, List.getElem?_cons_zero]; rfl) (by kernel_rfl) (by kernel_rfl) (by kernel_rfl) (by kernel_rfl) (fun _ hj => by cases hj) (by exact fun _ _ _ h => h) (Or.inl ⟨by rfl, ?_⟩) hH ?_
        rotate_left
        · (intro wS hS; clear hS; go_simp; try rfl)
        try simp only [Act.put, List.setIfInBounds_toArray, List.set_cons_zero, List.set_cons_succ]
        refine wpAnyT_take (i := 7) (v := ?_) (by simp only [List.getElem?_toArray, List.getElem?_cons_succ, List.getElem?_cons_zero]; rfl) (by kernel_rfl) (by kernel_rfl) (by kernel_rfl) (by kernel_rfl) (fun _ hj => by cases hj) (by exact fun _ _ _ h => h) (Or.inl ⟨by rfl, ?_⟩) hH ?_
        rotate_left
        · (intro wS hS; (try dsimp only at hS); obtain ⟨k1, k2, k3, k4, k5, k6, k7, k8, k9⟩ := hS.1.all; go_simp; try rfl)
        try simp only [Act.put, List.setIfInBounds_toArray, List.set_cons_zero, List.set_cons_succ]
        refine wpAnyT_take (i := 8) (v := ?_) (by simp only [List.getElem?_toArray, List.getElem?_cons_succ, List.getElem?_cons_zero]; rfl) (by kernel_rfl) (by kernel_rfl) (by kernel_rfl) (by kernel_rfl) (fun _ hj => by cases hj) (by exact fun _ _ _ h => h) (Or.inl ⟨by rfl, ?_⟩) hH ?_
        rotate_left
        · (intro wS hS; (try dsimp only at hS); obtain ⟨k1, k2, k3, -, -, -⟩ := hS.2.all; go_simp; try rfl)
        try simp only [Act.put, List.setIfInBounds_toArray, List.set_cons_zero, List.set_cons_succ]
        refine wpAnyT_ready (rs := [9]) (by kernel_rfl) (by simp) ?_
        refine AllReadyT.cons (by simp only [List.getElem?_toArray, List.getElem?_cons_succ, List.getElem?_cons_zero]; rfl) (fun K hK => ?_) AllReadyT.nil
        obtain ⟨r0, r1, r2, f0, f1, f2⟩ := R6.out.a.all
        go_simp
        try dsimp only
        have hN := And.intro (show Blk9 (((v0.setCell ⟨w.heap.size + 1, 0, none⟩ (.int .i64 R)).setCell ⟨w.heap.size + 1, 1, none⟩ (.int .i64 C)).setCell ⟨w.heap.size + 1, 2, none⟩ (.slice qa (R * C) ma)) px 57 (.int .i64 R) (.int .i64 C) (.slice qa (R * C) ma) (.int .i64 R) (.int .i64 R) (.slice qu (R * R) mu) (.int .i64 C) (.int .i64 C) (.slice qv (C * C) mv) from hH.1.move (put3_far (w := v0) (k := px) (b := w.heap.size + 1) (o := 0) (x := .int .i64 R) (y := .int .i64 C) (v := .slice qa (R * C) ma) (by have := PX.out; omega))) (hH.2.farK (b := w.heap.size + 1) (u1 := .int .i64 R) (u2 := .int .i64 C) (u3 := .slice qa (R * C) ma) (by have := sz8.out; omega))
        have R7 := Lib.hid (R6.out.put1 (u1 := .int .i64 R) (u2 := .int .i64 C) (u3 := .slice qa (R * C) ma))
        have B7 := Lib.hid (belowK (b := w.heap.size + 1) (u1 := .int .i64 R) (u2 := .int .i64 C) (u3 := .slice qa (R * C) ma) B6.out (by omega))
        have PA := Lib.hid (OA.out.setA (b := w.heap.size + 1) (OA.out.ne_box R6.out.a) (.int .i64 R) (.int .i64 C) (.slice qa (R * C) ma))
        have PU := Lib.hid (OU.out.setA (b := w.heap.size + 1) (OU.out.ne_box R6.out.a) (.int .i64 R) (.int .i64 C) (.slice qa (R * C) ma))
        have PV := Lib.hid (OV.out.setA (b := w.heap.size + 1) (OV.out.ne_box R6.out.a) (.int .i64 R) (.int .i64 C) (.slice qa (R * C) ma))
        refine hK.out _ _ (fun _ => hN) ?_
        clear hK K r0 r1 r2 f0 f1 f2 hH R6 B6 OA OU OV
        try simp only [Act.put, List.setIfInBounds_toArray, List.set_cons_zero, List.set_cons_succ]
        try simp only [show w.heap.size + 1 + 1 = w.heap.size + 2 from rfl, show w.heap.size + 1 + 1 + 1 = w.heap.size + 3 from rfl]
        generalize (((v0.setCell ⟨w.heap.size + 1, 0, none⟩ (.int .i64 R)).setCell ⟨w.heap.size + 1, 1, none⟩ (.int .i64 C)).setCell ⟨w.heap.size + 1, 2, none⟩ (.slice qa (R * C) ma)) = v0 at hN R7 B7 PA PU PV ⊢
        have hH := hN
        have R6 := R7
        have B6 := B7
        have OA := PA
        have OU := PU
        have OV := PV
        clear hN R7 B7 PA PU PV
        refine wpAnyT_ready (rs := [10]) (by kernel_rfl) (by simp) ?_
        refine AllReadyT.cons (by simp only [List.getElem?_toArray, List.getElem?_cons_succ, List.getElem?_cons_zero]; rfl) (fun K hK => ?_) AllReadyT.nil
        obtain ⟨r0, r1, r2, f0, f1, f2⟩ := R6.out.b.all
        go_simp
        try dsimp only
        have hN := And.intro (show Blk9 (((v0.setCell ⟨w.heap.size + 2, 0, none⟩ (.int .i64 R)).setCell ⟨w.heap.size + 2, 1, none⟩ (.int .i64 R)).setCell ⟨w.heap.size + 2, 2, none⟩ (.slice qu (R * R) mu)) px 57 (.int .i64 R) (.int .i64 C) (.slice qa (R * C) ma) (.int .i64 R) (.int .i64 R) (.slice qu (R * R) mu) (.int .i64 C) (.int .i64 C) (.slice qv (C * C) mv) from hH.1.move (put3_far (w := v0) (k := px) (b := w.heap.size + 2) (o := 0) (x := .int .i64 R) (y := .int .i64 R) (v := .slice qu (R * R) mu) (by have := PX.out; omega))) (hH.2.farK (b := w.heap.size + 2) (u1 := .int .i64 R) (u2 := .int .i64 R) (u3 := .slice qu (R * R) mu) (by have := sz8.out; omega))
        have R7 := Lib.hid (R6.out.put2 (u1 := .int .i64 R) (u2 := .int .i64 R) (u3 := .slice qu (R * R) mu))
        have B7 := Lib.hid (belowK (b := w.heap.size + 2) (u1 := .int .i64 R) (u2 := .int .i64 R) (u3 := .slice qu (R * R) mu) B6.out (by omega))
        have PA := Lib.hid (OA.out.setA (b := w.heap.size + 2) (OA.out.ne_box R6.out.b) (.int .i64 R) (.int .i64 R) (.slice qu (R * R) mu))
        have PU := Lib.hid (OU.out.setA (b := w.heap.size + 2) (OU.out.ne_box R6.out.b) (.int .i64 R) (.int .i64 R) (.slice qu (R * R) mu))
        have PV := Lib.hid (OV.out.setA (b := w.heap.size + 2) (OV.out.ne_box R6.out.b) (.int .i64 R) (.int .i64 R) (.slice qu (R * R) mu))
        refine hK.out _ _ (fun _ => hN) ?_
        clear hK K r0 r1 r2 f0 f1 f2 hH R6 B6 OA OU OV
        try simp only [Act.put, List.setIfInBounds_toArray, List.set_cons_zero, List.set_cons_succ]
        try simp only [show w.heap.size + 1 + 1 = w.heap.size + 2 from rfl, show w.heap.size + 1 + 1 + 1 = w.heap.size + 3 from rfl]
        generalize (((v0.setCell ⟨w.heap.size + 2, 0, none⟩ (.int .i64 R)).setCell ⟨w.heap.size + 2, 1, none⟩ (.int .i64 R)).setCell ⟨w.heap.size + 2, 2, none⟩ (.slice qu (R * R) mu)) = v0 at hN R7 B7 PA PU PV ⊢
        have hH := hN
        have R6 := R7
        have B6 := B7
        have OA := PA
        have OU := PU
        have OV := PV
        clear hN R7 B7 PA PU PV
        refine wpAnyT_ready (rs := [11]) (by kernel_rfl) (by simp) ?_
        refine AllReadyT.cons (by simp only [List.getElem?_toArray, List.getElem?_cons_succ, List.getElem?_cons_zero]; rfl) (fun K hK => ?_) AllReadyT.nil
        obtain ⟨r0, r1, r2, f0, f1, f2⟩ := R6.out.c.all
        go_simp
        try dsimp only
        have hN := And.intro (show Blk9 (((v0.setCell ⟨w.heap.size + 3, 0, none⟩ (.int .i64 C)).setCell ⟨w.heap.size + 3, 1, none⟩ (.int .i64 C)).setCell ⟨w.heap.size + 3, 2, none⟩ (.slice q9 (C * C) m9)) px 57 (.int .i64 R) (.int .i64 C) (.slice qa (R * C) ma) (.int .i64 R) (.int .i64 R) (.slice qu (R * R) mu) (.int .i64 C) (.int .i64 C) (.slice qv (C * C) mv) from hH.1.move (put3_far (w := v0) (k := px) (b := w.heap.size + 3) (o := 0) (x := .int .i64 C) (y := .int .i64 C) (v := .slice q9 (C * C) m9) (by have := PX.out; omega))) (hH.2.farK (b := w.heap.size + 3) (u1 := .int .i64 C) (u2 := .int .i64 C) (u3 := .slice q9 (C * C) m9) (by have := sz8.out; omega))
        have R7 := Lib.hid (R6.out.put3 (u1 := .int .i64 C) (u2 := .int .i64 C) (u3 := .slice q9 (C * C) m9))
        have B7 := Lib.hid (belowK (b := w.heap.size + 3) (u1 := .int .i64 C) (u2 := .int .i64 C) (u3 := .slice q9 (C * C) m9) B6.out (by omega))
        have PA := Lib.hid (OA.out.setA (b := w.heap.size + 3) (OA.out.ne_box R6.out.c) (.int .i64 C) (.int .i64 C) (.slice q9 (C * C) m9))
        have PU := Lib.hid (OU.out.setA (b := w.heap.size + 3) (OU.out.ne_box R6.out.c) (.int .i64 C) (.int .i64 C) (.slice q9 (C * C) m9))
        have PV := Lib.hid (OV.out.setA (b := w.heap.size + 3) (OV.out.ne_box R6.out.c) (.int .i64 C) (.int .i64 C) (.slice q9 (C * C) m9))
        refine hK.out _ _ (fun _ => hN) ?_
        clear hK K r0 r1 r2 f0 f1 f2 hH R6 B6 OA OU OV
        try simp only [Act.put, List.setIfInBounds_toArray, List.set_cons_zero, List.set_cons_succ]
        try simp only [show w.heap.size + 1 + 1 = w.heap.size + 2 from rfl, show w.heap.size + 1 + 1 + 1 = w.heap.size + 3 from rfl]
        generalize (((v0.setCell ⟨w.heap.size + 3, 0, none⟩ (.int .i64 C)).setCell ⟨w.heap.size + 3, 1, none⟩ (.int .i64 C)).setCell ⟨w.heap.size + 3, 2, none⟩ (.slice q9 (C * C) m9)) = v0 at hN R7 B7 PA PU PV ⊢
        have hH := hN
        have R6 := R7
        have B6 := B7
        have OA := PA
        have OU := PU
        have OV := PV
        clear hN R7 B7 PA PU PV
        refine wpAnyT_ready (rs := [12]) (by kernel_rfl) (by simp) ?_
        refine AllReadyT.cons (by simp only [List.getElem?_toArray, List.getElem?_cons_succ, List.getElem?_cons_zero]; rfl) (fun K hK => ?_) AllReadyT.nil
        go_simp
        try dsimp only
        refine hK.out _ _ (fun _ => hH) ?_
        clear hK K
        try simp only [Act.put, List.setIfInBounds_toArray, List.set_cons_zero, List.set_cons_succ]
        refine wpAnyT_done (by kernel_rfl) ?_ _
        go_wp2_with fail
        obtain ⟨E0, E1, E2⟩ := R6.out.all
        obtain ⟨E3, E4, E5⟩ := E1
        obtain ⟨E6, E7, E8⟩ := E2
        obtain ⟨E0, E1, E2⟩ := E0
        rw [V.out]
        exact bodyPost_ret (v := .tuple #[.agg #[.int .i64 R, .int .i64 C, .slice qa (R * C) ma], .agg #[.int .i64 R, .int .i64 R, .slice qu (R * R) mu], .agg #[.int .i64 C, .int .i64 C, .slice q9 (C * C) m9], .bool true]) (by simp [results, Try.results17, go_sem, E0, E1, E2, E3, E4, E5, E6, E7, E8]) rfl ⟨.slice qa (R * C) ma, .slice qu (R * R) mu, .slice q9 (C * C) m9, rfl, OA.out, OU.out, OV.out, DD.out, D1.out, D2.out, B6.out⟩
      have htR : t < R := by have := NR.out; omega
      have htC : t < C := by have := NR.out; omega
      obtain ⟨m0, hm⟩ : ∃ m0, N - t = m0 + 1 := ⟨N - t - 1, by omega⟩
      have EX : Hid (X = outS R C (m0 + 1) t s) := by rw [← hm]; exact EX.out
      have EM : Hid (N - (t + 1) = m0) := by show _ = _; omega
      clear hm
      obtain ⟨qa, qu, qv, ma, mu, mv, q⟩ := WS.out
      obtain ⟨c0, c1, c2, -⟩ := q.k.all
      have LC1 := Lib.hid (LC.out s t qa ma wr q.fA q.siz FN.out.ok htR htC)
      clear q
      rcases plS_says R C t s htR htC with ⟨hno, -⟩ | ⟨i, j, hP⟩
      · obtain ⟨e1, e2, e3⟩ := lc_none hno
        rw [e1, e2, e3] at LC1
        have V : Hid (X = some s) := by
          refine Lib.hid ?_
          rw [EX.out]
          have hf : fu0 R C t s = 0 + 1 := by unfold fu0; rw [hno]
          exact outS_false (by rw [hf]; exact loopS_none hno)
        clear EX e1 e2 e3 hno
        go_wp2_with fail
        refine LC1.out.mono ?_
        rintro e w6 ⟨rfl, hb⟩
        have WS6 := Lib.hid (WS.out.step hb)
        have RS6 := Lib.hid (RS.out.step hb)
        have BS6 := Lib.hid (BS.out.trans (hb.mono BS.out.size))
        clear hb LC1 WS RS BS c0 c1 c2
        have WS := WS6
        have RS := RS6
        have BS := BS6
        clear WS6 RS6 BS6
        obtain ⟨qa, qu, qv, ma, mu, mv, q⟩ := WS.out
        obtain ⟨-, -, -, -, -, -, c6, c7, c8⟩ := q.k.all
        have QX := Lib.hid q
        have TU1 := Lib.hid (TU.out s qv mv _ q.fV q.siz FN.out.ok)
        have L3 := Lib.hid q.siz.l3
        clear q
        go_wp2_with fail
        refine TU1.out.mono ?_
        rintro e w8 ⟨v, rfl, own, hb⟩
        dsimp only at own ⊢
        obtain ⟨q9, m9, rfl, -, -⟩ := own.form
        rw [L3.out] at own ⊢
        have QY := Lib.hid (QX.out.step hb)
        have RS8 := Lib.hid ((RS.out.step hb).old (.cells #[.int .i64 C, .int .i64 C, .slice q9 (C * C) m9] 26))
        have VK8 : Hid (Blk3 (w8.alloc (.cells #[.int .i64 C, .int .i64 C, .slice q9 (C * C) m9] 26)) w8.heap.size 26 (.int .i64 C) (.int .i64 C) (.slice q9 (C * C) m9)) := Blk3.at_ _ _ _ _ rfl
        have QZ := Lib.hid (QY.out.step ((Below.refl _ _).alloc (Nat.le_refl _) (.cells #[.int .i64 C, .int .i64 C, .slice q9 (C * C) m9] 26)))
        have OV8 := Lib.hid (own.keep ((Below.refl _ _).alloc (Nat.le_refl _) (.cells #[.int .i64 C, .int .i64 C, .slice q9 (C * C) m9] 26)))
        have BS8 := Lib.hid ((BS.out.trans (hb.mono BS.out.size)).alloc (by have := BS.out.size; have := hb.size; omega) (.cells #[.int .i64 C, .int .i64 C, .slice q9 (C * C) m9] 26))
        have D1 : Hid (∀ k, (Value.slice qa (R * C) ma).ownBlock = some k → (Value.slice q9 (C * C) m9).ownBlock ≠ some k) := fun k hk e => by have h1 := QX.out.fA.lt_of hk; have h2 := own.lt_of e; omega
        have D2 : Hid (∀ k, (Value.slice qu (R * R) mu).ownBlock = some k → (Value.slice q9 (C * C) m9).ownBlock ≠ some k) := fun k hk e => by have h1 := QX.out.fU.lt_of hk; have h2 := own.lt_of e; omega
        have sz8 : Hid (w.heap.size + 3 < w8.heap.size) := by have := PX.out; have := QY.out.k.lt; show _ < _; omega
        have SW8 := BS.out.size
        have SW9 := hb.size
        clear hb own QX QY TU1 WS RS BS c6 c7 c8
        go_upto_region 15 with fail
        obtain ⟨b9, hb9⟩ : ∃ b, w8.heap.size = b := ⟨_, rfl⟩
        rw [hb9] at VK8 sz8 ⊢
        have OV8 := Lib.hid (OV8.out.le (show w.heap.size ≤ _ by omega))
        generalize w8.alloc (.cells #[.int .i64 C, .int .i64 C, .slice q9 (C * C) m9] 26) = W8 at RS8 VK8 QZ OV8 BS8 ⊢
        clear hb9 SW8 SW9
        refine wp_region_T (S := fun w' => Blk9 w' px 57 (.int .i64 R) (.int .i64 C) (.slice qa (R * C) ma) (.int .i64 R) (.int .i64 R) (.slice qu (R * R) mu) (.int .i64 C) (.int .i64 C) (.slice qv (C * C) mv) ∧ Blk3 w' b9 26 (.int .i64 C) (.int .i64 C) (.slice q9 (C * C) m9)) (T := fun _ => false) (by kernel_rfl) ⟨QZ.out.k, VK8.out.drew⟩ (fun hH => ?_)
        have OA := Lib.hid (QZ.out.fA.moveA (w' := W8.drew) fun _ _ => rfl)
        have OU := Lib.hid (QZ.out.fU.moveA (w' := W8.drew) fun _ _ => rfl)
        have OV := Lib.hid (OV8.out.moveA (w' := W8.drew) fun _ _ => rfl)
        have R6 : Hid (Res3 _ _ _ _ _ _ _ _ _ _ W8.drew) := Lib.hid ⟨RS8.out.a.drew, RS8.out.b.drew, RS8.out.c.drew⟩
        have B6 := Lib.hid BS8.out.drew
        have DD := Lib.hid QZ.out.df
        generalize W8.drew = v0 at hH R6 B6 OA OU OV ⊢
        clear RS8 BS8 OV8 VK8 QZ
        refine wpAnyT_take (i := 0) (v := ?_) (by simp only [List.getElem?_toArray, List.getElem?_cons_zero]; rfl) (by kernel_rfl) (by kernel_rfl) (by kernel_rfl) (by kernel_rfl) (fun _ hj => by cases hj) (by exact fun _ _ _ h => h) (Or.inl ⟨by rfl, ?_⟩) hH ?_
        rotate_left
        · (intro wS hS; clear hS; go_simp; try rfl)
        try simp only [Act.put, List.setIfInBounds_toArray, List.set_cons_zero, List.set_cons_succ]
        refine wpAnyT_take (i := 1) (v := ?_) (by simp only [List.getElem?_toArray, List.getElem?_cons_succ, List.getElem?_cons_zero]; rfl) (by kernel_rfl) (by kernel_rfl) (by kernel_rfl) (by kernel_rfl) (fun _ hj => by cases hj) (by exact fun _ _ _ h => h) (Or.inl ⟨by rfl, ?_⟩) hH ?_
        rotate_left
        · (intro wS hS; clear hS; go_simp; try rfl)
        try simp only [Act.put, List.setIfInBounds_toArray, List.set_cons_zero, List.set_cons_succ]
        refine wpAnyT_take (i := 2) (v := ?_) (by simp only [List.getElem?_toArray, List.getElem?_cons_succ, List.getElem?_cons_zero]; rfl) (by kernel_rfl) (by kernel_rfl) (by kernel_rfl) (by kernel_rfl) (fun _ hj => by cases hj) (by exact fun _ _ _ h => h) (Or.inl ⟨by rfl, ?_⟩) hH ?_
        rotate_left
        · (intro wS hS; clear hS; go_simp; try rfl)
        try simp only [Act.put, List.setIfInBounds_toArray, List.set_cons_zero, List.set_cons_succ]
        refine wpAnyT_take (i := 3) (v := ?_) (by simp only [List.getElem?_toArray, List.getElem?_cons_succ, List.getElem?_cons_zero]; rfl) (by kernel_rfl) (by kernel_rfl) (by kernel_rfl) (by kernel_rfl) (fun _ hj => by cases hj) (by exact fun _ _ _ h => h) (Or.inl ⟨by rfl, ?_⟩) hH ?_
        rotate_left
        · (intro wS hS; (try dsimp only at hS); obtain ⟨k1, k2, k3, k4, k5, k6, k7, k8, k9⟩ := hS.1.all; go_simp; try rfl)
        try simp only [Act.put, List.setIfInBounds_toArray, List.set_cons_zero, List.set_cons_succ]
        refine wpAnyT_take (i := 4) (v := ?_) (by simp only [List.getElem?_toArray, List.getElem?_cons_succ, List.getElem?_cons_zero]; rfl) (by kernel_rfl) (by kernel_rfl) (by kernel_rfl) (by kernel_rfl) (fun _ hj => by cases hj) (by exact fun _ _ _ h => h) (Or.inl ⟨by rfl, ?_⟩) hH ?_
        rotate_left
        · (intro wS hS; clear hS; go_simp; try rfl)
        try simp only [Act.put, List.setIfInBounds_toArray, List.set_cons_zero, List.set_cons_succ]
        refine wpAnyT_take (i := 5) (v := ?_) (by simp only [List.getElem?_toArray, List.getElem?_cons_succ, List.getElem?_cons_zero]; rfl) (by kernel_rfl) (by kernel_rfl) (by kernel_rfl) (by kernel_rfl) (fun _ hj => by cases hj) (by exact fun _ _ _ h => h) (Or.inl ⟨by rfl, ?_⟩) hH ?_
        rotate_left
        · (intro wS hS; clear hS; go_simp; try rfl)
        try simp only [Act.put, List.setIfInBounds_toArray, List.set_cons_zero, List.set_cons_succ]
        refine wpAnyT_take (i := 6) (v := ?_) (by simp only [List.getElem?_toArray, List.getElem?_cons_succ, List.getElem?_cons_zero]; rfl) (by kernel_rfl) (by kernel_rfl) (by kernel_rfl) (by kernel_rfl) (fun _ hj => by cases hj) (by exact fun _ _ _ h => h) (Or.inl ⟨by rfl, ?_⟩) hH ?_
        rotate_left
        · (intro wS hS; clear hS; go_simp; try rfl)
        try simp only [Act.put, List.setIfInBounds_toArray, List.set_cons_zero, List.set_cons_succ]
        refine wpAnyT_take (i := 7) (v := ?_) (by simp only [List.getElem?_toArray, List.getElem?_cons_succ, List.getElem?_cons_zero]; rfl) (by kernel_rfl) (by kernel_rfl) (by kernel_rfl) (by kernel_rfl) (fun _ hj => by cases hj) (by exact fun _ _ _ h => h) (Or.inl ⟨by rfl, ?_⟩) hH ?_
        rotate_left
        · (intro wS hS; (try dsimp only at hS); obtain ⟨k1, k2, k3, k4, k5, k6, k7, k8, k9⟩ := hS.1.all; go_simp; try rfl)
        try simp only [Act.put, List.setIfInBounds_toArray, List.set_cons_zero, List.set_cons_succ]
        refine wpAnyT_take (i := 8) (v := ?_) (by simp only [List.getElem?_toArray, List.getElem?_cons_succ, List.getElem?_cons_zero]; rfl) (by kernel_rfl) (by kernel_rfl) (by kernel_rfl) (by kernel_rfl) (fun _ hj => by cases hj) (by exact fun _ _ _ h => h) (Or.inl ⟨by rfl, ?_⟩) hH ?_
        rotate_left
        · (intro wS hS; (try dsimp only at hS); obtain ⟨k1, k2, k3, -, -, -⟩ := hS.2.all; go_simp; try rfl)
        try simp only [Act.put, List.setIfInBounds_toArray, List.set_cons_zero, List.set_cons_succ]
        refine wpAnyT_ready (rs := [9]) (by kernel_rfl) (by simp) ?_
        refine AllReadyT.cons (by simp only [List.getElem?_toArray, List.getElem?_cons_succ, List.getElem?_cons_zero]; rfl) (fun K hK => ?_) AllReadyT.nil
        obtain ⟨r0, r1, r2, f0, f1, f2⟩ := R6.out.a.all
        go_simp
        try dsimp only
        have hN := And.intro (show Blk9 (((v0.setCell ⟨w.heap.size + 1, 0, none⟩ (.int .i64 R)).setCell ⟨w.heap.size + 1, 1, none⟩ (.int .i64 C)).setCell ⟨w.heap.size + 1, 2, none⟩ (.slice qa (R * C) ma)) px 57 (.int .i64 R) (.int .i64 C) (.slice qa (R * C) ma) (.int .i64 R) (.int .i64 R) (.slice qu (R * R) mu) (.int .i64 C) (.int .i64 C) (.slice qv (C * C) mv) from hH.1.move (put3_far (w := v0) (k := px) (b := w.heap.size + 1) (o := 0) (x := .int .i64 R) (y := .int .i64 C) (v := .slice qa (R * C) ma) (by have := PX.out; omega))) (hH.2.farK (b := w.heap.size + 1) (u1 := .int .i64 R) (u2 := .int .i64 C) (u3 := .slice qa (R * C) ma) (by have := sz8.out; omega))
        have R7 := Lib.hid (R6.out.put1 (u1 := .int .i64 R) (u2 := .int .i64 C) (u3 := .slice qa (R * C) ma))
        have B7 := Lib.hid (belowK (b := w.heap.size + 1) (u1 := .int .i64 R) (u2 := .int .i64 C) (u3 := .slice qa (R * C) ma) B6.out (by omega))
        have PA := Lib.hid (OA.out.setA (b := w.heap.size + 1) (OA.out.ne_box R6.out.a) (.int .i64 R) (.int .i64 C) (.slice qa (R * C) ma))
        have PU := Lib.hid (OU.out.setA (b := w.heap.size + 1) (OU.out.ne_box R6.out.a) (.int .i64 R) (.int .i64 C) (.slice qa (R * C) ma))
        have PV := Lib.hid (OV.out.setA (b := w.heap.size + 1) (OV.out.ne_box R6.out.a) (.int .i64 R) (.int .i64 C) (.slice qa (R * C) ma))
        refine hK.out _ _ (fun _ => hN) ?_
        clear hK K r0 r1 r2 f0 f1 f2 hH R6 B6 OA OU OV
        try simp only [Act.put, List.setIfInBounds_toArray, List.set_cons_zero, List.set_cons_succ]
        try simp only [show w.heap.size + 1 + 1 = w.heap.size + 2 from rfl, show w.heap.size + 1 + 1 + 1 = w.heap.size + 3 from rfl]
        generalize (((v0.setCell ⟨w.heap.size + 1, 0, none⟩ (.int .i64 R)).setCell ⟨w.heap.size + 1, 1, none⟩ (.int .i64 C)).setCell ⟨w.heap.size + 1, 2, none⟩ (.slice qa (R * C) ma)) = v0 at hN R7 B7 PA PU PV ⊢
        have hH := hN
        have R6 := R7
        have B6 := B7
        have OA := PA
        have OU := PU
        have OV := PV
        clear hN R7 B7 PA PU PV
        refine wpAnyT_ready (rs := [10]) (by kernel_rfl) (by simp) ?_
        refine AllReadyT.cons (by simp only [List.getElem?_toArray, List.getElem?_cons_succ, List.getElem?_cons_zero]; rfl) (fun K hK => ?_) AllReadyT.nil
        obtain ⟨r0, r1, r2, f0, f1, f2⟩ := R6.out.b.all
        go_simp
        try dsimp only
        have hN := And.intro (show Blk9 (((v0.setCell ⟨w.heap.size + 2, 0, none⟩ (.int .i64 R)).setCell ⟨w.heap.size + 2, 1, none⟩ (.int .i64 R)).setCell ⟨w.heap.size + 2, 2, none⟩ (.slice qu (R * R) mu)) px 57 (.int .i64 R) (.int .i64 C) (.slice qa (R * C) ma) (.int .i64 R) (.int .i64 R) (.slice qu (R * R) mu) (.int .i64 C) (.int .i64 C) (.slice qv (C * C) mv) from hH.1.move (put3_far (w := v0) (k := px) (b := w.heap.size + 2) (o := 0) (x := .int .i64 R) (y := .int .i64 R) (v := .slice qu (R * R) mu) (by have := PX.out; omega))) (hH.2.farK (b := w.heap.size + 2) (u1 := .int .i64 R) (u2 := .int .i64 R) (u3 := .slice qu (R * R) mu) (by have := sz8.out; omega))
        have R7 := Lib.hid (R6.out.put2 (u1 := .int .i64 R) (u2 := .int .i64 R) (u3 := .slice qu (R * R) mu))
        have B7 := Lib.hid (belowK (b := w.heap.size + 2) (u1 := .int .i64 R) (u2 := .int .i64 R) (u3 := .slice qu (R * R) mu) B6.out (by omega))
        have PA := Lib.hid (OA.out.setA (b := w.heap.size + 2) (OA.out.ne_box R6.out.b) (.int .i64 R) (.int .i64 R) (.slice qu (R * R) mu))
        have PU := Lib.hid (OU.out.setA (b := w.heap.size + 2) (OU.out.ne_box R6.out.b) (.int .i64 R) (.int .i64 R) (.slice qu (R * R) mu))
        have PV := Lib.hid (OV.out.setA (b := w.heap.size + 2) (OV.out.ne_box R6.out.b) (.int .i64 R) (.int .i64 R) (.slice qu (R * R) mu))
        refine hK.out _ _ (fun _ => hN) ?_
        clear hK K r0 r1 r2 f0 f1 f2 hH R6 B6 OA OU OV
        try simp only [Act.put, List.setIfInBounds_toArray, List.set_cons_zero, List.set_cons_succ]
        try simp only [show w.heap.size + 1 + 1 = w.heap.size + 2 from rfl, show w.heap.size + 1 + 1 + 1 = w.heap.size + 3 from rfl]
        generalize (((v0.setCell ⟨w.heap.size + 2, 0, none⟩ (.int .i64 R)).setCell ⟨w.heap.size + 2, 1, none⟩ (.int .i64 R)).setCell ⟨w.heap.size + 2, 2, none⟩ (.slice qu (R * R) mu)) = v0 at hN R7 B7 PA PU PV ⊢
        have hH := hN
        have R6 := R7
        have B6 := B7
        have OA := PA
        have OU := PU
        have OV := PV
        clear hN R7 B7 PA PU PV
        refine wpAnyT_ready (rs := [11]) (by kernel_rfl) (by simp) ?_
        refine AllReadyT.cons (by simp only [List.getElem?_toArray, List.getElem?_cons_succ, List.getElem?_cons_zero]; rfl) (fun K hK => ?_) AllReadyT.nil
        obtain ⟨r0, r1, r2, f0, f1, f2⟩ := R6.out.c.all
        go_simp
        try dsimp only
        have hN := And.intro (show Blk9 (((v0.setCell ⟨w.heap.size + 3, 0, none⟩ (.int .i64 C)).setCell ⟨w.heap.size + 3, 1, none⟩ (.int .i64 C)).setCell ⟨w.heap.size + 3, 2, none⟩ (.slice q9 (C * C) m9)) px 57 (.int .i64 R) (.int .i64 C) (.slice qa (R * C) ma) (.int .i64 R) (.int .i64 R) (.slice qu (R * R) mu) (.int .i64 C) (.int .i64 C) (.slice qv (C * C) mv) from hH.1.move (put3_far (w := v0) (k := px) (b := w.heap.size + 3) (o := 0) (x := .int .i64 C) (y := .int .i64 C) (v := .slice q9 (C * C) m9) (by have := PX.out; omega))) (hH.2.farK (b := w.heap.size + 3) (u1 := .int .i64 C) (u2 := .int .i64 C) (u3 := .slice q9 (C * C) m9) (by have := sz8.out; omega))
        have R7 := Lib.hid (R6.out.put3 (u1 := .int .i64 C) (u2 := .int .i64 C) (u3 := .slice q9 (C * C) m9))
        have B7 := Lib.hid (belowK (b := w.heap.size + 3) (u1 := .int .i64 C) (u2 := .int .i64 C) (u3 := .slice q9 (C * C) m9) B6.out (by omega))
        have PA := Lib.hid (OA.out.setA (b := w.heap.size + 3) (OA.out.ne_box R6.out.c) (.int .i64 C) (.int .i64 C) (.slice q9 (C * C) m9))
        have PU := Lib.hid (OU.out.setA (b := w.heap.size + 3) (OU.out.ne_box R6.out.c) (.int .i64 C) (.int .i64 C) (.slice q9 (C * C) m9))
        have PV := Lib.hid (OV.out.setA (b := w.heap.size + 3) (OV.out.ne_box R6.out.c) (.int .i64 C) (.int .i64 C) (.slice q9 (C * C) m9))
        refine hK.out _ _ (fun _ => hN) ?_
        clear hK K r0 r1 r2 f0 f1 f2 hH R6 B6 OA OU OV
        try simp only [Act.put, List.setIfInBounds_toArray, List.set_cons_zero, List.set_cons_succ]
        try simp only [show w.heap.size + 1 + 1 = w.heap.size + 2 from rfl, show w.heap.size + 1 + 1 + 1 = w.heap.size + 3 from rfl]
        generalize (((v0.setCell ⟨w.heap.size + 3, 0, none⟩ (.int .i64 C)).setCell ⟨w.heap.size + 3, 1, none⟩ (.int .i64 C)).setCell ⟨w.heap.size + 3, 2, none⟩ (.slice q9 (C * C) m9)) = v0 at hN R7 B7 PA PU PV ⊢
        have hH := hN
        have R6 := R7
        have B6 := B7
        have OA := PA
        have OU := PU
        have OV := PV
        clear hN R7 B7 PA PU PV
        refine wpAnyT_ready (rs := [12]) (by kernel_rfl) (by simp) ?_
        refine AllReadyT.cons (by simp only [List.getElem?_toArray, List.getElem?_cons_succ, List.getElem?_cons_zero]; rfl) (fun K hK => ?_) AllReadyT.nil
        go_simp
        try dsimp only
        refine hK.out _ _ (fun _ => hH) ?_
        clear hK K
        try simp only [Act.put, List.setIfInBounds_toArray, List.set_cons_zero, List.set_cons_succ]
        refine wpAnyT_done (by kernel_rfl) ?_ _
        go_wp2_with fail
        obtain ⟨E0, E1, E2⟩ := R6.out.all
        obtain ⟨E3, E4, E5⟩ := E1
        obtain ⟨E6, E7, E8⟩ := E2
        obtain ⟨E0, E1, E2⟩ := E0
        rw [V.out]
        exact bodyPost_ret (v := .tuple #[.agg #[.int .i64 R, .int .i64 C, .slice qa (R * C) ma], .agg #[.int .i64 R, .int .i64 R, .slice qu (R * R) mu], .agg #[.int .i64 C, .int .i64 C, .slice q9 (C * C) m9], .bool true]) (by simp [results, Try.results17, go_sem, E0, E1, E2, E3, E4, E5, E6, E7, E8]) rfl ⟨.slice qa (R * C) ma, .slice qu (R * R) mu, .slice q9 (C * C) m9, rfl, OA.out, OU.out, OV.out, DD.out, D1.out, D2.out, B6.out⟩
      obtain ⟨e1, e2, e3⟩ := lc_some hP.eq
      rw [e1, e2, e3] at LC1
      have MP1 := Lib.hid (fun w' q1 => MP.out M px t s w' q1 htR htC FN.out IN.out (by rw [hP.eq]; simp))
      obtain ⟨LF, hLF⟩ : ∃ LF, loopS R C t (fu0 R C t s) s = LF := ⟨_, rfl⟩
      have XN : Hid (LF = none → X = none) := fun h => by rw [EX.out]; exact outS_none (by rw [hLF, h])
      have XT : Hid (∀ u, LF = some (u, true) → X = outS R C m0 (t + 1) (ng3 R C t u)) := fun u h => by rw [EX.out]; exact outS_true (by rw [hLF, h])
      have NS : Hid (∀ u, LF = some (u, true) → Fin3 R C M (ng3 R C t u) ∧ SmI R C (mxC C (ng3 R C t u).1) (t + 1)) := fun u h => by
        obtain ⟨g1, g2, -, g4⟩ := loopS_says htR htC _ s FN.out IN.out (hLF.trans h)
        obtain ⟨g5, g6, g7, g8⟩ := g4 rfl
        exact ng3_says g1 g2 htR htC g5 g6 g7 g8
      rw [hLF] at MP1
      clear EX e1 e2 e3 hP hLF
      go_wp2_with fail
      refine LC1.out.mono ?_
      rintro e w6 ⟨rfl, hb⟩
      have WS6 := Lib.hid (WS.out.step hb)
      have RS6 := Lib.hid (RS.out.step hb)
      have BS6 := Lib.hid (BS.out.trans (hb.mono BS.out.size))
      clear hb LC1 WS RS BS c0 c1 c2
      go_wp2_with fail
      refine (MP1.out _ WS6.out).mono ?_
      rintro e w7 ⟨hf, hx⟩
      have RS7 := Lib.hid (RS6.out.frs hf (fun k hk => by have := PX.out; omega))
      have BS7 := Lib.hid (BS6.out.trans (hf.below (B := w.heap.size) (fun k hk => by have := PX.out; omega) BS6.out.size))
      clear hf MP1 WS6 RS6 BS6
      rcases hx with ⟨hn, rfl⟩ | ⟨u, hu, rfl, hw⟩
      · have V := Lib.hid (XN.out hn)
        clear hn
        obtain ⟨r0, r1, r2, f0, f1, f2⟩ := RS7.out.a.all
        obtain ⟨e0, e1, e2, l0, l1, l2⟩ := RS7.out.b.all
        obtain ⟨g0, g1, g2, m0, m1, m2⟩ := RS7.out.c.all
        go_wp2_with fail
        obtain ⟨E0, E1, E2⟩ := RS7.out.zero.all
        obtain ⟨E3, E4, E5⟩ := E1
        obtain ⟨E6, E7, E8⟩ := E2
        obtain ⟨E0, E1, E2⟩ := E0
        refine bodyPost_ret (v := .tuple #[.agg #[.int .i64 0, .int .i64 0, .slice none 0 0], .agg #[.int .i64 0, .int .i64 0, .slice none 0 0], .agg #[.int .i64 0, .int .i64 0, .slice none 0 0], .bool false]) (by simp [results, Try.results17, go_sem, E0, E1, E2, E3, E4, E5, E6, E7, E8]) rfl ?_
        rw [V.out]
        exact ⟨_, _, _, rfl, .inl ⟨rfl, rfl⟩, .inl ⟨rfl, rfl⟩, .inl ⟨rfl, rfl⟩, fun k hk => by simp [Value.ownBlock] at hk, fun k hk => by simp [Value.ownBlock] at hk, fun k hk => by simp [Value.ownBlock] at hk, belowK (belowK (belowK BS7.out (by omega)) (by omega)) (by omega)⟩
      · have W7 := Lib.hid hw
        obtain ⟨g1, g2⟩ := NS.out u hu
        have F2 := Lib.hid g1
        have I2 := Lib.hid g2
        have X2 := Lib.hid (XT.out u hu)
        clear g1 g2 hw hu XN XT NS
        go_wp2_with fail
        go_roundw
        case rel => exact ⟨t + 1, ng3 R C t u, by go_num, by omega, F2.out, I2.out, by rw [EM.out]; exact X2.out, W7.out, RS7.out, BS7.out⟩
        case measure => simp [intOf]; omega
end Go.Proofs.Ytpelnfenfeoeeaa
end
