/-
  Texts of this seat, joined: MdS · FrB · Stp · Row2 · Row2n · RdCells · Shelf · CloneI · RdS · AppI · PrI · PrI2 · RgX · Blk1 · WoMath · RowsOwn · Wo · Det3 · DetL · DetS
-/
import Derived.StillTailTactics
import Derived.Maps.AppendAt
import Derived.OwnWalk
import Derived.Deep.RegionHeld3
import Derived.Deep.DeepCutAuto
import Derived.Ground.Names2Prog
import Derived.Shelf.Slices.Clone
import Derived.Test.YtncplikadacjnaaProg
import Derived.RangeFuncNested
import Derived.RangeFuncBound
import Derived.RangeFuncCalls
import Derived.RangeFuncLeaves
import Derived.Shelf.Abstract
import Derived.WalkKit
import Derived.OwnWalkIn
import Derived.TacticsInMore
import Derived.LoopNIn
import Derived.LoopIn
import Derived.IntWalk
import Derived.Test.YtncplikadacjnaaPk1
import Derived.Test.YtncplikadacjnaaPk2

section
/-
  Chapter 8, in the model: residues from 0 on, IsPrime, InverseModulo.
-/
namespace Go.Proofs.Ytncplikadacjnaa
set_option maxRecDepth 100000
open Go.RowKit

theorem tmod_in {n p : Int} (hp : 0 < p) : -p < n.tmod p ∧ n.tmod p < p := by
  refine ⟨?_, Int.tmod_lt_of_pos n hp⟩
  have h1 := Int.tmod_lt_of_pos (-n) hp
  rw [Int.neg_tmod] at h1
  omega
theorem sMod (n p : Int) (w : World) (hp : 0 < p) (hp2 : p ≤ 1000000000) :
    Calls Try.prog 70 #[.int .i64 n, .int .i64 p] w fun e w' => e = .returned (.int .i64 (n % p)) ∧ w = w' := by
  have t1 := tmod_in (n := n) hp
  have E : Hid ((n.tmod p + p) % p = n % p) := by
    show _ = _
    rw [← mod_go (n := n) hp, Int.tmod_eq_emod_of_nonneg (a := n.tmod p + p) (by omega)]
  have h0 : (p == 0) = false := by simp; omega
  go_enter Try.func70, Try.ntmps70
  go_wp2_with fail
  go_ret
  exact ⟨by show Ending.returned (Value.int .i64 ((n.tmod p + p) % p)) = _; rw [E.out], rfl⟩
theorem sPrime (p : Int) (w : World) : Calls Try.prog 27 #[.int .i64 p] w fun e w' => e = .returned (.bool (prmB p)) ∧ w = w' := by
  by_cases h : 2 ≤ p ∧ p ≤ 10000
  · have FB : Hid (∀ d : Nat, 2 ≤ d → (d : Int) * (d : Int) ≤ p → (d : Int) ∣ p → prmB p = false) := fun d => prmB_div
    have FT : Hid ((∀ d : Nat, 2 ≤ d → (d : Int) * (d : Int) ≤ p → ¬ (d : Int) ∣ p) → prmB p = true) := prmB_true h
    generalize prmB p = b at FB FT ⊢
    obtain ⟨h1, h2⟩ := h
    go_enter Try.func27, Try.ntmps27
    go_wp2_with fail
    refine (sIn_t p 2 10000 _ h1 h2).mono ?_
    rintro e w' ⟨rfl, rfl⟩
    go_wp2_with fail
    go_loopw [3] (fun v3 wr => ∃ d : Nat, v3 = .int .i64 d ∧ 2 ≤ d ∧ d ≤ 101 ∧ (∀ k : Nat, 2 ≤ k → k < d → (k : Int) * (k : Int) ≤ p → ¬ (k : Int) ∣ p) ∧ wr = w) (fun v3 _ => 200 - (intOf v3).toNat)
    case atStart => exact ⟨2, rfl, by omega, by omega, fun k _ h => by omega, rfl⟩
    case round =>
      obtain ⟨d, rfl, d1, d2, hd, rfl⟩ := hrel
      have HD := Lib.hid hd
      clear hd
      have q0 : (d : Int) * (d : Int) = ((d * d : Nat) : Int) := (Int.natCast_mul _ _).symm
      have q1 : d * d ≤ 101 * 101 := Nat.mul_le_mul d2 d2
      have Q := Lib.hid q0
      obtain ⟨q, hq⟩ : ∃ q, d * d = q := ⟨_, rfl⟩
      have HQ := Lib.hid hq
      rw [hq] at q0 q1
      have w1 : IntKind.i64.wrap ((d : Int) * (d : Int)) = (q : Int) := by rw [q0]; exact IntWalk.i64_in _ (by omega)
      clear q0 hq
      by_cases hp : (q : Int) ≤ p
      · have d3 : d ≤ 100 := by
          rcases Nat.lt_or_ge 100 d with h | h
          · have : 101 * 101 ≤ d * d := Nat.mul_le_mul h h
            have := HQ.out
            omega
          · exact h
        have n0 : ((d : Int) == 0) = false := by simp; omega
        have X : Hid ((d : Int) ∣ p ↔ p % (d : Int) = 0) := ⟨Int.emod_eq_zero_of_dvd, Int.dvd_of_emod_eq_zero⟩
        by_cases h0 : p % (d : Int) = 0
        · have n1 : (p % (d : Int) == 0) = true := by simp [h0]
          have R : Hid (b = false) := FB.out d d1 (by rw [Q.out, HQ.out]; exact hp) (X.out.mpr h0)
          clear h0
          go_wp2_with fail
          go_ret
          exact ⟨by rw [R.out]; rfl, rfl⟩
        · have n1 : (p % (d : Int) == 0) = false := by simpa using h0
          have ND : Hid (¬ (d : Int) ∣ p) := fun hdv => h0 (X.out.mp hdv)
          have HD2 : Hid (∀ k : Nat, 2 ≤ k → k < d + 1 → (k : Int) * (k : Int) ≤ p → ¬ (k : Int) ∣ p) := fun k k1 k2 k3 => by
            rcases Nat.lt_or_ge k d with h | h
            · exact HD.out k k1 h k3
            · obtain rfl : k = d := by omega
              exact ND.out
          clear h0
          go_wp2_with fail
          go_roundw
          case rel => exact ⟨d + 1, by go_num, by omega, by omega, HD2.out, trivial⟩
          case measure => simp [intOf]; omega
      · have R : Hid (b = true) := FT.out fun k k1 k2 => by
          rcases Nat.lt_or_ge k d with h | h
          · exact HD.out k k1 h k2
          · have h3 : d * d ≤ k * k := Nat.mul_le_mul h h
            have h4 := HQ.out
            rw [← Int.natCast_mul] at k2
            have h5 : ((d * d : Nat) : Int) ≤ ((k * k : Nat) : Int) := Int.ofNat_le.mpr h3
            rw [h4] at h5
            omega
        go_wp2_with fail
        go_ret
        exact ⟨by rw [R.out]; rfl, rfl⟩
  · have E : Hid (prmB p = false) := prmB_out (by omega)
    have h' : p < 2 ∨ 10000 < p := by omega
    clear h
    go_enter Try.func27, Try.ntmps27
    go_wp2_with fail
    refine (sIn_f p 2 10000 _ h').mono ?_
    rintro e w' ⟨rfl, rfl⟩
    go_wp2_with fail
    go_ret
    exact ⟨by rw [E.out]; rfl, rfl⟩
theorem ivM_no1 {p a : Int} (h : prmB p = false) : ivM p a = (0, false) := by unfold ivM; rw [h]; rfl
theorem ivM_no2 {p a : Int} (h : ¬ NumP a) : ivM p a = (0, false) := by unfold ivM; rw [decide_eq_false h, Bool.and_false, Bool.false_and]; rfl
theorem ivM_no3 {p a : Int} (h : a % p = 0) : ivM p a = (0, false) := by unfold ivM; rw [decide_eq_false (by omega : ¬ a % p ≠ 0), Bool.and_false]; rfl
theorem ivM_yes {p a y : Int} (h1 : prmB p = true) (h2 : NumP a) (h : a % p = y) (h3 : y ≠ 0) : ivM p a = (invF p y, true) := by
  unfold ivM
  rw [h1, decide_eq_true h2, h, decide_eq_true h3]; rfl
/-- The combination that ExtendedGcd makes of a residue that is not 0 and the prime. -/
theorem ext_res {p y : Int} (hp : Prm p) (hp2 : p ≤ 10000) (h0 : 0 ≤ y) (hy : y < p) (hn : y ≠ 0) : ∃ x z : Int, egAns y p = (1, x, z) ∧ invF p y = x % p ∧ -400000000 ≤ x ∧ x ≤ 400000000 := by
  have hp1 := hp.1
  obtain ⟨x, z, e, hxz, b1, b2, -, -⟩ := egAns_is y p ⟨by omega, by omega⟩ ⟨by omega, by omega⟩
  have hg : (Int.gcd y p : Int) = 1 := by have := hp.gcd (can_nd ⟨h0, hy⟩ hn); omega
  rw [hg] at e hxz
  exact ⟨x, z, e, invF_ext hp hxz rfl, b1, b2⟩
theorem sInvM (a p : Int) (w : World) : Calls Try.prog 35 #[.int .i64 a, .int .i64 p] w fun e w' => e = .returned (.tuple #[.int .i64 (ivM p a).1, .bool (ivM p a).2]) ∧ ∃ n, w' = w.drewN n := by
  have W0 : Hid (∃ n, w = w.drewN n) := ⟨0, rfl⟩
  rcases Bool.eq_false_or_eq_true (prmB p) with h1 | h1
  · obtain ⟨hp, hp2⟩ := prmB_says h1
    have hp1 := hp.1
    have P1 := Lib.hid h1
    by_cases h2 : NumP a
    · obtain ⟨y, hy⟩ : ∃ y, a % p = y := ⟨_, rfl⟩
      have Y := Lib.hid hy
      by_cases h3 : y = 0
      · have V : Hid (ivM p a = (0, false)) := ivM_no3 (by rw [hy, h3])
        have n3 : (y == 0) = true := by simp [h3]
        clear h1 h3 hy hp
        go_enter Try.func35, Try.ntmps35
        go_wp2_with fail
        refine (sPrime p _).mono ?_
        rintro e w' ⟨rfl, rfl⟩
        rw [P1.out]
        go_wp2_with fail
        refine (sIsNum_t a _ h2.1 h2.2).mono ?_
        rintro e w' ⟨rfl, rfl⟩
        go_wp2_with fail
        refine (sMod a p _ (by omega) (by omega)).mono ?_
        rintro e w' ⟨rfl, rfl⟩
        rw [Y.out]
        go_wp2_with fail
        exact bodyPost_ret (v := .tuple #[.int .i64 0, .bool false]) (by simp [results, Try.results35, go_sem]) rfl ⟨by rw [V.out], W0.out⟩
      · have V := Lib.hid (ivM_yes h1 h2 hy h3)
        have n3 : (y == 0) = false := by simpa using h3
        have y0 : 0 ≤ y := by rw [← hy]; exact Int.emod_nonneg _ (by omega)
        have y1 : y < p := by rw [← hy]; exact Int.emod_lt_of_pos _ (by omega)
        obtain ⟨x, z, hx, hi, b1, b2⟩ := ext_res hp hp2 y0 y1 h3
        have HI := Lib.hid hi
        have HX : Hid (egVal (egAns y p) = .tuple #[.int .i64 1, .int .i64 x, .int .i64 z, .bool true]) := by show _ = _; rw [hx]; rfl
        clear h1 h3 hy hp hi hx
        go_enter Try.func35, Try.ntmps35
        go_wp2_with fail
        refine (sPrime p _).mono ?_
        rintro e w' ⟨rfl, rfl⟩
        rw [P1.out]
        go_wp2_with fail
        refine (sIsNum_t a _ h2.1 h2.2).mono ?_
        rintro e w' ⟨rfl, rfl⟩
        go_wp2_with fail
        refine (sMod a p _ (by omega) (by omega)).mono ?_
        rintro e w' ⟨rfl, rfl⟩
        rw [Y.out]
        go_wp2_with fail
        refine (sMod a p _ (by omega) (by omega)).mono ?_
        rintro e w' ⟨rfl, rfl⟩
        rw [Y.out]
        go_wp2_with fail
        refine (sExt y p _ ⟨by omega, by omega⟩ ⟨by omega, by omega⟩).mono ?_
        rintro e w' ⟨rfl, n, rfl⟩
        rw [HX.out]
        go_wp2_with fail
        refine (sMod x p _ (by omega) (by omega)).mono ?_
        rintro e w' ⟨rfl, rfl⟩
        go_wp2_with fail
        exact bodyPost_ret (v := .tuple #[.int .i64 (x % p), .bool true]) (by simp [results, Try.results35, go_sem]) rfl ⟨by rw [V.out, ← HI.out], n, rfl⟩
    · have V := Lib.hid (ivM_no2 (p := p) h2)
      have h2' : a < -400000000 ∨ 400000000 < a := by unfold NumP at h2; omega
      clear h1 h2 hp
      go_enter Try.func35, Try.ntmps35
      go_wp2_with fail
      refine (sPrime p _).mono ?_
      rintro e w' ⟨rfl, rfl⟩
      rw [P1.out]
      go_wp2_with fail
      refine (sIsNum_f a _ h2').mono ?_
      rintro e w' ⟨rfl, rfl⟩
      go_wp2_with fail
      exact bodyPost_ret (v := .tuple #[.int .i64 0, .bool false]) (by simp [results, Try.results35, go_sem]) rfl ⟨by rw [V.out], W0.out⟩
  · have V := Lib.hid (ivM_no1 (a := a) h1)
    have P1 := Lib.hid h1
    clear h1
    go_enter Try.func35, Try.ntmps35
    go_wp2_with fail
    refine (sPrime p _).mono ?_
    rintro e w' ⟨rfl, rfl⟩
    rw [P1.out]
    go_wp2_with fail
    exact bodyPost_ret (v := .tuple #[.int .i64 0, .bool false]) (by simp [results, Try.results35, go_sem]) rfl ⟨by rw [V.out], W0.out⟩
end Go.Proofs.Ytncplikadacjnaa
end

section
/-
  Frames: of the blocks that were there only those of a given kind may have changed; rows of ints with their capacity. No function of the program is named.
-/
namespace Go.Proofs.Ytncplikadacjnaa
open Go.RowKit

/-- Of the blocks that were there only those with the property p may have changed. -/
structure FrS (p : Nat → Prop) (w w' : World) : Prop where
  os : w'.os = w.os
  tape : w'.tape = w.tape
  output : w'.output = w.output
  size : w.heap.size ≤ w'.heap.size
  block : ∀ k, k < w.heap.size → ¬ p k → w'.heap[k]? = w.heap[k]?
theorem FrS.refl (p : Nat → Prop) (w : World) : FrS p w w := ⟨rfl, rfl, rfl, Nat.le_refl _, fun _ _ _ => rfl⟩
theorem FrS.trans {p : Nat → Prop} {w w1 w2 : World} (h : FrS p w w1) (h' : FrS p w1 w2) : FrS p w w2 :=
  ⟨h'.os.trans h.os, h'.tape.trans h.tape, h'.output.trans h.output, Nat.le_trans h.size h'.size, fun k hk hp => (h'.block k (Nat.lt_of_lt_of_le hk h.size) hp).trans (h.block k hk hp)⟩
theorem FrS.of_one {p : Nat → Prop} {w w' : World} {g : Nat} (h : w.grownBy w' (some g)) (hp : p g) : FrS p w w' :=
  ⟨h.os, h.tape, h.output, h.size, fun k hk hn => h.block k hk (by rintro e; injection e with e; subst e; exact hn hp)⟩
theorem FrS.of_below {p : Nat → Prop} {w w' : World} (h : Below w.heap.size w w') : FrS p w w' := ⟨h.os, h.tape, h.output, h.size, fun k hk _ => h.block k hk⟩
theorem FrS.drew {p : Nat → Prop} {w w' : World} (h : FrS p w w') : FrS p w w'.drew := ⟨h.os, h.tape, h.output, h.size, h.block⟩
theorem FrS.drewN {p : Nat → Prop} {w w' : World} (h : FrS p w w') (n : Nat) : FrS p w (w'.drewN n) := ⟨h.os, h.tape, h.output, h.size, h.block⟩
theorem FrS.set {p : Nat → Prop} {w w' : World} (h : FrS p w w') {a : Addr} (ha : p a.block ∨ w.heap.size ≤ a.block) (u : Value) : FrS p w (w'.setCell a u) :=
  ⟨h.os, h.tape, h.output, by simpa [World.setCell] using h.size, fun k hk hp => (Below.heap_setCell w' a u k (by rintro rfl; rcases ha with ha | ha; exact hp ha; omega)).trans (h.block k hk hp)⟩
theorem FrS.alloc {p : Nat → Prop} {w w' : World} (h : FrS p w w') (o : Obj) : FrS p w (w'.alloc o) := h.trans (FrS.of_below ((Below.refl _ _).alloc (Nat.le_refl _) o))
theorem FrS.one {w w' : World} {g : Nat} {p : Nat → Prop} (h : FrS p w w') (hp : ∀ k, k < w.heap.size → p k → k = g) : w.grownBy w' (some g) :=
  ⟨h.os, h.tape, h.output, h.size, fun k hk hn => h.block k hk (fun hpk => hn (by rw [hp k hk hpk]))⟩
theorem FrS.below {w w' : World} {B : Nat} {p : Nat → Prop} (h : FrS p w w') (hp : ∀ k, p k → B ≤ k) (hB : B ≤ w.heap.size) : Below B w w' :=
  ⟨h.os, h.tape, h.output, h.size, fun k hk => h.block k (by omega) (fun hpk => by have := hp k hpk; omega)⟩
theorem FrS.mono {p q : Nat → Prop} {w w' : World} (h : FrS p w w') (hq : ∀ k, p k → q k) : FrS q w w' := ⟨h.os, h.tape, h.output, h.size, fun k hk hn => h.block k hk (fun hp => hn (hq k hp))⟩
theorem Blk3.frs {w w' : World} {b : Nat} {t : TypeId} {x y z : Value} {p : Nat → Prop} (h : Blk3 w b t x y z) (hf : FrS p w w') (hb : ¬ p b) : Blk3 w' b t x y z := (hf.block b h.lt hb).trans h
theorem Rd.frs {w w' : World} {a : Option Addr} {zs : List Int} {p : Nat → Prop} (h : Rd w a zs) (hf : FrS p w w') (hb : ∀ b o : Nat, a = some ⟨b, o, none⟩ → ¬ p b) : Rd w' a zs := fun i hi => by
  obtain ⟨b, o, ha, hc⟩ := h i hi
  have hl := World.block_lt_of_cell? w _ hc
  exact ⟨b, o, ha, (World.cell?_of_block (w := w) (hf.block b (by simpa using hl) (hb b o ha))).trans hc⟩
theorem Ints.frs {w w' : World} {g : Nat} {zs : List Int} {p : Nat → Prop} (h : Ints w g zs) (hf : FrS p w w') (hb : ¬ p g) : Ints w' g zs := h.move (hf.block g h.lt hb)
/-- Block g holds cap cells, none of them frozen, and begins with the ints zs. -/
def IntsC (w : World) (g cap : Nat) (zs : List Int) : Prop := cap ≤ maxLen ∧ ∃ rest : List Value, zs.length + rest.length = cap ∧ w.heap[g]? = some (.cells (zs.map (Value.int .i64) ++ rest).toArray 3 (0, 0))
theorem IntsC.ints {w : World} {g cap : Nat} {zs : List Int} (h : IntsC w g cap zs) : Ints w g zs := by
  obtain ⟨_, rest, _, h⟩ := h
  exact ⟨rest, h⟩
theorem IntsC.lt {w : World} {g cap : Nat} {zs : List Int} (h : IntsC w g cap zs) : g < w.heap.size := h.ints.lt
theorem IntsC.le {w : World} {g cap : Nat} {zs : List Int} (h : IntsC w g cap zs) : zs.length ≤ cap := by
  obtain ⟨_, rest, h, _⟩ := h
  omega
theorem IntsC.move {w w' : World} {g cap : Nat} {zs : List Int} (h : IntsC w g cap zs) (e : w'.heap[g]? = w.heap[g]?) : IntsC w' g cap zs := by
  obtain ⟨h0, rest, h1, h2⟩ := h
  exact ⟨h0, rest, h1, e.trans h2⟩
theorem IntsC.frs {w w' : World} {g cap : Nat} {zs : List Int} {p : Nat → Prop} (h : IntsC w g cap zs) (hf : FrS p w w') (hb : ¬ p g) : IntsC w' g cap zs := h.move (hf.block g h.lt hb)
theorem IntsC.drew {w : World} {g cap : Nat} {zs : List Int} (h : IntsC w g cap zs) : IntsC w.drew g cap zs := h
theorem IntsC.old {w : World} {g cap : Nat} {zs : List Int} (h : IntsC w g cap zs) (o : Obj) : IntsC (w.alloc o) g cap zs := h.move (Below.heap_alloc w o g h.lt)
theorem IntsC.far {w : World} {g cap : Nat} {zs : List Int} (h : IntsC w g cap zs) {a : Addr} (ha : g ≠ a.block) (u : Value) : IntsC (w.setCell a u) g cap zs := h.move (Below.heap_setCell w a u g ha)
theorem IntsC.set {w : World} {g cap : Nat} {zs : List Int} (h : IntsC w g cap zs) (i : Nat) (hi : i < zs.length) (z : Int) : IntsC (w.setCell ⟨g, i, none⟩ (.int .i64 z)) g cap (zs.set i z) := by
  obtain ⟨h0, rest, h1, h2⟩ := h
  refine ⟨h0, rest, by simpa using h1, ?_⟩
  simp [World.setCell, Array.getElem?_modify, h2, hi]
theorem IntsC.made {w : World} {g : Nat} (n : Nat) (hn : n ≤ 16777216) (hg : g = w.heap.size) : IntsC (w.alloc (.cells (madeCells #[.int .i64 0] n) 3)) g n (List.replicate n 0) := by
  subst hg
  refine ⟨by unfold maxLen; omega, [], by simp, ?_⟩
  rw [madeCells_ints, List.append_nil]
  exact heap_alloc_new w _
theorem IntsC.row {w : World} {B g cap : Nat} {zs : List Int} (h : IntsC w g cap zs) (hB : B ≤ g) : w.ownsRow B 3 1 (.slice (some ⟨g, 0, none⟩) zs.length cap) zs.length (zs.map (Value.int .i64)) := by
  obtain ⟨h0, rest, h1, h2⟩ := h
  refine ⟨by simp, .inr ⟨g, cap, _, rfl, hB, h2, by omega, h0, by simp; omega, by simp⟩⟩
/-- The slice value v shows the ints zs; it is nil, or it begins a block from B on, of which all is known. -/
def OwnC (B : Nat) (w : World) (v : Value) (zs : List Int) : Prop := (v = .slice none 0 0 ∧ zs = []) ∨ ∃ g cap : Nat, v = .slice (some ⟨g, 0, none⟩) zs.length cap ∧ B ≤ g ∧ IntsC w g cap zs
theorem OwnC.of_row {B : Nat} {w : World} {v : Value} {zs : List Int} (h : w.ownsRow B 3 1 v zs.length (zs.map (Value.int .i64))) : OwnC B w v zs := by
  rcases h.2 with ⟨rfl, h0⟩ | ⟨g, cap, cur, rfl, hB, hg, hc, hm, hs, ht⟩
  · exact .inl ⟨rfl, List.eq_nil_of_length_eq_zero h0⟩
  · refine .inr ⟨g, cap, rfl, hB, hm, cur.toList.drop zs.length, ?_, ?_⟩
    · have : cur.toList.length = cap := by rw [Array.length_toList, hs, Nat.mul_one]
      rw [List.length_drop]; omega
    · rw [hg]
      congr 2
      rw [Nat.mul_one] at ht
      rw [← ht, List.take_append_drop]
theorem OwnC.own {B : Nat} {w : World} {v : Value} {zs : List Int} (h : OwnC B w v zs) (hl : zs.length ≤ 16777216) : Own B w v zs := by
  rcases h with h | ⟨g, cap, hv, hB, hi⟩
  · exact .inl h
  · exact .inr ⟨g, cap, hv, hB, hi.ints, hi.le, hl⟩
theorem OwnC.frs {B : Nat} {w w' : World} {v : Value} {zs : List Int} {p : Nat → Prop} (h : OwnC B w v zs) (hf : FrS p w w') (hp : ∀ k, B ≤ k → ¬ p k) : OwnC B w' v zs := by
  rcases h with h | ⟨g, cap, hv, hB, hi⟩
  · exact .inl h
  · exact .inr ⟨g, cap, hv, hB, hi.frs hf (hp g hB)⟩
theorem OwnC.le {B B' : Nat} {w : World} {v : Value} {zs : List Int} (h : OwnC B w v zs) (hB : B' ≤ B) : OwnC B' w v zs := by
  rcases h with h | ⟨g, cap, hv, hg, hi⟩
  · exact .inl h
  · exact .inr ⟨g, cap, hv, by omega, hi⟩
end Go.Proofs.Ytncplikadacjnaa
end

section
/-
  Steps inside a region that draws: append of ints; frames of three stores. No function of the program is named.
-/
namespace Go.Proofs.Ytncplikadacjnaa
set_option maxRecDepth 100000
open Go.RowKit

theorem news_ints (ys : List Int) (j : Nat) (u : Value) (h : (ys.map (Value.int .i64))[j]? = some u) : j < ys.length ∧ u = .int .i64 (ys.getD j 0) := by
  rw [List.getElem?_map] at h
  obtain ⟨z, hz, rfl⟩ := Option.map_eq_some_iff.mp h
  obtain ⟨h1, h2⟩ := List.getElem?_eq_some_iff.mp hz
  exact ⟨h1, by simp [List.getD, hz]⟩

theorem FrS.mono2 {p q : Nat → Prop} {w w' : World} (h : FrS p w w') (hq : ∀ k, k < w.heap.size → p k → q k) : FrS q w w' := ⟨h.os, h.tape, h.output, h.size, fun k hk hn => h.block k hk (fun hp => hn (hq k hk hp))⟩
theorem FrS.set3 {p : Nat → Prop} {w w' : World} {b : Nat} (h : FrS p w w') (hb : p b ∨ w.heap.size ≤ b) (x y z : Value) : FrS p w (((w'.setCell ⟨b, 0, none⟩ x).setCell ⟨b, 1, none⟩ y).setCell ⟨b, 2, none⟩ z) := ((h.set hb x).set hb y).set hb z
theorem Blk3.set3 {w : World} {b : Nat} {t : TypeId} {p q r : Value} (h : Blk3 w b t p q r) (x y z : Value) : Blk3 (((w.setCell ⟨b, 0, none⟩ x).setCell ⟨b, 1, none⟩ y).setCell ⟨b, 2, none⟩ z) b t x y z := ((h.set0 x).set1 y).set2 z
theorem Blk3.far3 {w : World} {b c : Nat} {t : TypeId} {p q r : Value} (h : Blk3 w b t p q r) (hne : b ≠ c) (x y z : Value) : Blk3 (((w.setCell ⟨c, 0, none⟩ x).setCell ⟨c, 1, none⟩ y).setCell ⟨c, 2, none⟩ z) b t p q r := ((h.far (a := ⟨c, 0, none⟩) hne x).far (a := ⟨c, 1, none⟩) hne y).far (a := ⟨c, 2, none⟩) hne z
/-- Two matrices of whatever kind are returned; of what was there nothing has changed. -/
theorem OwnC.frs2 {B : Nat} {w w' : World} {v : Value} {zs : List Int} {p : Nat → Prop} (h : OwnC B w v zs) (hf : FrS p w w') (hp : ∀ k, B ≤ k → k < w.heap.size → ¬ p k) : OwnC B w' v zs := by
  rcases h with h | ⟨g, cap, hv, hB, hi⟩
  · exact .inl h
  · exact .inr ⟨g, cap, hv, hB, hi.frs hf (hp g hB hi.lt)⟩
theorem OwnC.frsN {B n qc : Nat} {q : Option Addr} {w w' : World} {zs : List Int} {p : Nat → Prop} (h : OwnC B w (.slice q n qc) zs) (hf : FrS p w w') (hp : ∀ g0 : Nat, q = some ⟨g0, 0, none⟩ → ¬ p g0) : OwnC B w' (.slice q n qc) zs := by
  rcases h with h | ⟨g, cap, hv, hB, hi⟩
  · exact .inl h
  · refine .inr ⟨g, cap, hv, hB, hi.frs hf (hp g ?_)⟩
    injection hv
theorem FrS.transR {p q : Nat → Prop} {w w1 w2 : World} (h : FrS p w w1) (h' : FrS q w1 w2) (hq : ∀ k, k < w.heap.size → q k → p k) : FrS p w w2 :=
  ⟨h'.os.trans h.os, h'.tape.trans h.tape, h'.output.trans h.output, Nat.le_trans h.size h'.size, fun k hk hp => (h'.block k (Nat.lt_of_lt_of_le hk h.size) (fun hqk => hp (hq k hk hqk))).trans (h.block k hk hp)⟩
theorem ownBlock_ge {w : World} {base n k : Nat} {e : TypeId} {size : Nat} {v : Value} {xs : List Value} (h : w.ownsRow base e size v n xs) (hk : v.ownBlock = some k) : base ≤ k := by
  rcases h.2 with ⟨rfl, -⟩ | ⟨g, cap, cur, rfl, hB, -⟩
  · cases hk
  · simp [Value.ownBlock] at hk; omega
theorem Own.far {B : Nat} {w : World} {v : Value} {zs : List Int} (h : Own B w v zs) {a : Addr} (ha : a.block < B) (u : Value) : Own B (w.setCell a u) v zs := by
  rcases h with h | ⟨g, cap, hv, hB, hi, hl, hc⟩
  · exact .inl h
  · exact .inr ⟨g, cap, hv, hB, hi.far (by omega) u, hl, hc⟩
theorem step_append {P : Program} {ops : Array Oper} {o : Oper} {a : Act} {w : World} {K : Act → World → Prop} {Q : Exit → Act → World → Prop} {E : Prop}
    (hg : o.guard = none) (s x : Operand) (t : TypeId) (hop : o.op = Op.call { callee := Callee.builtin Builtin.append, args := #[s, x], argTypes := #[t, t] }) (v1 v2 : Value) (hs : a.eval s = v1) (hx : a.eval x = v2) (v' : Value) (w' : World)
    (hr : (Builtin.append_ #[t, t] o.type #[v1, v2]).run P w = .ok v' w') (hK : K (a.put o.dst v') w') : if Region.wanted o (yielded ops a.tmps) = true then Oper.wp P o a w K Q else E := by
  have hw : Region.wanted o (yielded ops a.tmps) = true := by simp [Region.wanted, hg]
  rw [if_pos hw]
  unfold Oper.wp
  simp only [execOp, hop, resolve, invoke, builtin, Sem.run_bind, Sem.run_pure, Result.andThen_ok, List.map_toArray, List.map_cons, List.map_nil, hs, hx, hr]
  exact hK
/-- append of a slice that is read onto a slice of the call's own. -/
theorem appendInts (w : World) (base n m c : Nat) (v : Value) (xs ys : List Int) (ga oa : Nat) (hown : w.ownsRow base 3 1 v n (xs.map (Value.int .i64))) (h : Rd w (some ⟨ga, oa, none⟩) ys) (hy : ys.length = m) (hb : n + m ≤ 16777216) (hB : base ≤ w.heap.size) :
    ∃ v' w', (Builtin.append_ #[24, 24] 24 #[v, .slice (some ⟨ga, oa, none⟩) m c]).run Try.prog w = .ok v' w' ∧ w'.ownsRow base 3 1 v' (n + m) ((xs ++ ys).map (Value.int .i64)) ∧ w.grownBy w' v.ownBlock := by
  obtain ⟨fi, hfi, hz0, hz1, hz2⟩ := facts_int
  have news : ∀ (j : Nat) u, (ys.map (Value.int .i64))[j]? = some u → w.cell? ((⟨ga, oa, none⟩ : Addr).add j) = some u := by
    intro j u hu
    obtain ⟨hj, rfl⟩ := news_ints _ j u hu
    obtain ⟨b', o', e, hc⟩ := h j hj
    injection e with e
    injection e with e1 e2
    subst e1 e2
    rw [show (⟨ga, oa, none⟩ : Addr).add j = ⟨ga, oa + j, none⟩ by simp only [Addr.add]; split <;> simp_all]
    exact hc
  obtain ⟨v', w', hr, h2, h3, -, -⟩ := run_append_own_at (P := Try.prog) w base 24 24 3 fi (.int .i64 0) 1 8 underlying_ints hfi hz0 hz1 hz2 rfl (by decide) v n _ hown ⟨ga, oa, none⟩ m c (ys.map (Value.int .i64)) (by rw [List.length_map, hy, Nat.mul_one]) news
    (by intro u hu; obtain ⟨z, -, rfl⟩ := List.mem_map.mp hu; rfl) (by unfold maxLen; omega) (by omega) hB
  exact ⟨v', w', hr, by rw [List.map_append]; exact h2, h3⟩
theorem appendInts2 (w : World) (base n m c : Nat) (v : Value) (xs ys : List Int) (ga oa : Nat) (hown : w.ownsRow base 3 1 v n (xs.map (Value.int .i64))) (h : Rd w (some ⟨ga, oa, none⟩) ys) (hy : ys.length = m) (hb : n + m ≤ 16777216) (hB : base ≤ w.heap.size) :
    ∃ v' w', (Builtin.append_ #[24, 24] 24 #[v, .slice (some ⟨ga, oa, none⟩) m c]).run Try.prog w = .ok v' w' ∧ w'.ownsRow base 3 1 v' (n + m) ((xs ++ ys).map (Value.int .i64)) ∧ w.grownBy w' v.ownBlock ∧ (v' = .slice none 0 0 ↔ v = .slice none 0 0 ∧ m = 0) := by
  obtain ⟨fi, hfi, hz0, hz1, hz2⟩ := facts_int
  have news : ∀ (j : Nat) u, (ys.map (Value.int .i64))[j]? = some u → w.cell? ((⟨ga, oa, none⟩ : Addr).add j) = some u := by
    intro j u hu
    obtain ⟨hj, rfl⟩ := news_ints _ j u hu
    obtain ⟨b', o', e, hc⟩ := h j hj
    injection e with e
    injection e with e1 e2
    subst e1 e2
    rw [show (⟨ga, oa, none⟩ : Addr).add j = ⟨ga, oa + j, none⟩ by simp only [Addr.add]; split <;> simp_all]
    exact hc
  obtain ⟨v', w', hr, h2, h3, h4, -⟩ := run_append_own_at (P := Try.prog) w base 24 24 3 fi (.int .i64 0) 1 8 underlying_ints hfi hz0 hz1 hz2 rfl (by decide) v n _ hown ⟨ga, oa, none⟩ m c (ys.map (Value.int .i64)) (by rw [List.length_map, hy, Nat.mul_one]) news
    (by intro u hu; obtain ⟨z, -, rfl⟩ := List.mem_map.mp hu; rfl) (by unfold maxLen; omega) (by omega) hB
  exact ⟨v', w', hr, by rw [List.map_append]; exact h2, h3, h4⟩
theorem sevenF {W w' : World} {b : Nat} {t : TypeId} {p q r : Value} {pr : Nat → Prop} (h0 : Blk3 W b t p q r) (hg : FrS pr W w') (hb : ¬ pr b) :
    w'.cell? ⟨b, 0, none⟩ = some p ∧ w'.cell? ⟨b, 1, none⟩ = some q ∧ w'.cell? ⟨b, 2, none⟩ = some r :=
  ⟨(h0.frs hg hb).cell0, (h0.frs hg hb).cell1, (h0.frs hg hb).cell2⟩
end Go.Proofs.Ytncplikadacjnaa
end

section
/-
  Chapter 5, in the model: a copy of a matrix; an operation on rows, in place.
-/
namespace Go.Proofs.Ytncplikadacjnaa
set_option maxRecDepth 100000
open Go.RowKit

/-! ### l3Copy -/
set_option maxHeartbeats 1000000 in
theorem sCopy (r c : Int) (ga oa m n : Nat) (xs : List Int) (w : World) (h : Rd w (some ⟨ga, oa, none⟩) xs) (hx : xs.length = n) (hn : n ≤ 1048576) :
    Calls Try.prog 69 #[.agg #[.int .i64 r, .int .i64 c, .slice (some ⟨ga, oa, none⟩) n m]] w (fun e w' => ∃ g cap : Nat, e = .returned (.agg #[.int .i64 r, .int .i64 c, .slice (some ⟨g, 0, none⟩) n cap]) ∧ w.heap.size ≤ g ∧ IntsC w' g cap xs ∧ Below w.heap.size w w') := by
  have H := Lib.hid h
  have HX := Lib.hid hx
  clear h hx
  have BH : Hid (Below w.heap.size w ((w.alloc (.cells #[.int .i64 r, .int .i64 c, .slice (some ⟨ga, oa, none⟩) n m] 26)).alloc (.cells #[.int .i64 0, .int .i64 0, .slice none 0 0] 26))) := ((Below.refl _ _).alloc (Nat.le_refl _) _).alloc (by simp) _
  have K0 : Hid (Blk3 ((w.alloc (.cells #[.int .i64 r, .int .i64 c, .slice (some ⟨ga, oa, none⟩) n m] 26)).alloc (.cells #[.int .i64 0, .int .i64 0, .slice none 0 0] 26)) w.heap.size 26 (.int .i64 r) (.int .i64 c) (.slice (some ⟨ga, oa, none⟩) n m)) := (Blk3.at_ _ _ _ _ rfl).old _
  have K2 : Hid (Blk3 ((w.alloc (.cells #[.int .i64 r, .int .i64 c, .slice (some ⟨ga, oa, none⟩) n m] 26)).alloc (.cells #[.int .i64 0, .int .i64 0, .slice none 0 0] 26)) (w.heap.size + 1) 26 (.int .i64 0) (.int .i64 0) (.slice none 0 0)) := Blk3.at_ _ _ _ _ (by simp)
  obtain ⟨w2, hw2⟩ : ∃ w2, (w.alloc (.cells #[.int .i64 r, .int .i64 c, .slice (some ⟨ga, oa, none⟩) n m] 26)).alloc (.cells #[.int .i64 0, .int .i64 0, .slice none 0 0] 26) = w2 := ⟨_, rfl⟩
  rw [hw2] at BH K0 K2
  go_enter Try.func69, Try.ntmps69
  go_wp2_with fail
  clear hw2
  refine wp_region_held_drew (S := fun w' => FrS (fun k => k = w.heap.size + 1) w2 w') (by kernel_rfl) (FrS.refl _ _).drew (fun hH => ?_)
  refine wpAnyH_take (i := 0) (v := ?_) (by simp only [List.getElem?_toArray, List.getElem?_cons_zero]; rfl) (by kernel_rfl) (by kernel_rfl) (by kernel_rfl) (by exact fun _ _ _ h => h) (Or.inl ⟨by rfl, ?_⟩) hH ?_
  rotate_left
  · (intro wS hS; clear hS; go_simp; try rfl)
  try simp only [Act.put, List.setIfInBounds_toArray, List.set_cons_zero, List.set_cons_succ]
  refine wpAnyH_take (i := 1) (v := ?_) (by simp only [List.getElem?_toArray, List.getElem?_cons_succ, List.getElem?_cons_zero]; rfl) (by kernel_rfl) (by kernel_rfl) (by kernel_rfl) (by exact fun _ _ _ h => h) (Or.inl ⟨by rfl, ?_⟩) hH ?_
  rotate_left
  · (intro wS hS; (try dsimp only at hS); obtain ⟨k1, k2, k3⟩ := sevenF K0.out hS (by omega); go_simp; try rfl)
  try simp only [Act.put, List.setIfInBounds_toArray, List.set_cons_zero, List.set_cons_succ]
  refine wpAnyH_take (i := 2) (v := ?_) (by simp only [List.getElem?_toArray, List.getElem?_cons_succ, List.getElem?_cons_zero]; rfl) (by kernel_rfl) (by kernel_rfl) (by kernel_rfl) (by exact fun _ _ _ h => h) (Or.inl ⟨by rfl, ?_⟩) hH ?_
  rotate_left
  · (intro wS hS; clear hS; go_simp; try rfl)
  try simp only [Act.put, List.setIfInBounds_toArray, List.set_cons_zero, List.set_cons_succ]
  refine wpAnyH_take (i := 3) (v := ?_) (by simp only [List.getElem?_toArray, List.getElem?_cons_succ, List.getElem?_cons_zero]; rfl) (by kernel_rfl) (by kernel_rfl) (by kernel_rfl) (by exact fun _ _ _ h => h) (Or.inl ⟨by rfl, ?_⟩) hH ?_
  rotate_left
  · (intro wS hS; (try dsimp only at hS); obtain ⟨k1, k2, k3⟩ := sevenF K0.out hS (by omega); go_simp; try rfl)
  try simp only [Act.put, List.setIfInBounds_toArray, List.set_cons_zero, List.set_cons_succ]
  refine wpAnyH_take (i := 5) (v := ?_) (by simp only [List.getElem?_toArray, List.getElem?_cons_succ, List.getElem?_cons_zero]; rfl) (by kernel_rfl) (by kernel_rfl) (by kernel_rfl) (by exact fun _ _ _ h => h) (Or.inl ⟨by rfl, ?_⟩) hH ?_
  rotate_left
  · (intro wS hS; clear hS; go_simp; try rfl)
  try simp only [Act.put, List.setIfInBounds_toArray, List.set_cons_zero, List.set_cons_succ]
  refine wpAnyH_take (i := 6) (v := ?_) (by simp only [List.getElem?_toArray, List.getElem?_cons_succ, List.getElem?_cons_zero]; rfl) (by kernel_rfl) (by kernel_rfl) (by kernel_rfl) (by exact fun _ _ _ h => h) (Or.inl ⟨by rfl, ?_⟩) hH ?_
  rotate_left
  · (intro wS hS; (try dsimp only at hS); obtain ⟨k1, k2, k3⟩ := sevenF K0.out hS (by omega); go_simp; try rfl)
  try simp only [Act.put, List.setIfInBounds_toArray, List.set_cons_zero, List.set_cons_succ]
  refine wpAnyH_ready (rs := [4]) (by kernel_rfl) (by simp) ?_
  refine AllReadyH.cons (by simp only [List.getElem?_toArray, List.getElem?_cons_succ, List.getElem?_cons_zero]; rfl) (fun KK hKK => ?_) AllReadyH.nil
  go_simp
  try dsimp only
  refine hKK.out _ _ ?_ (fun hH2 => ?_)
  · exact (((FrS.refl _ w2).alloc _).drew)
  clear hKK KK
  have hO := hH
  clear hH
  have hH := hH2
  clear hH2
  try simp only [Act.put, List.setIfInBounds_toArray, List.set_cons_zero, List.set_cons_succ]
  have own0 : ((w2.alloc (.cells #[] 3)).drew).ownsRow w2.heap.size 3 1 (.slice (some ⟨w2.heap.size, 0, none⟩) 0 0) 0 (([] : List Int).map (Value.int .i64)) := ⟨rfl, .inr ⟨w2.heap.size, 0, #[], rfl, Nat.le_refl _, heap_alloc_new w2 _, Nat.le_refl _, by decide, rfl, rfl⟩⟩
  have BA : Hid (Below w2.heap.size w2 ((w2.alloc (.cells #[] 3)).drew)) := ((Below.refl _ _).alloc (Nat.le_refl _) _).drew
  obtain ⟨v1, wa, hr1, ho1, hg1, nn1⟩ := appendInts2 _ w2.heap.size 0 n m _ [] xs ga oa own0 (H.out.below (BH.out.trans (BA.out.mono BH.out.size))) HX.out (by omega) BA.out.size
  refine wpAnyH_ready (rs := [7]) (by kernel_rfl) (by simp) ?_
  refine AllReadyH.cons (by simp only [List.getElem?_toArray, List.getElem?_cons_succ, List.getElem?_cons_zero]; rfl) (fun KK hKK => ?_) AllReadyH.nil
  refine step_append rfl _ _ 24 rfl _ _ rfl rfl _ _ hr1 ?_
  have BA1 : Hid (Below w2.heap.size w2 wa) := BA.out.grown hg1 BA.out.size (fun k hk => ownBlock_ge own0 hk)
  try dsimp only
  refine hKK.out _ _ ?_ (fun hH2 => ?_)
  · exact FrS.of_below BA1.out
  clear hKK KK
  have hO := hH
  clear hH
  have hH := hH2
  clear hH2
  try simp only [Act.put, List.setIfInBounds_toArray, List.set_cons_zero, List.set_cons_succ]
  have O2 : Hid (OwnC w2.heap.size wa v1 xs) := OwnC.of_row (by rw [HX.out, ← Nat.zero_add n]; exact ho1)
  have O3 := O2.out
  rcases O3 with ⟨h, -⟩ | ⟨g, qc2, rfl, gB, gI⟩
  · exact absurd (nn1.mp h).1 (by simp)
  rw [HX.out] at O2 ⊢
  have GB := Lib.hid gB
  have GI := Lib.hid gI
  clear gB gI nn1
  refine wpAnyH_take (i := 8) (v := ?_) (by simp only [List.getElem?_toArray, List.getElem?_cons_succ, List.getElem?_cons_zero]; rfl) (by kernel_rfl) (by kernel_rfl) (by kernel_rfl) (by exact fun _ _ _ h => h) (Or.inl ⟨by rfl, ?_⟩) hH ?_
  rotate_left
  · (intro wS hS; clear hS; go_simp; try rfl)
  try simp only [Act.put, List.setIfInBounds_toArray, List.set_cons_zero, List.set_cons_succ]
  have K2 := Lib.hid (K2.out.step BA1.out)
  obtain ⟨s0, s1, s2, f0, f1, f2⟩ := K2.out.all
  have gs : ∀ x y z, FrS (fun k => k = w.heap.size + 1) w2 (((wa.setCell ⟨w.heap.size + 1, 0, none⟩ x).setCell ⟨w.heap.size + 1, 1, none⟩ y).setCell ⟨w.heap.size + 1, 2, none⟩ z) := fun x y z => (FrS.of_below (p := fun k => k = w.heap.size + 1) BA1.out).set3 (b := w.heap.size + 1) (.inl rfl) x y z
  have GS := Lib.hid gs
  clear gs
  refine wpAnyH_ready (rs := [9]) (by kernel_rfl) (by simp) ?_
  refine AllReadyH.cons (by simp only [List.getElem?_toArray, List.getElem?_cons_succ, List.getElem?_cons_zero]; rfl) (fun KK hKK => ?_) AllReadyH.nil
  go_simp
  try dsimp only
  refine hKK.out _ _ ?_ (fun hH2 => ?_)
  · exact GS.out _ _ _
  clear hKK KK
  have hO := hH
  clear hH
  have hH := hH2
  clear hH2
  try simp only [Act.put, List.setIfInBounds_toArray, List.set_cons_zero, List.set_cons_succ]
  refine wpAnyH_done (by kernel_rfl) ?_ _
  go_wp2_with fail
  obtain ⟨E0, E1, E2, -, -, -⟩ := (K2.out.set3 (.int .i64 r) (.int .i64 c) (.slice (some ⟨g, 0, none⟩) n qc2)).all
  have B2 := BH.out.trans (BA1.out.mono BH.out.size)
  refine bodyPost_ret (v := .agg #[.int .i64 r, .int .i64 c, .slice (some ⟨g, 0, none⟩) n qc2]) (by simp [results, Try.results69, go_sem, E0, E1, E2]) rfl ⟨g, qc2, rfl, Nat.le_trans BH.out.size GB.out, ((GI.out.far (GI.out.ints.ne_blk K2.out) _).far (GI.out.ints.ne_blk K2.out) _).far (GI.out.ints.ne_blk K2.out) _, ?_⟩
  exact (((B2.setCell (by show w.heap.size ≤ w.heap.size + 1; omega) _).setCell (by show w.heap.size ≤ w.heap.size + 1; omega) _).setCell (by show w.heap.size ≤ w.heap.size + 1; omega) _)
end Go.Proofs.Ytncplikadacjnaa
end

section
/-
  Chapter 5, in the model: a copy of a matrix without cells.
-/
namespace Go.Proofs.Ytncplikadacjnaa
set_option maxRecDepth 100000
open Go.RowKit

theorem appendNil (w : World) (g c : Nat) : (Builtin.append_ #[24, 24] 24 #[.slice (some ⟨g, 0, none⟩) 0 0, .slice none 0 c]).run Try.prog w = .ok (.slice (some ⟨g, 0, none⟩) 0 0) w := by
  obtain ⟨fi, hfi, hz0, hz1, hz2⟩ := facts_int
  simp [Builtin.append_, go_sem, Builtin.lenOf, Builtin.firstCells, storeCells]
set_option maxHeartbeats 1000000 in
theorem sCopyN (r c : Int) (m : Nat) (w : World) :
    Calls Try.prog 69 #[.agg #[.int .i64 r, .int .i64 c, .slice none 0 m]] w (fun e w' => ∃ g cap : Nat, e = .returned (.agg #[.int .i64 r, .int .i64 c, .slice (some ⟨g, 0, none⟩) 0 cap]) ∧ w.heap.size ≤ g ∧ IntsC w' g cap [] ∧ Below w.heap.size w w') := by
  have BH : Hid (Below w.heap.size w ((w.alloc (.cells #[.int .i64 r, .int .i64 c, .slice none 0 m] 26)).alloc (.cells #[.int .i64 0, .int .i64 0, .slice none 0 0] 26))) := ((Below.refl _ _).alloc (Nat.le_refl _) _).alloc (by simp) _
  have K0 : Hid (Blk3 ((w.alloc (.cells #[.int .i64 r, .int .i64 c, .slice none 0 m] 26)).alloc (.cells #[.int .i64 0, .int .i64 0, .slice none 0 0] 26)) w.heap.size 26 (.int .i64 r) (.int .i64 c) (.slice none 0 m)) := (Blk3.at_ _ _ _ _ rfl).old _
  have K2 : Hid (Blk3 ((w.alloc (.cells #[.int .i64 r, .int .i64 c, .slice none 0 m] 26)).alloc (.cells #[.int .i64 0, .int .i64 0, .slice none 0 0] 26)) (w.heap.size + 1) 26 (.int .i64 0) (.int .i64 0) (.slice none 0 0)) := Blk3.at_ _ _ _ _ (by simp)
  obtain ⟨w2, hw2⟩ : ∃ w2, (w.alloc (.cells #[.int .i64 r, .int .i64 c, .slice none 0 m] 26)).alloc (.cells #[.int .i64 0, .int .i64 0, .slice none 0 0] 26) = w2 := ⟨_, rfl⟩
  rw [hw2] at BH K0 K2
  go_enter Try.func69, Try.ntmps69
  go_wp2_with fail
  clear hw2
  refine wp_region_held_drew (S := fun w' => FrS (fun k => k = w.heap.size + 1) w2 w') (by kernel_rfl) (FrS.refl _ _).drew (fun hH => ?_)
  refine wpAnyH_take (i := 0) (v := ?_) (by simp only [List.getElem?_toArray, List.getElem?_cons_zero]; rfl) (by kernel_rfl) (by kernel_rfl) (by kernel_rfl) (by exact fun _ _ _ h => h) (Or.inl ⟨by rfl, ?_⟩) hH ?_
  rotate_left
  · (intro wS hS; clear hS; go_simp; try rfl)
  try simp only [Act.put, List.setIfInBounds_toArray, List.set_cons_zero, List.set_cons_succ]
  refine wpAnyH_take (i := 1) (v := ?_) (by simp only [List.getElem?_toArray, List.getElem?_cons_succ, List.getElem?_cons_zero]; rfl) (by kernel_rfl) (by kernel_rfl) (by kernel_rfl) (by exact fun _ _ _ h => h) (Or.inl ⟨by rfl, ?_⟩) hH ?_
  rotate_left
  · (intro wS hS; (try dsimp only at hS); obtain ⟨k1, k2, k3⟩ := sevenF K0.out hS (by omega); go_simp; try rfl)
  try simp only [Act.put, List.setIfInBounds_toArray, List.set_cons_zero, List.set_cons_succ]
  refine wpAnyH_take (i := 2) (v := ?_) (by simp only [List.getElem?_toArray, List.getElem?_cons_succ, List.getElem?_cons_zero]; rfl) (by kernel_rfl) (by kernel_rfl) (by kernel_rfl) (by exact fun _ _ _ h => h) (Or.inl ⟨by rfl, ?_⟩) hH ?_
  rotate_left
  · (intro wS hS; clear hS; go_simp; try rfl)
  try simp only [Act.put, List.setIfInBounds_toArray, List.set_cons_zero, List.set_cons_succ]
  refine wpAnyH_take (i := 3) (v := ?_) (by simp only [List.getElem?_toArray, List.getElem?_cons_succ, List.getElem?_cons_zero]; rfl) (by kernel_rfl) (by kernel_rfl) (by kernel_rfl) (by exact fun _ _ _ h => h) (Or.inl ⟨by rfl, ?_⟩) hH ?_
  rotate_left
  · (intro wS hS; (try dsimp only at hS); obtain ⟨k1, k2, k3⟩ := sevenF K0.out hS (by omega); go_simp; try rfl)
  try simp only [Act.put, List.setIfInBounds_toArray, List.set_cons_zero, List.set_cons_succ]
  refine wpAnyH_take (i := 5) (v := ?_) (by simp only [List.getElem?_toArray, List.getElem?_cons_succ, List.getElem?_cons_zero]; rfl) (by kernel_rfl) (by kernel_rfl) (by kernel_rfl) (by exact fun _ _ _ h => h) (Or.inl ⟨by rfl, ?_⟩) hH ?_
  rotate_left
  · (intro wS hS; clear hS; go_simp; try rfl)
  try simp only [Act.put, List.setIfInBounds_toArray, List.set_cons_zero, List.set_cons_succ]
  refine wpAnyH_take (i := 6) (v := ?_) (by simp only [List.getElem?_toArray, List.getElem?_cons_succ, List.getElem?_cons_zero]; rfl) (by kernel_rfl) (by kernel_rfl) (by kernel_rfl) (by exact fun _ _ _ h => h) (Or.inl ⟨by rfl, ?_⟩) hH ?_
  rotate_left
  · (intro wS hS; (try dsimp only at hS); obtain ⟨k1, k2, k3⟩ := sevenF K0.out hS (by omega); go_simp; try rfl)
  try simp only [Act.put, List.setIfInBounds_toArray, List.set_cons_zero, List.set_cons_succ]
  refine wpAnyH_ready (rs := [4]) (by kernel_rfl) (by simp) ?_
  refine AllReadyH.cons (by simp only [List.getElem?_toArray, List.getElem?_cons_succ, List.getElem?_cons_zero]; rfl) (fun KK hKK => ?_) AllReadyH.nil
  go_simp
  try dsimp only
  refine hKK.out _ _ ?_ (fun hH2 => ?_)
  · exact (((FrS.refl _ w2).alloc _).drew)
  clear hKK KK
  have hO := hH
  clear hH
  have hH := hH2
  clear hH2
  try simp only [Act.put, List.setIfInBounds_toArray, List.set_cons_zero, List.set_cons_succ]
  have own0 : ((w2.alloc (.cells #[] 3)).drew).ownsRow w2.heap.size 3 1 (.slice (some ⟨w2.heap.size, 0, none⟩) 0 0) 0 (([] : List Int).map (Value.int .i64)) := ⟨rfl, .inr ⟨w2.heap.size, 0, #[], rfl, Nat.le_refl _, heap_alloc_new w2 _, Nat.le_refl _, by decide, rfl, rfl⟩⟩
  have BA : Hid (Below w2.heap.size w2 ((w2.alloc (.cells #[] 3)).drew)) := ((Below.refl _ _).alloc (Nat.le_refl _) _).drew
  have hr1 := appendNil ((w2.alloc (.cells #[] 3)).drew) w2.heap.size m
  refine wpAnyH_ready (rs := [7]) (by kernel_rfl) (by simp) ?_
  refine AllReadyH.cons (by simp only [List.getElem?_toArray, List.getElem?_cons_succ, List.getElem?_cons_zero]; rfl) (fun KK hKK => ?_) AllReadyH.nil
  refine step_append rfl _ _ 24 rfl _ _ rfl rfl _ _ hr1 ?_
  have BA1 := BA
  try dsimp only
  refine hKK.out _ _ ?_ (fun hH2 => ?_)
  · exact FrS.of_below BA1.out
  clear hKK KK
  have hO := hH
  clear hH
  have hH := hH2
  clear hH2
  try simp only [Act.put, List.setIfInBounds_toArray, List.set_cons_zero, List.set_cons_succ]
  have O2 : Hid (OwnC w2.heap.size ((w2.alloc (.cells #[] 3)).drew) (.slice (some ⟨w2.heap.size, 0, none⟩) 0 0) []) := OwnC.of_row own0
  have O3 := O2.out
  rcases O3 with ⟨h, -⟩ | ⟨g, qc2, hv, gB, gI⟩
  · exact absurd h (by simp)
  have GB := Lib.hid gB
  have GI := Lib.hid gI
  simp only [Value.slice.injEq, Option.some.injEq, Addr.mk.injEq] at hv
  obtain ⟨⟨rfl, -, -⟩, -, rfl⟩ := hv
  clear gB gI
  obtain ⟨wa, hwa⟩ : ∃ wa, (w2.alloc (.cells #[] 3)).drew = wa := ⟨_, rfl⟩
  rw [hwa] at GI O2 BA1 own0 hr1 hH ⊢
  refine wpAnyH_take (i := 8) (v := ?_) (by simp only [List.getElem?_toArray, List.getElem?_cons_succ, List.getElem?_cons_zero]; rfl) (by kernel_rfl) (by kernel_rfl) (by kernel_rfl) (by exact fun _ _ _ h => h) (Or.inl ⟨by rfl, ?_⟩) hH ?_
  rotate_left
  · (intro wS hS; clear hS; go_simp; try rfl)
  try simp only [Act.put, List.setIfInBounds_toArray, List.set_cons_zero, List.set_cons_succ]
  have K2 := Lib.hid (K2.out.step BA1.out)
  obtain ⟨s0, s1, s2, f0, f1, f2⟩ := K2.out.all
  have gs : ∀ x y z, FrS (fun k => k = w.heap.size + 1) w2 (((wa.setCell ⟨w.heap.size + 1, 0, none⟩ x).setCell ⟨w.heap.size + 1, 1, none⟩ y).setCell ⟨w.heap.size + 1, 2, none⟩ z) := fun x y z => (FrS.of_below (p := fun k => k = w.heap.size + 1) BA1.out).set3 (b := w.heap.size + 1) (.inl rfl) x y z
  have GS := Lib.hid gs
  clear gs
  refine wpAnyH_ready (rs := [9]) (by kernel_rfl) (by simp) ?_
  refine AllReadyH.cons (by simp only [List.getElem?_toArray, List.getElem?_cons_succ, List.getElem?_cons_zero]; rfl) (fun KK hKK => ?_) AllReadyH.nil
  go_simp
  try dsimp only
  refine hKK.out _ _ ?_ (fun hH2 => ?_)
  · exact GS.out _ _ _
  clear hKK KK
  have hO := hH
  clear hH
  have hH := hH2
  clear hH2
  try simp only [Act.put, List.setIfInBounds_toArray, List.set_cons_zero, List.set_cons_succ]
  refine wpAnyH_done (by kernel_rfl) ?_ _
  go_wp2_with fail
  obtain ⟨E0, E1, E2, -, -, -⟩ := (K2.out.set3 (.int .i64 r) (.int .i64 c) (.slice (some ⟨w2.heap.size, 0, none⟩) 0 0)).all
  have B2 := BH.out.trans (BA1.out.mono BH.out.size)
  refine bodyPost_ret (v := .agg #[.int .i64 r, .int .i64 c, .slice (some ⟨w2.heap.size, 0, none⟩) 0 0]) (by simp [results, Try.results69, go_sem, E0, E1, E2]) rfl ⟨w2.heap.size, 0, rfl, Nat.le_trans BH.out.size GB.out, ((GI.out.far (GI.out.ints.ne_blk K2.out) _).far (GI.out.ints.ne_blk K2.out) _).far (GI.out.ints.ne_blk K2.out) _, ?_⟩
  exact (((B2.setCell (by show w.heap.size ≤ w.heap.size + 1; omega) _).setCell (by show w.heap.size ≤ w.heap.size + 1; omega) _).setCell (by show w.heap.size ≤ w.heap.size + 1; omega) _)
/-- Of what was there or of nil. -/
def Spot (a : Option Addr) : Prop := a = none ∨ ∃ g o : Nat, a = some ⟨g, o, none⟩
theorem Spot.of (g o : Nat) : Spot (some ⟨g, o, none⟩) := .inr ⟨g, o, rfl⟩
theorem sCopyA (r c : Int) (a : Option Addr) (m n : Nat) (xs : List Int) (w : World) (h : Rd w a xs) (ha : Spot a) (hx : xs.length = n) (hn : n ≤ 1048576) :
    Calls Try.prog 69 #[.agg #[.int .i64 r, .int .i64 c, .slice a n m]] w (fun e w' => ∃ g cap : Nat, e = .returned (.agg #[.int .i64 r, .int .i64 c, .slice (some ⟨g, 0, none⟩) n cap]) ∧ w.heap.size ≤ g ∧ IntsC w' g cap xs ∧ Below w.heap.size w w') := by
  rcases ha with rfl | ⟨g, o, rfl⟩
  · have e : xs = [] := by
      cases xs with
      | nil => rfl
      | cons x xs => obtain ⟨b, o, h1, -⟩ := h 0 (by simp); exact absurd h1 (by simp)
    subst e
    subst hx
    exact sCopyN r c m w
  · exact sCopy r c g o m n xs w h hx hn
end Go.Proofs.Ytncplikadacjnaa
end

section
/-
  A block of ints, cell by cell.
-/
namespace Go.Proofs.Ytncplikadacjnaa
open Go.RowKit

theorem Rd.cells {w : World} {b o : Nat} {zs : List Int} (h : Rd w (some ⟨b, o, none⟩) zs) (j : Nat) (hj : j < zs.length) : w.cell? ⟨b, o + j, none⟩ = some (.int .i64 (zs.getD j 0)) := by
  obtain ⟨b', o', e, hc⟩ := h j hj
  injection e with e
  injection e with e1 e2
  subst e1 e2
  exact hc
theorem Rd.addr {w : World} {a : Option Addr} {zs : List Int} (h : Rd w a zs) (hz : 0 < zs.length) : ∃ b o : Nat, a = some ⟨b, o, none⟩ := by
  obtain ⟨b, o, e, -⟩ := h 0 hz
  exact ⟨b, o, e⟩
end Go.Proofs.Ytncplikadacjnaa
end

section
/-
  Contracts of Go's library at this translation, each one application of a theorem of the guide's library: slices_Clone_int, slices_Clone_int_zero, slices_Clone_int_nil.
-/
namespace Go.Proofs
open Go.Shelf
def Try.laysNm215_ren : Go.Shelf.Ren := ⟨fun | 15 => 94 | n => n, fun | 22 => 24 | 3 => 3 | 4 => 4 | n => n, fun | n => n⟩
theorem Try.laysNm215 : Go.Proofs.Lays2.n15 Try.prog Try.laysNm215_ren := {
  mixed := by kernel_rfl
  f15 := Try.func94.trans (congrArg some (by kernel_rfl))
  t3 := Try.underlying3
  a3 := Try.isAgg3
  z3 := Try.sizeOf3
  v3 := Try.zeroValue3
  t4 := Try.underlying4
  a4 := Try.isAgg4
  z4 := Try.sizeOf4
  v4 := Try.zeroValue4
  t22 := Try.underlying24
  a22 := Try.isAgg24
  z22 := Try.sizeOf24
  v22 := Try.zeroValue24
  i3 := by kernel_rfl }
open Go.RowKit Go.Lib in
theorem Try.slices_Clone_int (b off n c : Nat) (zs : List Int) (w : World) (hz : n ≤ zs.length) (hbig : n * 8 ≤ 140737488355328) (hc : ∀ j, j < zs.length → w.cell? ⟨b, off + j, none⟩ = some (.int .i64 (zs.getD j 0))) :
    Calls Try.prog 94 #[.slice (some ⟨b, off, none⟩) n c] w fun e w' => ∃ v', e = .returned v' ∧ w'.ownsRow w.heap.size 3 1 v' n ((zs.take n).map (Value.int .i64)) ∧ v' ≠ .slice none 0 0 ∧ Below w.heap.size w w' := Any.slices_Clone_int Try.laysNm215 b off n c zs w hz hbig hc
open Go.RowKit Go.Lib in
theorem Try.slices_Clone_int_nil (n c : Nat) (w : World) :
    Calls Try.prog 94 #[.slice none n c] w fun e w' => e = .returned (.slice none 0 0) ∧ w' = w := Any.slices_Clone_int_nil Try.laysNm215 n c w
open Go.RowKit Go.Lib in
theorem Try.slices_Clone_int_zero (a : Addr) (c : Nat) (w : World) :
    Calls Try.prog 94 #[.slice (some a) 0 c] w fun e w' => ∃ v', e = .returned v' ∧ w'.ownsRow w.heap.size 3 1 v' 0 [] ∧ v' ≠ .slice none 0 0 ∧ Below w.heap.size w w' := Any.slices_Clone_int_zero Try.laysNm215 a c w
end Go.Proofs
end

section
/-
  Chapter 3, in the program: slices.Clone over slices of ints.
-/
namespace Go.Proofs.Ytncplikadacjnaa
open Go.RowKit

/-- A copy in memory of the call's own. -/
def Copy (zs : List Int) (w : World) (e : Ending) (w' : World) : Prop := ∃ v, e = .returned v ∧ Own w.heap.size w' v zs ∧ Below w.heap.size w w'

theorem iClone (a : Option Addr) (cap : Nat) (zs : List Int) (w : World) (h : Rd w a zs) (hn : zs.length ≤ 16777216) :
    Calls Try.prog 94 #[.slice a zs.length cap] w (Copy zs w) := by
  rcases Nat.eq_zero_or_pos zs.length with e | hz
  · obtain rfl : zs = [] := List.eq_nil_of_length_eq_zero e
    cases a with
    | none => exact (Try.slices_Clone_int_nil 0 cap w).mono fun e w' ⟨h1, h2⟩ => ⟨_, h1, .inl ⟨rfl, rfl⟩, by rw [h2]; exact Below.refl _ _⟩
    | some x => exact (Try.slices_Clone_int_zero x cap w).mono fun e w' ⟨v, h1, h2, _, h3⟩ => ⟨v, h1, Own.of_row h2 (by simp), h3⟩
  · obtain ⟨b, o, rfl⟩ := h.addr hz
    refine (Try.slices_Clone_int b o zs.length cap zs w (Nat.le_refl _) (by omega) h.cells).mono fun e w' ⟨v, h1, h2, _, h3⟩ => ⟨v, h1, Own.of_row ?_ hn, h3⟩
    rw [List.take_length] at h2
    exact h2
/-- The first k cells are those of f, the others are as they were. -/
def mixL (xs : List Int) (k : Nat) (f : Nat → Int) : List Int := (List.range xs.length).map fun i => if i < k then f i else xs.getD i 0
theorem mixL_length (xs : List Int) (k : Nat) (f : Nat → Int) : (mixL xs k f).length = xs.length := by simp [mixL]
theorem mixL_zero (xs : List Int) (f : Nat → Int) : mixL xs 0 f = xs := by
  apply List.ext_getElem (by simp [mixL])
  intro i h1 h2
  simp [mixL, List.getD, h2]
theorem mixL_all (xs : List Int) (f : Nat → Int) : mixL xs xs.length f = (List.range xs.length).map f := by
  apply List.ext_getElem (by simp [mixL])
  intro i h1 h2
  have : i < xs.length := by simpa [mixL] using h1
  simp [mixL, this]
theorem mixL_at (xs : List Int) (k : Nat) (f : Nat → Int) : (mixL xs k f).getD k 0 = xs.getD k 0 := by
  unfold mixL List.getD
  rcases Nat.lt_or_ge k xs.length with h | h
  · simp [h]
  · simp [h]
theorem mixL_step (xs : List Int) (k : Nat) (f : Nat → Int) : (mixL xs k f).set k (f k) = mixL xs (k + 1) f := by
  apply List.ext_getElem (by simp [mixL])
  intro i h1 h2
  have hi : i < xs.length := by simpa [mixL] using h2
  rw [List.getElem_set]
  by_cases e : k = i
  · subst e; simp [mixL]
  · simp only [e, if_false]
    simp only [mixL, List.getElem_map, List.getElem_range]
    by_cases h3 : i < k
    · rw [if_pos h3, if_pos (by omega)]
    · rw [if_neg h3, if_neg (by omega)]
theorem Own.cases {B : Nat} {w : World} {v : Value} {zs : List Int} (h : Own B w v zs) : (v = .slice none 0 0 ∧ zs = []) ∨ ∃ (g cap : Nat), v = .slice (some ⟨g, 0, none⟩) zs.length cap ∧ B ≤ g ∧ Ints w g zs ∧ zs.length ≤ cap := by
  rcases h with h | ⟨g, cap, hv, hB, hi, hl, _⟩
  · exact .inl h
  · exact .inr ⟨g, cap, hv, hB, hi, hl⟩
theorem In.cases {B T : Nat} {w : World} {v : Value} {zs : List Int} (h : In B T w v zs) : (v = .slice none 0 0 ∧ zs = []) ∨ ∃ (g cap : Nat), v = .slice (some ⟨g, 0, none⟩) zs.length cap ∧ B ≤ g ∧ g < T ∧ Ints w g zs ∧ zs.length ≤ cap := by
  rcases h with h | ⟨g, cap, hv, hB, hT, hi, hl, _⟩
  · exact .inl h
  · exact .inr ⟨g, cap, hv, hB, hT, hi, hl⟩
/-- A clone of n ints. -/
def CopyN (n : Nat) (zs : List Int) (w : World) (e : Ending) (w' : World) : Prop := ∃ q qc, e = .returned (.slice q n qc) ∧ Own w.heap.size w' (.slice q n qc) zs ∧ Below w.heap.size w w'
theorem iCloneN (a : Option Addr) (cap n : Nat) (zs : List Int) (hz : zs.length = n) (w : World) (h : Rd w a zs) (hn : n ≤ 16777216) :
    Calls Try.prog 94 #[.slice a n cap] w (CopyN n zs w) := by
  subst hz
  refine (iClone a cap zs w h hn).mono ?_
  rintro e w' ⟨v, rfl, own, hb⟩
  obtain ⟨q, qc, rfl, -, -⟩ := own.form
  exact ⟨q, qc, rfl, own, hb⟩
theorem seven {W w' : World} {b : Nat} {t : TypeId} {p q r : Value} (h0 : Blk3 W b t p q r) (hb : Below W.heap.size W w') :
    w'.cell? ⟨b, 0, none⟩ = some p ∧ w'.cell? ⟨b, 1, none⟩ = some q ∧ w'.cell? ⟨b, 2, none⟩ = some r :=
  ⟨(h0.keep hb h0.lt).cell0, (h0.keep hb h0.lt).cell1, (h0.keep hb h0.lt).cell2⟩
end Go.Proofs.Ytncplikadacjnaa
end

section
/-
  Chapter 8, in the model: ReduceMod.
-/
namespace Go.Proofs.Ytncplikadacjnaa
set_option maxRecDepth 100000
open Go.RowKit

theorem resL_mix {p : Int} {xs : List Int} : mixL xs xs.length (fun i => xs.getD i 0 % p) = resL p xs := by
  rw [mixL_all]
  unfold resL
  apply List.ext_getElem (by simp)
  intro i h1 h2
  have : i < xs.length := by simpa using h2
  simp [List.getD, this]
set_option maxHeartbeats 2000000 in
theorem sRed (r c p : Int) (a : Option Addr) (m : Nat) (xs : List Int) (w : World) (h : Rd w a xs) (hn : xs.length ≤ 16777216) (ha : Spot a) :
    Calls Try.prog 30 #[.agg #[.int .i64 r, .int .i64 c, .slice a xs.length m], .int .i64 p] w (MatRes (redM r c p xs) w) := by
  have IM : Hid (∀ w', Below w.heap.size w w' → Calls Try.prog 68 #[.agg #[.int .i64 r, .int .i64 c, .slice a xs.length m]] w' (Gives (.bool (isMat r c xs)) w')) := fun w' hb => sIsMat r c a m xs w' (h.below hb) hn
  have HX : Hid (isMat r c xs = true → xs.length ≤ 576) := fun hm => by
    obtain ⟨⟨r0, r1⟩, ⟨c0, c1⟩, hl, -⟩ := isMat_says hm
    have h2 : r * c ≤ 24 * 24 := Int.mul_le_mul (by omega) (by omega) c0 (by omega)
    omega
  have CP : Hid (xs.length ≤ 576 → ∀ w', Below w.heap.size w w' → Calls Try.prog 69 #[.agg #[.int .i64 r, .int .i64 c, .slice a xs.length m]] w' (fun e w2 => ∃ g cap : Nat, e = .returned (.agg #[.int .i64 r, .int .i64 c, .slice (some ⟨g, 0, none⟩) xs.length cap]) ∧ w'.heap.size ≤ g ∧ IntsC w2 g cap xs ∧ Below w'.heap.size w' w2)) := fun hl w' hb => sCopyA r c a m xs.length xs w' (h.below hb) ha rfl (by omega)
  have VN : Hid (isMat r c xs = false ∨ prmB p = false → redM r c p xs = MR.no) := fun h => by
    show _ = _
    unfold redM
    rcases h with h | h
    · rw [h]; rfl
    · rw [h, Bool.and_false]; rfl
  have VY : Hid (isMat r c xs = true → prmB p = true → redM r c p xs = ⟨true, r, c, resL p xs⟩) := fun h1 h2 => by
    show _ = _
    unfold redM
    rw [h1, h2]; rfl
  have PB : Hid (prmB p = true → 2 ≤ p ∧ p ≤ 10000) := fun h => ⟨(prmB_says h).1.1, (prmB_says h).2⟩
  have ML : Hid (∀ k, (mixL xs k fun i => xs.getD i 0 % p).length = xs.length) := fun k => mixL_length _ _ _
  have MA : Hid (∀ k, (mixL xs k fun i => xs.getD i 0 % p).getD k 0 = xs.getD k 0) := fun k => mixL_at _ _ _
  have MS : Hid (∀ k, (mixL xs k fun i => xs.getD i 0 % p).set k (xs.getD k 0 % p) = mixL xs (k + 1) fun i => xs.getD i 0 % p) := fun k => mixL_step xs k (fun i => xs.getD i 0 % p)
  have MZ : Hid ((mixL xs 0 fun i => xs.getD i 0 % p) = xs) := mixL_zero _ _
  have ME : Hid ((mixL xs xs.length fun i => xs.getD i 0 % p) = resL p xs) := resL_mix
  have RN : Hid ((resL p xs).length = xs.length) := by show _ = _; unfold resL; exact List.length_map ..
  obtain ⟨N, hN⟩ : ∃ N, xs.length = N := ⟨_, rfl⟩
  rw [hN] at IM CP HX ML ME RN hn ⊢
  generalize redM r c p xs = RES at VN VY ⊢
  generalize isMat r c xs = bm at IM HX VN VY
  have XN := Lib.hid hN
  clear h ha hN
  go_enter Try.func30, Try.ntmps30
  go_upto_region 1 with fail
  have K0 : Hid (Blk3 ((w.alloc (.cells #[.int .i64 r, .int .i64 c, .slice a N m] 26)).alloc (.cells #[.int .i64 0, .int .i64 0, .slice none 0 0] 26)) w.heap.size 26 (.int .i64 r) (.int .i64 c) (.slice a N m)) := (Blk3.at_ _ _ _ _ rfl).old _
  have R0 : Hid (Blk3 ((w.alloc (.cells #[.int .i64 r, .int .i64 c, .slice a N m] 26)).alloc (.cells #[.int .i64 0, .int .i64 0, .slice none 0 0] 26)) (w.heap.size + 1) 26 (.int .i64 0) (.int .i64 0) (.slice none 0 0)) := Blk3.at_ _ _ _ _ (by simp)
  have B0 : Hid (Below w.heap.size w ((w.alloc (.cells #[.int .i64 r, .int .i64 c, .slice a N m] 26)).alloc (.cells #[.int .i64 0, .int .i64 0, .slice none 0 0] 26))) := ((Below.refl _ _).alloc (Nat.le_refl _) _).alloc (by simp) _
  have S0 : Hid (((w.alloc (.cells #[.int .i64 r, .int .i64 c, .slice a N m] 26)).alloc (.cells #[.int .i64 0, .int .i64 0, .slice none 0 0] 26)).heap.size = w.heap.size + 2) := by show _ = _; simp
  generalize (w.alloc (.cells #[.int .i64 r, .int .i64 c, .slice a N m] 26)).alloc (.cells #[.int .i64 0, .int .i64 0, .slice none 0 0] 26) = W0 at K0 R0 B0 S0 ⊢
  obtain ⟨p0, p1, p2, -, -, -⟩ := K0.out.all
  go_wp2_with fail
  refine (IM.out _ B0.out).mono ?_
  rintro e w1 ⟨rfl, hb⟩
  have s0 := S0.out
  have sb := hb.size
  have K1 := Lib.hid (K0.out.step hb)
  have R1 := Lib.hid (R0.out.step hb)
  have B1 := Lib.hid (B0.out.trans (hb.mono (by omega)))
  clear hb K0 R0 B0 S0 p0 p1 p2
  obtain ⟨p0, p1, p2, -, -, -⟩ := K1.out.all
  cases bm with
  | false =>
    have RX := Lib.hid (VN.out (.inl rfl))
    clear p0 p1 p2
    obtain ⟨r0, r1, r2, f0, f1, f2⟩ := R1.out.all
    go_wp2_with fail
    obtain ⟨E0, E1, E2, -, -, -⟩ := (((R1.out.set0 (.int .i64 0)).set1 (.int .i64 0)).set2 (.slice none 0 0)).all
    rw [RX.out]
    exact bodyPost_ret (v := .tuple #[.agg #[.int .i64 0, .int .i64 0, .slice none 0 0], .bool false]) (by simp [results, Try.results30, go_sem, E0, E1, E2]) rfl ⟨_, rfl, .inl ⟨rfl, rfl⟩, ((B1.out.setCell (Nat.le_succ _) _).setCell (Nat.le_succ _) _).setCell (Nat.le_succ _) _⟩
  | true =>
    go_wp2_with fail
    refine (sPrime p _).mono ?_
    rintro e w2 ⟨rfl, rfl⟩
    obtain ⟨bp, hbp⟩ : ∃ b, prmB p = b := ⟨_, rfl⟩
    rw [hbp] at VN VY PB ⊢
    clear hbp
    cases bp with
    | false =>
      have RX := Lib.hid (VN.out (.inr rfl))
      clear p0 p1 p2
      obtain ⟨r0, r1, r2, f0, f1, f2⟩ := R1.out.all
      go_wp2_with fail
      obtain ⟨E0, E1, E2, -, -, -⟩ := (((R1.out.set0 (.int .i64 0)).set1 (.int .i64 0)).set2 (.slice none 0 0)).all
      rw [RX.out]
      exact bodyPost_ret (v := .tuple #[.agg #[.int .i64 0, .int .i64 0, .slice none 0 0], .bool false]) (by simp [results, Try.results30, go_sem, E0, E1, E2]) rfl ⟨_, rfl, .inl ⟨rfl, rfl⟩, ((B1.out.setCell (Nat.le_succ _) _).setCell (Nat.le_succ _) _).setCell (Nat.le_succ _) _⟩
    | true =>
      obtain ⟨hp1, hp2⟩ := PB.out rfl
      have N5 := HX.out trivial
      have RX := Lib.hid (VY.out trivial rfl)
      go_wp2_with fail
      refine (CP.out N5 _ B1.out).mono ?_
      rintro e w3 ⟨g, cap, rfl, hg, hi, hb⟩
      have gl := hi.lt
      have sb3 := hb.size
      have R3 := Lib.hid ((R1.out.step hb).old (.cells #[.int .i64 r, .int .i64 c, .slice (some ⟨g, 0, none⟩) N cap] 26))
      have Bx := B1.out.trans (hb.mono (by omega))
      have B3 := Lib.hid (Bx.alloc Bx.size (.cells #[.int .i64 r, .int .i64 c, .slice (some ⟨g, 0, none⟩) N cap] 26))
      have hcap := hi.le
      have I3 := Lib.hid (hi.ints.old (.cells #[.int .i64 r, .int .i64 c, .slice (some ⟨g, 0, none⟩) N cap] 26))
      have A3 : Hid (Blk3 (w3.alloc (.cells #[.int .i64 r, .int .i64 c, .slice (some ⟨g, 0, none⟩) N cap] 26)) w3.heap.size 26 (.int .i64 r) (.int .i64 c) (.slice (some ⟨g, 0, none⟩) N cap)) := Blk3.at_ _ _ _ _ rfl
      rw [XN.out] at hcap
      have S3 : Hid ((w3.alloc (.cells #[.int .i64 r, .int .i64 c, .slice (some ⟨g, 0, none⟩) N cap] 26)).heap.size = w3.heap.size + 1) := by show _ = _; simp
      clear hb Bx hi p0 p1 p2 K1 R1 B1 IM CP
      go_upto_region 4 with fail
      generalize w3.alloc (.cells #[.int .i64 r, .int .i64 c, .slice (some ⟨g, 0, none⟩) N cap] 26) = W3 at R3 B3 I3 A3 S3 ⊢
      obtain ⟨b, hbb⟩ : ∃ b, w3.heap.size = b := ⟨_, rfl⟩
      rw [hbb] at A3 S3 gl sb3 ⊢
      obtain ⟨rb, hrb⟩ : ∃ rb, w.heap.size + 1 = rb := ⟨_, rfl⟩
      rw [hrb] at R3 ⊢
      have l1 : w.heap.size ≤ rb := by omega
      have l2 : rb < g := by omega
      have l3 : g < b := gl
      clear hbb hrb gl sb3 sb s0 hg
      go_wp2_with fail
      go_loopw [7] (fun i wr => ∃ k : Nat, i = .int .i64 k ∧ k ≤ N ∧ Ints wr g (mixL xs k fun i => xs.getD i 0 % p) ∧ W3.grownBy wr (some g)) (fun i _ => N - (intOf i).toNat)
      case atStart => exact ⟨0, rfl, by omega, by rw [MZ.out]; exact I3.out, World.grownBy.refl _ _⟩
      case round =>
        obtain ⟨k, rfl, hk, hi, hgr⟩ := hrel
        have I := Lib.hid hi
        have G := Lib.hid hgr
        clear hi hgr
        have R4 := Lib.hid (R3.out.keepOne G.out (by omega))
        have A4 := Lib.hid (A3.out.keepOne G.out (by omega))
        have B4 := Lib.hid (B3.out.trans (below_of_one G.out (by omega) B3.out.size))
        obtain ⟨p0, p1, p2, -, -, -⟩ := A4.out.all
        by_cases hlt : k < N
        · have hca := I.out.cell (i := k) (by rw [ML.out]; exact hlt)
          have hfr := I.out.free k
          rw [MA.out] at hca
          have MK := Lib.hid (MS.out k)
          obtain ⟨x, hx⟩ : ∃ x, xs.getD k 0 = x := ⟨_, rfl⟩
          rw [hx] at hca MK
          clear hx
          go_wp2_with fail
          refine wp_region_still_tail 11 (by kernel_rfl) (by kernel_rfl) ?_
          simp only [List.take_succ_cons, List.take_zero, List.drop_succ_cons, List.drop_zero]
          repeat still_step
          still_call ((sMod x p _ (by omega) (by omega)).mono fun _ _ h => ⟨h.1, h.2.symm⟩)
          repeat still_step
          try refine wpStill_nil ?_
          have I5 := Lib.hid ((I.out.drew).set k (x % p))
          have G5 := Lib.hid (grown_set_one (a := ⟨g, k, none⟩) (grown_drew_one G.out) rfl (.int .i64 (x % p)))
          go_wp2_with fail
          go_roundw
          case rel => exact ⟨k + 1, by go_num, by omega, by rw [← MK.out]; exact I5.out, G5.out⟩
          case measure => simp [intOf]; omega
        · obtain rfl : N = k := by omega
          rw [ME.out] at I
          obtain ⟨r0, r1, r2, f0, f1, f2⟩ := R4.out.all
          go_wp2_with fail
          obtain ⟨E0, E1, E2, -, -, -⟩ := (((R4.out.set0 (.int .i64 r)).set1 (.int .i64 c)).set2 (.slice (some ⟨g, 0, none⟩) N cap)).all
          rw [RX.out]
          refine bodyPost_ret (v := .tuple #[.agg #[.int .i64 r, .int .i64 c, .slice (some ⟨g, 0, none⟩) N cap], .bool true]) (by simp [results, Try.results30, go_sem, E0, E1, E2]) rfl ⟨_, rfl, .inr ⟨g, cap, by rw [RN.out], by omega, ?_, by rw [RN.out]; omega, by rw [RN.out]; omega⟩, ((B4.out.setCell l1 _).setCell l1 _).setCell l1 _⟩
          exact ((I.out.far (a := ⟨rb, 0, none⟩) (by show g ≠ rb; omega) _).far (a := ⟨rb, 1, none⟩) (by show g ≠ rb; omega) _).far (a := ⟨rb, 2, none⟩) (by show g ≠ rb; omega) _
end Go.Proofs.Ytncplikadacjnaa
end

section
/-
  A row of ints of a call's own, that append may go on with.
-/
namespace Go.Proofs.Ytncplikadacjnaa
open Go.RowKit

def OwnQ (B : Nat) (w : World) (v : Value) (zs : List Int) : Prop := w.ownsRow B 3 1 v zs.length (zs.map (Value.int .i64))
theorem OwnQ.le {B : Nat} {w : World} {v : Value} {zs : List Int} (h : OwnQ B w v zs) {k : Nat} (hk : v.ownBlock = some k) : B ≤ k := by
  rcases h.2 with ⟨rfl, -⟩ | ⟨g, cap, cur, rfl, hB, -⟩
  · cases hk
  · simp [Value.ownBlock] at hk; omega
theorem OwnQ.move {B : Nat} {w w' : World} {v : Value} {zs : List Int} (h : OwnQ B w v zs) (hb : ∀ k, v.ownBlock = some k → w'.heap[k]? = w.heap[k]?) : OwnQ B w' v zs := by
  obtain ⟨h1, ⟨h2, h3⟩ | ⟨g, cap, cur, rfl, hB, hg, rest⟩⟩ := h
  · exact ⟨h1, .inl ⟨h2, h3⟩⟩
  · exact ⟨h1, .inr ⟨g, cap, cur, rfl, hB, (hb g rfl).trans hg, rest⟩⟩
theorem OwnQ.lt {B : Nat} {w : World} {v : Value} {zs : List Int} (h : OwnQ B w v zs) {k : Nat} (hk : v.ownBlock = some k) : k < w.heap.size := by
  rcases h.2 with ⟨rfl, -⟩ | ⟨g, cap, cur, rfl, hB, hg, -⟩
  · cases hk
  · simp only [Value.ownBlock, Option.some.injEq] at hk
    subst hk
    exact lt_of_block hg
theorem OwnQ.one {B rb : Nat} {w w' : World} {v : Value} {zs : List Int} (h : OwnQ B w v zs) (hg : w.grownBy w' (some rb)) (hr : rb < B) : OwnQ B w' v zs :=
  h.move fun k hk => hg.block k (h.lt hk) (by have := h.le hk; simp; omega)
theorem OwnQ.drewN {B : Nat} {w : World} {v : Value} {zs : List Int} (h : OwnQ B w v zs) (n : Nat) : OwnQ B (w.drewN n) v zs := h
theorem OwnQ.keep {B : Nat} {w w' : World} {v : Value} {zs : List Int} (h : OwnQ B w v zs) (hb : Below w.heap.size w w') : OwnQ B w' v zs := h.move fun k hk => hb.block k (h.lt hk)
theorem OwnQ.lower {B B' : Nat} {w : World} {v : Value} {zs : List Int} (h : OwnQ B w v zs) (hB : B' ≤ B) : OwnQ B' w v zs := by
  obtain ⟨h1, h2 | ⟨g, cap, cur, e, hg, rest⟩⟩ := h
  · exact ⟨h1, .inl h2⟩
  · exact ⟨h1, .inr ⟨g, cap, cur, e, by omega, rest⟩⟩
theorem OwnQ.form {B : Nat} {w : World} {v : Value} {zs : List Int} (h : OwnQ B w v zs) : ∃ a c, v = .slice a zs.length c := by
  obtain ⟨h1, ⟨h2, h3⟩ | ⟨g, cap, cur, e, hB, hg, rest⟩⟩ := h
  · exact ⟨_, _, by rw [h2, h3]⟩
  · exact ⟨_, _, e⟩
theorem OwnQ.own {B : Nat} {w : World} {v : Value} {zs : List Int} (h : OwnQ B w v zs) (hn : zs.length ≤ 16777216) : Own B w v zs := Own.of_row h hn
theorem OwnQ.nil (B : Nat) (w : World) : OwnQ B w (.slice none 0 0) [] := ⟨rfl, .inl ⟨rfl, rfl⟩⟩
theorem OwnQ.none_ {B : Nat} {w : World} {g : Nat} (hB : B ≤ g) (h : IntsC w g 0 []) : OwnQ B w (.slice (some ⟨g, 0, none⟩) 0 0) [] := h.row hB
end Go.Proofs.Ytncplikadacjnaa
end

section
/-
  Chapter 8, in the program: the iterator over primes; IsPrime.
-/
namespace Go.Proofs.Ytncplikadacjnaa
set_option maxRecDepth 100000
open Go.RowKit Go.Shelf

/-- The primes below n, in order. -/
def prmTo (n : Nat) : List Int := ((List.range n).filter fun (q : Nat) => prmB (q : Int)).map fun (q : Nat) => (q : Int)
theorem prmTo_succ (n : Nat) : prmTo (n + 1) = if prmB (n : Int) = true then prmTo n ++ [(n : Int)] else prmTo n := by
  unfold prmTo
  rw [List.range_succ, List.filter_append, List.map_append]
  by_cases h : prmB (n : Int) = true
  · rw [if_pos h]; simp [h]
  · rw [if_neg h]; simp [h]
theorem prmTo_mem {n : Nat} {x : Int} : x ∈ prmTo n ↔ ∃ q : Nat, x = q ∧ q < n ∧ prmB (q : Int) = true := by
  unfold prmTo
  simp only [List.mem_map, List.mem_filter, List.mem_range]
  exact ⟨fun ⟨q, ⟨h1, h2⟩, e⟩ => ⟨q, e.symm, h1, h2⟩, fun ⟨q, e, h1, h2⟩ => ⟨q, ⟨h1, h2⟩, e.symm⟩⟩
theorem prmTo_two : prmTo 2 = [] := by decide
theorem prmTo_length (n : Nat) : (prmTo n).length ≤ n := by
  unfold prmTo
  rw [List.length_map]
  exact Nat.le_trans (List.length_filter_le _ _) (by simp)
/-- The least divisor of a number is prime. -/
theorem least_div : ∀ n d : Nat, 2 ≤ d → d ∣ n → 0 < n → ∃ q : Nat, 2 ≤ q ∧ q ≤ d ∧ q ∣ n ∧ ∀ e : Nat, 2 ≤ e → e < q → ¬ e ∣ n := by
  intro n d
  induction d using Nat.strongRecOn with
  | ind d ih =>
    intro hd hdv hn
    by_cases h : ∃ e, 2 ≤ e ∧ e < d ∧ e ∣ n
    · obtain ⟨e, e1, e2, e3⟩ := h
      obtain ⟨q, q1, q2, q3⟩ := ih e e2 e1 e3 hn
      exact ⟨q, q1, by omega, q3⟩
    · exact ⟨d, hd, Nat.le_refl _, hdv, fun e e1 e2 e3 => h ⟨e, e1, e2, e3⟩⟩
theorem prm_of_least {n q : Nat} (h1 : 2 ≤ q) (h2 : q ≤ 10000) (h3 : q ∣ n) (h4 : ∀ e : Nat, 2 ≤ e → e < q → ¬ e ∣ n) : prmB (q : Int) = true := by
  refine prmB_true ⟨by omega, by omega⟩ fun d hd hdd hdv => ?_
  have e1 : d ∣ q := Int.natCast_dvd_natCast.mp hdv
  have e2 : d * d ≤ q := by rw [← Int.natCast_mul] at hdd; omega
  have e3 : d < q := by
    have : 2 * d ≤ d * d := Nat.mul_le_mul_right d hd
    omega
  exact h4 d hd e3 (Nat.dvd_trans e1 h3)
/-- A number is prime exactly if no prime below it divides it. -/
theorem prm_iff {n : Nat} (h1 : 2 ≤ n) (h2 : n ≤ 10000) : prmB (n : Int) = true ↔ ∀ x ∈ prmTo n, (n : Int) % x ≠ 0 := by
  constructor
  · intro hp x hx he
    obtain ⟨q, rfl, hq, hqp⟩ := prmTo_mem.mp hx
    have hq2 := (prmB_says hqp).1.1
    have hdv : q ∣ n := Int.natCast_dvd_natCast.mp (Int.dvd_of_emod_eq_zero he)
    obtain ⟨m, hm⟩ := hdv
    obtain ⟨pp, -⟩ := prmB_says hp
    have hm2 : 2 ≤ m := by
      rcases Nat.lt_or_ge m 2 with h | h
      · have : m = 0 ∨ m = 1 := by omega
        rcases this with rfl | rfl
        · omega
        · omega
      · exact h
    rcases Nat.le_total q m with h | h
    · refine pp.2 q (by omega) ?_ ⟨m, by rw [hm, Int.natCast_mul]⟩
      rw [hm, ← Int.natCast_mul]
      exact Int.ofNat_le.mpr (Nat.mul_le_mul_left q h)
    · refine pp.2 m (by omega) ?_ ⟨q, by rw [hm, Int.natCast_mul, Int.mul_comm]⟩
      rw [hm, ← Int.natCast_mul]
      exact Int.ofNat_le.mpr (Nat.mul_le_mul_right m h)
  · intro h
    obtain ⟨q, q1, q2, q3, q4⟩ := least_div n n h1 (Nat.dvd_refl n) (by omega)
    have hq := prm_of_least q1 (by omega) q3 q4
    rcases Nat.lt_or_ge q n with h3 | h3
    · exact absurd (Int.emod_eq_zero_of_dvd (Int.natCast_dvd_natCast.mpr q3)) (h q (prmTo_mem.mpr ⟨q, rfl, h3, hq⟩))
    · obtain rfl : q = n := by omega
      exact hq
/-- A number that is not prime has a prime divisor whose square is not beyond it. -/
theorem not_prm {p : Int} (h1 : 2 ≤ p) (h2 : p ≤ 10000) (h : prmB p = false) : ∃ q : Nat, q < 10001 ∧ prmB (q : Int) = true ∧ (q : Int) * (q : Int) ≤ p ∧ p % (q : Int) = 0 := by
  obtain ⟨n, rfl⟩ := Int.eq_ofNat_of_zero_le (show 0 ≤ p by omega)
  have hx : ¬ ∀ d : Nat, 2 ≤ d → (d : Int) * (d : Int) ≤ (n : Int) → ¬ (d : Int) ∣ (n : Int) := fun h3 => by
    rw [prmB_true ⟨h1, h2⟩ h3] at h; cases h
  have : ∃ d : Nat, 2 ≤ d ∧ (d : Int) * (d : Int) ≤ (n : Int) ∧ (d : Int) ∣ (n : Int) := Classical.byContradiction fun hn => hx fun d e1 e2 e3 => hn ⟨d, e1, e2, e3⟩
  obtain ⟨d, d1, d2, d3⟩ := this
  obtain ⟨q, q1, q2, q3, q4⟩ := least_div n d d1 (Int.natCast_dvd_natCast.mp d3) (by omega)
  have hqd : q * q ≤ d * d := Nat.mul_le_mul q2 q2
  rw [← Int.natCast_mul] at d2
  have h5 : q ≤ q * q := Nat.le_mul_of_pos_left q (by omega)
  refine ⟨q, by omega, prm_of_least q1 (by omega) q3 q4, by rw [← Int.natCast_mul]; omega, Int.emod_eq_zero_of_dvd (Int.natCast_dvd_natCast.mpr q3)⟩
/-- A prime whose square is not beyond p divides no prime p. -/
theorem prm_not {p : Int} {q : Nat} (h : prmB p = true) (hq : 2 ≤ q) (hqq : (q : Int) * (q : Int) ≤ p) : p % (q : Int) ≠ 0 := fun e => (prmB_says h).1.2 q (by omega) hqq (Int.dvd_of_emod_eq_zero e)
end Go.Proofs.Ytncplikadacjnaa
end

section
/-
  Chapter 8, in the program: slices.ContainsFunc with the iterator's test.
-/
namespace Go.Proofs.Ytncplikadacjnaa
set_option maxRecDepth 100000
open Go.RowKit Go.Shelf

theorem iDivides (n x : Int) (b : Nat) (w : World) (hb : w.cell? ⟨b, 0, none⟩ = some (.int .i64 n)) (hn : 0 ≤ n) (hx : 2 ≤ x) :
    Calls Try.prog 97 #[.int .i64 x, .pointer (some ⟨b, 0, none⟩)] w fun e w' => e = .returned (.bool (n % x == 0)) ∧ w = w' := by
  have h0 : (x == 0) = false := by simp; omega
  go_enter Try.func97, Try.ntmps97
  go_wp2_with fail
  go_ret
  exact ⟨rfl, rfl⟩
set_option maxHeartbeats 1000000 in
theorem iIdx (n : Int) (b m L : Nat) (q : Option Addr) (xs : List Int) (w : World) (h : Rd w q xs) (hL : xs.length = L) (hb : w.cell? ⟨b, 0, none⟩ = some (.int .i64 n)) (hn : 0 ≤ n) (hx : ∀ k, k < L → 2 ≤ xs.getD k 0) (hl : L ≤ 16777216) :
    Calls Try.prog 109 #[.slice q L m, .func (.func 97) #[] #[.pointer (some ⟨b, 0, none⟩)]] w fun e w' => ((∃ k : Nat, e = .returned (.int .i64 k) ∧ k < L ∧ n % xs.getD k 0 = 0) ∨ (e = .returned (.int .i64 (-1)) ∧ ∀ k, k < L → n % xs.getD k 0 ≠ 0)) ∧ w = w' := by
  have H := Lib.hid h
  have HX := Lib.hid hx
  have HL := Lib.hid hL
  have HB := Lib.hid hb
  clear h hx hL hb
  go_enter Try.func109, Try.ntmps109
  go_wp2_with fail
  go_loopw [5, 8] (fun _ v8 wr => ∃ k : Nat, v8 = .int .i64 k ∧ k ≤ L ∧ (∀ i, i < k → n % xs.getD i 0 ≠ 0) ∧ wr = w) (fun _ v8 _ => L - (intOf v8).toNat)
  case atStart => exact ⟨0, rfl, by omega, fun i hi => by omega, rfl⟩
  case round =>
    obtain ⟨k, rfl, hk, hi, rfl⟩ := hrel
    have HI := Lib.hid hi
    clear hi
    by_cases hlt : k < L
    · obtain ⟨g, o, rfl, hc⟩ := H.out k (by rw [HL.out]; exact hlt)
      have hx := HX.out k hlt
      obtain ⟨x, hxx⟩ : ∃ x, xs.getD k 0 = x := ⟨_, rfl⟩
      have X := Lib.hid hxx
      rw [hxx] at hc hx
      clear hxx
      by_cases hz : n % x = 0
      · have hcall := iDivides n x b wr HB.out hn hx
        rw [show (n % x == 0) = true by simp [hz]] at hcall
        go_wp2_with fail
        refine hcall.mono ?_
        rintro e w' ⟨rfl, rfl⟩
        go_wp2_with fail
        go_ret
        exact ⟨.inl ⟨k, rfl, hlt, by rw [X.out]; exact hz⟩, rfl⟩
      · have hcall := iDivides n x b wr HB.out hn hx
        rw [show (n % x == 0) = false by simpa using hz] at hcall
        go_wp2_with fail
        refine hcall.mono ?_
        rintro e w' ⟨rfl, rfl⟩
        go_wp2_with fail
        go_roundw
        case rel => exact ⟨k + 1, by go_num, by omega, fun i hi2 => by
          rcases Nat.lt_or_ge i k with h3 | h3
          · exact HI.out i h3
          · obtain rfl : i = k := by omega
            rw [X.out]; exact hz, trivial⟩
        case measure => simp [intOf]; omega
    · obtain rfl : k = L := by omega
      go_wp2_with fail
      go_ret
      exact ⟨.inr ⟨rfl, HI.out⟩, rfl⟩
theorem iContains (n : Int) (b m L : Nat) (q : Option Addr) (xs : List Int) (w : World) (h : Rd w q xs) (hL : xs.length = L) (hb : w.cell? ⟨b, 0, none⟩ = some (.int .i64 n)) (hn : 0 ≤ n) (hx : ∀ k, k < L → 2 ≤ xs.getD k 0) (hl : L ≤ 16777216) (t : Bool) (ht : t = true ↔ ∃ k, k < L ∧ n % xs.getD k 0 = 0) :
    Calls Try.prog 96 #[.slice q L m, .func (.func 97) #[] #[.pointer (some ⟨b, 0, none⟩)]] w fun e w' => e = .returned (.bool t) ∧ w = w' := by
  have hi := Lib.hid (iIdx n b m L q xs w h hL hb hn hx hl)
  clear h hL hb hx
  go_enter Try.func96, Try.ntmps96
  go_wp2_with fail
  refine hi.out.mono ?_
  rintro e w' ⟨⟨k, rfl, h1, h2⟩ | ⟨rfl, h1⟩, rfl⟩
  · obtain rfl : t = true := ht.mpr ⟨k, h1, h2⟩
    clear ht
    go_wp2_with fail
    go_ret
    exact ⟨rfl, rfl⟩
  · obtain rfl : t = false := by
      cases t with
      | false => rfl
      | true => obtain ⟨k, h2, h3⟩ := ht.mp rfl; exact absurd h3 (h1 k h2)
    clear ht
    go_wp2_with fail
    go_ret
    exact ⟨rfl, rfl⟩
end Go.Proofs.Ytncplikadacjnaa
end

section
/-
  A range over an iterator that keeps what it knows in cells of its own: the loop's invariant abides whatever happens to blocks that were laid since the loop began. No function of the program is named.
-/
namespace Go.Proofs.Ytncplikadacjnaa
open Go.RowKit

/-- Blocks from B on may have changed in any way. -/
def AbX {β : Type} (B : Nat) (J : β → World → Prop) : Prop := ∀ s W W' row, J s W → W.grownBy W' row → (∀ r, row = some r → B ≤ r) → J s W'
/-- Blocks from B on lie as they lay. -/
def KpX (B : Nat) (W W' : World) : Prop := W.heap.size ≤ W'.heap.size ∧ ∀ k, B ≤ k → k < W.heap.size → W'.heap[k]? = W.heap[k]?
theorem KpX.refl (B : Nat) (W : World) : KpX B W W := ⟨Nat.le_refl _, fun _ _ _ => rfl⟩
theorem KpX.trans {B : Nat} {U V W : World} (h : KpX B U V) (h' : KpX B V W) : KpX B U W := ⟨Nat.le_trans h.1 h'.1, fun k hk hl => (h'.2 k hk (Nat.lt_of_lt_of_le hl h.1)).trans (h.2 k hk hl)⟩
theorem KpX.put {B l : Nat} (W : World) (hl : l < B) (o : Obj) : KpX B W (W.putObj l o) := ⟨by simp, fun k hk _ => World.putObj_heap_other (by omega)⟩
theorem KpX.set {B : Nat} (W : World) {a : Addr} (ha : a.block < B) (v : Value) : KpX B W (W.setCell a v) := ⟨by simp [World.setCell], fun k hk _ => Below.heap_setCell W a v k (by omega)⟩
theorem KpX.at_ {B k : Nat} {W W' : World} {o : Obj} (h : KpX B W W') (hk : B ≤ k) (e : W.heap[k]? = some o) : W'.heap[k]? = some o := (h.2 k hk (Array.getElem?_eq_some_iff.mp e).1).trans e
def SeqX {α : Type} (F : Fence) (n : Nat) (P : Program) (g : Nat) (encs : α → Array Value) (S Sp : List α → Prop) (N : Nat) : Prop :=
  ∀ (l : Nat) (J Jx : List α → World → Prop) (W : World), AbX W.heap.size J → AbX W.heap.size Jx →
    (∀ pre x W1, J pre W1 → pre.length < N → YieldAt F (n - 1) P l (encs x) W1 fun e W' => (e = .returned (.bool true) ∧ J (pre ++ [x]) W' ∧ KpX W.heap.size W1 W') ∨ (e = .returned (.bool false) ∧ Jx (pre ++ [x]) W')) →
    J [] W → CallsIn F n P g #[.func (.yield l) #[] #[]] W fun e W' => (∃ v, e = .returned v) ∧ ((∃ xs, S xs ∧ J xs W') ∨ (∃ pre, Sp pre ∧ Jx pre W'))
/-- How a round's body may be left. -/
def bodyX {α : Type} (B : Nat) (I : List α → World → Prop) (Ix : Code → List α → World → Prop) (xs : List α) (W : World) : Exit → Act → World → Prop
  | .normal, _, W' => KpX B W W' ∧ I xs W'
  | .ret, _, W' => KpX B W W' ∧ Ix .ret xs W'
  | .exit id, _, W' => KpX B W W' ∧ Ix (.exit id) xs W'
  | .goto t, _, W' => KpX B W W' ∧ Ix (.goto t) xs W'
  | _, _, _ => False
theorem AbX.put {β : Type} {B l : Nat} {J : β → World → Prop} (h : AbX B J) {s : β} {W : World} (hs : J s W) (hl : B ≤ l) (o : Obj) : J s (W.putObj l o) :=
  h s W _ (some l) hs (grownBy_putObj' W l o) (fun r e => by cases e; exact hl)
theorem AbX.old {β : Type} {B : Nat} {J : β → World → Prop} (h : AbX B J) {s : β} {W : World} (hs : J s W) (o : Obj) : J s (W.alloc o) :=
  h s W _ none hs (World.grownBy_alloc W o none) (fun r e => by cases e)
/-- The record of the loop, as it lies at one time. -/
def recX (fn : Nat) (a : Act) (ps : Array Tmp) (assign body : Code) (D : Nat) (st : LoopState) (pe : Option Code) : Loop := { state := st, pending := pe, fn, tmps := a.tmps, params := ps, assign, body, defers := D }
/-- What holds between two rounds, with the record and the block for deferred calls beside it. -/
def betX {α : Type} (D : Nat) (R : Loop) (I : List α → World → Prop) (pre : List α) (W : World) : Prop := I pre W ∧ W.heap[D + 1]? = some (.loop R) ∧ W.heap[D]? = some (.deferred (some []))
theorem betX.ab {α : Type} {D : Nat} {R : Loop} {I : List α → World → Prop} (h : AbX D I) : AbX (D + 2) (betX D R I) := fun s A B row hs hg hr => by
  obtain ⟨h1, h2, h3⟩ := hs
  exact ⟨h s A B row h1 hg (fun r e => by have := hr r e; omega), (hg.block _ (Array.getElem?_eq_some_iff.mp h2).1 (fun e => by have := hr _ e.symm; omega)).trans h2, (hg.block _ (Array.getElem?_eq_some_iff.mp h3).1 (fun e => by have := hr _ e.symm; omega)).trans h3⟩
theorem betX.put {α : Type} {D : Nat} {R R' : Loop} {I I' : List α → World → Prop} {xs ys : List α} {W : World} (hI : AbX D I') (h : betX D R I ys W) (h' : I' xs W) : betX D R' I' xs (W.putObj (D + 1) (.loop R')) :=
  ⟨hI.put h' (by omega) _, World.putObj_heap_same (Array.getElem?_eq_some_iff.mp h.2.1).1, (World.putObj_heap_other (by omega)).trans h.2.2⟩
theorem wpIn_rangeX {F : Fence} {n : Nat} {P : Program} {α : Type} {g : Operand} {ps : Array Tmp} {assign body : Code} {Q : Exit → Act → World → Prop} {a : Act} {w : World}
    (hro : F.round = none) (h1 : 1 ≤ n) {gf : Nat} (hg : a.eval g = .func (.func gf) #[] #[]) (hFg : F.fn gf) (eg : ∀ args w, (callFunc gf args).run P w = .ok (.enter gf args) w)
    {encs : α → Array Value} {S Sp : List α → Prop} {N : Nat} (hseq : SeqX F (n - 1) P gf encs S Sp N) (hps : ∀ x, (encs x).size = ps.size)
    (I : List α → World → Prop) (Ix : Code → List α → World → Prop) (hI : AbX w.heap.size I) (hIx : ∀ c, AbX w.heap.size (Ix c)) (h0 : I [] w) (a₁ : α → Act)
    (hassign : ∀ (l : Nat) (x : α) (W : World) (K : Act → World → Prop), K (a₁ x) W →
      assign.wpIn (F.inRound l) (n - 1 - 1) P (Exit.then K (fun _ _ _ => False)) { tmps := (ps.zip (encs x)).foldl (fun t (p, v) => t.setIfInBounds p v) a.tmps, defers := [] } W)
    (hbody : ∀ (l : Nat) (pre : List α) (x : α) (W : World), I pre W → pre.length < N → body.wpIn (F.inRound l) (n - 1 - 1) P (bodyX w.heap.size I Ix (pre ++ [x]) W) (a₁ x) W)
    (hdone : ∀ (xs : List α) (W : World), S xs → I xs W → W.heap[w.heap.size]? = some (.deferred (some [])) → Q .normal { a with defers := { target := .collected w.heap.size, args := #[] } :: a.defers } W)
    (hstop : ∀ (c : Code) (pre : List α) (W : World), Sp pre → Ix c pre W → W.heap[w.heap.size]? = some (.deferred (some [])) → c.wpIn F n P Q { a with defers := { target := .collected w.heap.size, args := #[] } :: a.defers } W) :
    (Code.rangeFunc g ps assign body).wpIn F n P Q a w := by
  refine wpIn_rangeFunc fun fn hfn => ?_
  rw [hro]
  generalize hD : w.heap.size = D at hI hIx hbody hdone hstop
  obtain ⟨R, hR⟩ : ∃ R : LoopState → Option Code → Loop, R = recX fn a ps assign body D := ⟨_, rfl⟩
  have sz : ((w.alloc (.deferred (some []))).alloc (.loop (R .ready none))).heap.size = D + 2 := by simp [hD]
  have st : betX D (R .ready none) I [] ((w.alloc (.deferred (some []))).alloc (.loop (R .ready none))) := by
    refine ⟨hI.old (hI.old h0 _) _, ?_, ?_⟩
    · have := World.alloc_heap_new (w.alloc (.deferred (some []))) (.loop (R .ready none))
      rwa [World.size_alloc, hD] at this
    · rw [← hD]
      exact (Below.heap_alloc _ _ _ (by simp)).trans (World.alloc_heap_new w _)
  refine ⟨D + 1, [{ target := .collected D, args := #[] }], (w.alloc (.deferred (some []))).alloc (.loop (R .ready none)), { target := .fn (.func gf) #[], args := #[.func (.yield (D + 1)) #[] #[]] }, (w.alloc (.deferred (some []))).alloc (.loop (R .ready none)), gf, #[.func (.yield (D + 1)) #[] #[]], (w.alloc (.deferred (some []))).alloc (.loop (R .ready none)), ?_, ?_, ?_, ?_, fun _ => h1, ?_⟩
  · rw [hR, ← hD]; exact run_enterLoop_outer _ _ _ _ _
  · simp only [resolve, hg]
    simp [go_sem]
  · intro f' hf'
    simp [Target.leads] at hf'
    subst hf'
    exact hFg
  · simp [invoke, go_sem, eg]
  · have ab2 : ∀ {I' : List α → World → Prop} {R' : Loop}, AbX D I' → AbX ((w.alloc (.deferred (some []))).alloc (.loop (R .ready none))).heap.size (betX D R' I') := fun h => by rw [sz]; exact betX.ab h
    refine (hseq (D + 1) (betX D (R .ready none) I) (fun pre W => ∃ c, betX D (R .done (some c)) (Ix c) pre W) _ (ab2 hI) (fun s A B row hs hg' hr => by
      obtain ⟨c, hc⟩ := hs
      exact ⟨c, ab2 (hIx c) s A B row hc hg' hr⟩) ?_ st).mono ?_
    · intro pre x W hJ hlen
      have hy := run_yield (P := P) (args := encs x) hJ.2.1 (by rw [hR]; exact hps x)
      rw [hR] at hy
      refine ⟨fn, _, assign, body, hy, roundIn_of_wpIn hfn (hassign _ x W _ ⟨_, run_beginRound hJ.2.1 (by rw [hR]; rfl), ?_⟩)⟩
      have hB : betX D { R .ready none with state := .busy } I pre (W.putObj (D + 1) (.loop { R .ready none with state := .busy })) := hJ.put hI hJ.1
      have k1 : KpX (D + 2) W (W.putObj (D + 1) (.loop { R .ready none with state := .busy })) := KpX.put W (by omega) _
      refine wpIn_mono (hbody _ pre x _ hB.1 hlen) ?_
      have fin : ∀ (jump : Option Code) (I' : List α → World → Prop) (W3 : World), AbX D I' → KpX D (W.putObj (D + 1) (.loop { R .ready none with state := .busy })) W3 → I' (pre ++ [x]) W3 →
          (Instr.endRound (D + 1) jump).run P W3 = .ok (.bool jump.isNone) (W3.putObj (D + 1) (.loop (R (if jump.isNone then .ready else .done) jump))) ∧ betX D (R (if jump.isNone then .ready else .done) jump) I' (pre ++ [x]) (W3.putObj (D + 1) (.loop (R (if jump.isNone then .ready else .done) jump))) ∧
          KpX (D + 2) W (W3.putObj (D + 1) (.loop (R (if jump.isNone then .ready else .done) jump))) := fun jump I' W3 hab hk hi => by
        have b3 : betX D { R .ready none with state := .busy } I' (pre ++ [x]) W3 := ⟨hi, hk.at_ (by omega) hB.2.1, hk.at_ (Nat.le_refl _) hB.2.2⟩
        have hr := run_endRound (P := P) jump b3.2.1
        rw [hR] at hr
        refine ⟨by rw [hR]; exact hr, b3.put hab hi, (k1.trans ⟨hk.1, fun k h1 h2 => hk.2 k (by omega) h2⟩).trans (KpX.put W3 (by omega) _)⟩
      rintro e a3 W3 hp
      have jumped : ∀ c : Code, KpX D (W.putObj (D + 1) (.loop { R .ready none with state := .busy })) W3 → Ix c (pre ++ [x]) W3 → ∃ v W4, (Instr.endRound (D + 1) (some c)).run P W3 = .ok v W4 ∧ ((Ending.returned v = .returned (.bool true) ∧ betX D (R .ready none) I (pre ++ [x]) W4 ∧ KpX ((w.alloc (.deferred (some []))).alloc (.loop (R .ready none))).heap.size W W4) ∨ (Ending.returned v = .returned (.bool false) ∧ ∃ c, betX D (R .done (some c)) (Ix c) (pre ++ [x]) W4)) := fun c hk hi => by
        obtain ⟨e1, e2, -⟩ := fin (some c) (Ix c) W3 (hIx c) hk hi
        exact ⟨_, _, e1, .inr ⟨rfl, c, e2⟩⟩
      cases e with
      | normal =>
        obtain ⟨e1, e2, e3⟩ := fin none I W3 hI hp.1 hp.2
        exact ⟨_, _, e1, .inl ⟨rfl, e2, by rw [sz]; exact e3⟩⟩
      | ret => exact jumped _ hp.1 hp.2
      | exit id => exact jumped _ hp.1 hp.2
      | goto t => exact jumped _ hp.1 hp.2
      | panic ch => exact hp.elim
      | outgrown => exact hp.elim
    · rintro e W2 ⟨⟨v, rfl⟩, ⟨xs, hS, hJ⟩ | ⟨pre, hSp, c, hJ⟩⟩
      · have hr := run_endLoop (P := P) hJ.2.1 (by rw [hR]; simp [recX])
        rw [hR] at hr
        exact ⟨none, _, hr, hdone xs _ hS (hI.put hJ.1 (by omega) _) ((World.putObj_heap_other (by omega)).trans hJ.2.2)⟩
      · have hr := run_endLoop (P := P) hJ.2.1 (by rw [hR]; simp [recX])
        rw [hR] at hr
        exact ⟨some c, _, hr, hstop c pre _ hSp ((hIx c).put hJ.1 (by omega) _) ((World.putObj_heap_other (by omega)).trans hJ.2.2)⟩
end Go.Proofs.Ytncplikadacjnaa
end

section
/-
  A block of one cell. No function of the program is named.
-/
namespace Go.Proofs.Ytncplikadacjnaa
open Go.RowKit

/-- A block of one cell, not frozen. -/
def Blk1 (w : World) (b : Nat) (t : TypeId) (p : Value) : Prop := w.heap[b]? = some (.cells #[p] t (0, 0))
theorem Blk1.cell0 {w : World} {b : Nat} {t : TypeId} {p : Value} (h : Blk1 w b t p) : w.cell? ⟨b, 0, none⟩ = some p := by unfold Blk1 at h; simp [World.cell?, h]
theorem Blk1.free {w : World} {b : Nat} {t : TypeId} {p : Value} (h : Blk1 w b t p) (o : Nat) : w.frozen? ⟨b, o, none⟩ = false := by unfold Blk1 at h; simp [World.frozen?, h]
theorem Blk1.lt {w : World} {b : Nat} {t : TypeId} {p : Value} (h : Blk1 w b t p) : b < w.heap.size := lt_of_block h
theorem Blk1.set0 {w : World} {b : Nat} {t : TypeId} {p : Value} (h : Blk1 w b t p) (u : Value) : Blk1 (w.setCell ⟨b, 0, none⟩ u) b t u := by
  have hlt := h.lt
  unfold Blk1 at h ⊢
  have h' : w.heap[b] = .cells #[p] t (0, 0) := by simpa [Array.getElem?_eq_getElem hlt] using h
  show (w.heap.modify b _)[b]? = _
  rw [Array.getElem?_eq_getElem (by simpa using hlt), Array.getElem_modify_self, h']
  rfl
theorem Blk1.far {w : World} {b : Nat} {t : TypeId} {p : Value} (h : Blk1 w b t p) {a : Addr} (ha : b ≠ a.block) (u : Value) : Blk1 (w.setCell a u) b t p := (Below.heap_setCell w a u b ha).trans h
theorem Blk1.keep {w w' : World} {b B : Nat} {t : TypeId} {p : Value} (h : Blk1 w b t p) (hb : Below B w w') (hB : b < B) : Blk1 w' b t p := (hb.block b hB).trans h
theorem Blk1.drewN {w : World} {b : Nat} {t : TypeId} {p : Value} (h : Blk1 w b t p) (n : Nat) : Blk1 (w.drewN n) b t p := h
theorem Blk1.drew {w : World} {b : Nat} {t : TypeId} {p : Value} (h : Blk1 w b t p) : Blk1 w.drew b t p := h
theorem Blk1.at_ {w : World} {b : Nat} (t : TypeId) (p : Value) (hb : b = w.heap.size) : Blk1 (w.alloc (.cells #[p] t)) b t p := by
  subst hb; unfold Blk1; show (w.heap.push _)[w.heap.size]? = _
  rw [Array.getElem?_push, if_pos rfl]
theorem Blk1.old {w : World} {b : Nat} {t : TypeId} {p : Value} (h : Blk1 w b t p) (o : Obj) : Blk1 (w.alloc o) b t p := (Below.heap_alloc w o b h.lt).trans h
theorem Blk1.keepOne {w w' : World} {b c : Nat} {t : TypeId} {p : Value} (h : Blk1 w b t p) (hg : w.grownBy w' (some c)) (hne : b ≠ c) : Blk1 w' b t p :=
  (hg.block b h.lt (by simpa using hne)).trans h
end Go.Proofs.Ytncplikadacjnaa
end

section
/-
  Plain mathematics of chapter 6: a matrix without a row and a column is a minor. Nothing of a program is used.
-/
namespace Go.Proofs.Ytncplikadacjnaa

/-- The cells before p that lie neither in the row nor in the column. -/
def woL (C : Nat) (row col : Int) (xs : List Int) (p : Nat) : List Int := ((List.range p).filter fun q => decide (((q / C : Nat) : Int) ≠ row ∧ ((q % C : Nat) : Int) ≠ col)).map fun q => xs.getD q 0
theorem woL_zero (C : Nat) (row col : Int) (xs : List Int) : woL C row col xs 0 = [] := rfl
theorem woL_in {C : Nat} {row col : Int} {xs : List Int} {p : Nat} (h : ((p / C : Nat) : Int) ≠ row ∧ ((p % C : Nat) : Int) ≠ col) : woL C row col xs (p + 1) = woL C row col xs p ++ [xs.getD p 0] := by
  unfold woL
  rw [List.range_succ, List.filter_append, List.map_append, List.filter_cons_of_pos (p := (fun q : Nat => decide (((q / C : Nat) : Int) ≠ row ∧ ((q % C : Nat) : Int) ≠ col))) (a := p) (l := []) (decide_eq_true h)]
  rfl
theorem woL_out {C : Nat} {row col : Int} {xs : List Int} {p : Nat} (h : ¬ (((p / C : Nat) : Int) ≠ row ∧ ((p % C : Nat) : Int) ≠ col)) : woL C row col xs (p + 1) = woL C row col xs p := by
  unfold woL
  rw [List.range_succ, List.filter_append, List.map_append, List.filter_cons_of_neg (p := (fun q : Nat => decide (((q / C : Nat) : Int) ≠ row ∧ ((q % C : Nat) : Int) ≠ col))) (a := p) (l := []) (by show ¬ decide _ = true; rw [decide_eq_false h]; decide)]
  exact List.append_nil _
theorem woL_length (C : Nat) (row col : Int) (xs : List Int) (p : Nat) : (woL C row col xs p).length ≤ p := by
  unfold woL
  rw [List.length_map]
  exact Nat.le_trans (List.length_filter_le _ _) (by simp)
theorem tab_row (r c : Nat) (f : Nat → Nat → Int) : tab (r + 1) c f = tab r c f ++ (List.range c).map (f r) := by
  unfold tab
  rw [Nat.add_mul, Nat.one_mul, List.range_add, List.map_append, List.map_map]
  congr 1
  refine List.map_congr_left fun j hj => ?_
  have hj := List.mem_range.mp hj
  show f ((r * c + j) / c) ((r * c + j) % c) = f r j
  rw [idx_div hj, idx_mod hj]
/-- How many of the numbers before k are not i. -/
def less (i k : Nat) : Nat := if i < k then k - 1 else k
theorem less_out {i : Nat} : less i (i + 1) = less i i := by unfold less; rw [if_pos (by omega), if_neg (by omega)]; omega
theorem less_in {i k : Nat} (h : k ≠ i) : less i (k + 1) = less i k + 1 ∧ skp i (less i k) = k := by
  unfold less skp
  by_cases h1 : i < k
  · rw [if_pos (show i < k + 1 by omega), if_pos h1, if_neg (show ¬ k - 1 < i by omega)]; omega
  · rw [if_neg (show ¬ i < k + 1 by omega), if_neg h1, if_pos (show k < i by omega)]; omega
theorem woL_row_out (C row col : Nat) (xs : List Int) (c : Nat) (hc : c ≤ C) : woL C row col xs (row * C + c) = woL C row col xs (row * C) := by
  induction c with
  | zero => rfl
  | succ c ih =>
    rw [← Nat.add_assoc, woL_out (by rw [idx_div (by omega)]; omega), ih (by omega)]
theorem woL_row_in (C row col : Nat) (xs : List Int) (r : Nat) (hr : r ≠ row) (c : Nat) (hc : c ≤ C) :
    woL C row col xs (r * C + c) = woL C row col xs (r * C) ++ (List.range (less col c)).map fun j => xs.getD (r * C + skp col j) 0 := by
  induction c with
  | zero => simp [less]
  | succ c ih =>
    rw [← Nat.add_assoc]
    by_cases h : c = col
    · subst h
      rw [woL_out (by rw [idx_mod (by omega)]; omega), ih (by omega), less_out]
    · obtain ⟨h1, h2⟩ := less_in h
      rw [woL_in (by rw [idx_div (by omega), idx_mod (by omega)]; omega), ih (by omega), h1, List.range_succ, List.map_append, List.append_assoc]
      simp only [List.map_cons, List.map_nil, h2]
theorem woL_rows (C row col : Nat) (xs : List Int) (hc : col < C) (r : Nat) : woL C row col xs (r * C) = tab (less row r) (C - 1) fun i j => xs.getD (skp row i * C + skp col j) 0 := by
  have hC : less col C = C - 1 := by unfold less; rw [if_pos hc]
  induction r with
  | zero => rw [Nat.zero_mul]; simp [less, woL_zero, tab]
  | succ r ih =>
    rw [Nat.add_mul, Nat.one_mul]
    by_cases h : r = row
    · subst h
      rw [woL_row_out _ _ _ _ _ (Nat.le_refl _), ih, less_out]
    · obtain ⟨h1, h2⟩ := less_in h
      rw [woL_row_in _ _ _ _ _ h _ (Nat.le_refl _), ih, h1, tab_row, hC, h2]
/-- A square matrix without a row and a column. -/
theorem woL_tab (n row col : Nat) (xs : List Int) (hr : row < n + 1) (hc : col < n + 1) : woL (n + 1) row col xs ((n + 1) * (n + 1)) = tab n n fun i j => xs.getD (skp row i * (n + 1) + skp col j) 0 := by
  rw [woL_rows _ _ _ _ hc]
  unfold less
  rw [if_pos hr]
  rfl
end Go.Proofs.Ytncplikadacjnaa
end

section
/-
  What a call has built by append, whatever it is of.
-/
namespace Go.Proofs.Ytncplikadacjnaa
open Go.RowKit

theorem ownB_ge2 {w : World} {base n k : Nat} {e : TypeId} {size : Nat} {v : Value} {xs : List Value} (h : w.ownsRow base e size v n xs) (hk : v.ownBlock = some k) : base ≤ k := (h.lt k hk).1
theorem rows_far {w : World} {base n : Nat} {e : TypeId} {size : Nat} {v : Value} {xs : List Value} (h : w.ownsRow base e size v n xs) {a : Addr} (ha : a.block < base) (u : Value) : (w.setCell a u).ownsRow base e size v n xs := by
  obtain ⟨h1, ⟨h2, h3⟩ | ⟨g, cap, cur, e, hB, hg, rest⟩⟩ := h
  · exact ⟨h1, .inl ⟨h2, h3⟩⟩
  · exact ⟨h1, .inr ⟨g, cap, cur, e, hB, (Below.heap_setCell w a u g (by omega)).trans hg, rest⟩⟩
theorem rows_keep {w w' : World} {base n : Nat} {e : TypeId} {size : Nat} {v : Value} {xs : List Value} (h : w.ownsRow base e size v n xs) (hb : Below w.heap.size w w') : w'.ownsRow base e size v n xs := by
  obtain ⟨h1, ⟨h2, h3⟩ | ⟨g, cap, cur, e, hB, hg, rest⟩⟩ := h
  · exact ⟨h1, .inl ⟨h2, h3⟩⟩
  · exact ⟨h1, .inr ⟨g, cap, cur, e, hB, (hb.block g (lt_of_block hg)).trans hg, rest⟩⟩
theorem rows_form {w : World} {base n : Nat} {e : TypeId} {size : Nat} {v : Value} {xs : List Value} (h : w.ownsRow base e size v n xs) : ∃ a m c, v = .slice a m c := by
  obtain ⟨h1, ⟨h2, h3⟩ | ⟨g, cap, cur, e, hB, hg, rest⟩⟩ := h
  · exact ⟨_, _, _, h2⟩
  · exact ⟨_, _, _, e⟩
end Go.Proofs.Ytncplikadacjnaa
end

section
/-
  Chapter 6, in the model: a matrix without a row and a column.
-/
namespace Go.Proofs.Ytncplikadacjnaa
set_option maxRecDepth 100000
open Go.RowKit

theorem cell_of_block {w w' : World} {b : Nat} (h : w'.heap[b]? = w.heap[b]?) (o : Nat) : w'.cell? ⟨b, o, none⟩ = w.cell? ⟨b, o, none⟩ := by simp [World.cell?, h]
/-- In the walk: the boxes of the argument, the result and the matrix that grows. -/
def WoSt (w wr : World) (R C : Int) (v : Value) (zs : List Int) : Prop := ∃ va vm vc, Blk3 wr w.heap.size 26 (.int .i64 R) (.int .i64 C) v ∧ Blk3 wr (w.heap.size + 1) 26 (.int .i64 0) (.int .i64 0) (.slice none 0 0) ∧ Blk3 wr (w.heap.size + 1 + 1) 26 (.int .i64 (R - 1)) (.int .i64 (C - 1)) (.slice va vm vc) ∧ wr.ownsRow (w.heap.size + 1 + 1 + 1) 3 1 (.slice va vm vc) zs.length (zs.map (Value.int .i64)) ∧ Below w.heap.size w wr
end Go.Proofs.Ytncplikadacjnaa
end

section
/-
  Elimination without fractions: the cells that are made are bordered minors, so each division is exact. Plain mathematics: nothing of a program is used.
-/
namespace Go.Proofs.Ytncplikadacjnaa

/-- The first t rows and row i; the first t columns and column j. -/
def bdX (t i j : Nat) (A : Mx) : Mx := fun r c => A (if r < t then r else i) (if c < t then c else j)
/-- The bordered minor. -/
def bm (t i j : Nat) (A : Mx) : Int := det (t + 1) (bdX t i j A)
theorem bm_zero (i j : Nat) (A : Mx) : bm 0 i j A = A i j := by
  show 0 + sg 0 * bdX 0 i j A 0 0 * 1 = A i j
  rw [sg_zero]
  show 0 + 1 * A i j * 1 = A i j
  omega
theorem bm_diag (t : Nat) (A : Mx) : bm t t t A = det (t + 1) A := det_congr fun r c hr hc => by
  show A (if r < t then r else t) (if c < t then c else t) = A r c
  have e : ∀ k, k < t + 1 → (if k < t then k else t) = k := fun k hk => by
    by_cases h : k < t
    · rw [if_pos h]
    · rw [if_neg h]; omega
  rw [e r hr, e c hc]
theorem bm_tr (t i j : Nat) (A : Mx) : bm t i j (trX A) = bm t j i A := by
  unfold bm
  rw [← det_tr (t + 1) (bdX t j i A)]
  rfl
theorem bm_row {t i j : Nat} (A : Mx) (h : i < t) : bm t i j A = 0 :=
  alt_at (det_alt (t + 1)) (r := i) (s := t) (by omega) (by omega) (by omega) _ fun c _ => by
    show A (if i < t then i else i) _ = A (if t < t then t else i) _
    rw [if_pos h, if_neg (Nat.lt_irrefl t)]
theorem bm_col {t i j : Nat} (A : Mx) (h : j < t) : bm t i j A = 0 := by
  rw [← bm_tr, bm_row _ h]
/-- The factors of the rows in a bordered minor. -/
def kap (t i : Nat) (A : Mx) (s : Nat) : Int := sg (s + t) * det t (mnr (bdX t i 0 A) s t)
theorem skp_of_lt {j k : Nat} (h : k < j) : skp j k = k := if_pos h
theorem bm_comb (t i j : Nat) (A : Mx) : bm t i j A = det t A * A i j + sumN t fun s => kap t i A s * A s j := by
  unfold bm
  rw [det_col_at t _ t (by omega)]
  have e : ∀ s, s < t + 1 → det t (mnr (bdX t i j A) s t) = det t (mnr (bdX t i 0 A) s t) := fun s _ => det_congr fun r c _ hc => by
    show A _ (if skp t c < t then skp t c else j) = A _ (if skp t c < t then skp t c else 0)
    rw [skp_of_lt hc, if_pos hc, if_pos hc]
  show (sumN t fun s => sg (s + t) * bdX t i j A s t * det t (mnr (bdX t i j A) s t)) + sg (t + t) * bdX t i j A t t * det t (mnr (bdX t i j A) t t) = _
  have l : sg (t + t) * bdX t i j A t t * det t (mnr (bdX t i j A) t t) = det t A * A i j := by
    have e1 : bdX t i j A t t = A i j := by
      show A (if t < t then t else i) (if t < t then t else j) = _
      rw [if_neg (Nat.lt_irrefl t), if_neg (Nat.lt_irrefl t)]
    have e2 : det t (mnr (bdX t i j A) t t) = det t A := det_congr fun r c hr hc => by
      show A (if skp t r < t then skp t r else i) (if skp t c < t then skp t c else j) = A r c
      rw [skp_of_lt hr, skp_of_lt hc, if_pos hr, if_pos hc]
    rw [e1, e2, sg_add, sg_sq, Int.one_mul, Int.mul_comm]
  rw [l, Int.add_comm]
  congr 1
  refine sumN_congr fun s hs => ?_
  rw [e s (by omega)]
  have e1 : bdX t i j A s t = A s j := by
    show A (if s < t then s else i) (if t < t then t else j) = _
    rw [if_pos hs, if_neg (Nat.lt_irrefl t)]
  rw [e1]
  unfold kap
  grind
/-- Multiples of earlier rows are added to a multiple of row r. -/
theorem det_comb {n r m : Nat} (N : Mx) (x : Int) (k : Nat → Int) (hm : m ≤ r) (hr : r < n) : det n (stR N r fun c => x * N r c + sumN m fun s => k s * N s c) = x * det n N := by
  have h := det_lin n N r (N r) (fun c => sumN m fun s => k s * N s c) x 1 hr
  simp only [Int.one_mul] at h
  rw [h, stR_self, lin_sum (det_lin n) hr, sumN_all_zero]
  · omega
  · intro s hs
    rw [alt_at (det_alt n) (r := s) (s := r) (by omega) (by omega) hr _ (fun c _ => by rw [stR_at, stR_ne _ _ _ _ _ (by omega)]), Int.mul_zero]
theorem det_last {t : Nat} (M : Mx) (h : ∀ c, c < t → M t c = 0) : det (t + 1) M = M t t * det t M := by
  rw [det_row_at t M t (by omega), sumN_one (a := t) (by omega)]
  · have e : det t (mnr M t t) = det t M := det_congr fun r c hr hc => by
      show M (skp t r) (skp t c) = M r c
      rw [skp_of_lt hr, skp_of_lt hc]
    rw [e, sg_add, sg_sq, Int.one_mul]
  · intro c hc hne
    rw [h c (by omega), Int.mul_zero, Int.zero_mul]
/-- Each division of the elimination is exact. -/
theorem sylvester (t i j : Nat) (A : Mx) (h : det t A ≠ 0) : det t A * bm (t + 1) i j A = bm t t t A * bm t i j A - bm t i t A * bm t t j A := by
  obtain ⟨L, hL⟩ : ∃ L, det t A = L := ⟨_, rfl⟩
  have col : ∀ c, c < t + 2 → ∀ r, r < t → bdX (t + 1) i j A r c = A r (if c < t + 1 then c else j) := fun c _ r hr => by
    show A (if r < t + 1 then r else i) _ = _
    rw [if_pos (by omega)]
  obtain ⟨N, hN⟩ : ∃ N, bdX (t + 1) i j A = N := ⟨_, rfl⟩
  have rt : ∀ c, N t c = A t (if c < t + 1 then c else j) := fun c => by
    rw [← hN]
    show A (if t < t + 1 then t else i) _ = _
    rw [if_pos (by omega)]
  have rt1 : ∀ c, N (t + 1) c = A i (if c < t + 1 then c else j) := fun c => by
    rw [← hN]
    show A (if t + 1 < t + 1 then t + 1 else i) _ = _
    rw [if_neg (by omega)]
  rw [hN] at col
  obtain ⟨N1, hN1⟩ : ∃ M, (stR N t fun c => L * N t c + sumN t fun s => kap t t A s * N s c) = M := ⟨_, rfl⟩
  obtain ⟨N2, hN2⟩ : ∃ M, (stR N1 (t + 1) fun c => L * N1 (t + 1) c + sumN t fun s => kap t i A s * N1 s c) = M := ⟨_, rfl⟩
  have d1 : det (t + 2) N1 = L * det (t + 2) N := by rw [← hN1]; exact det_comb N L _ (Nat.le_refl t) (by omega)
  have d2 : det (t + 2) N2 = L * det (t + 2) N1 := by rw [← hN2]; exact det_comb N1 L _ (by omega) (by omega)
  have q : ∀ r, r < t → ∀ c, N1 r c = N r c := fun r hr c => by rw [← hN1]; exact stR_ne _ _ _ _ _ (by omega)
  have e0 : ∀ r, r < t → ∀ c, c < t + 2 → N2 r c = A r (if c < t + 1 then c else j) := fun r hr c hc => by
    rw [← hN2, stR_ne _ _ _ _ _ (by omega), q r hr, col c hc r hr]
  have e1 : ∀ c, c < t + 2 → N2 t c = bm t t (if c < t + 1 then c else j) A := fun c hc => by
    rw [← hN2, stR_ne _ _ _ _ _ (by omega), ← hN1, stR_at, bm_comb, hL, rt]
    congr 1
    exact sumN_congr fun s hs => by rw [col c hc s hs]
  have e2 : ∀ c, c < t + 2 → N2 (t + 1) c = bm t i (if c < t + 1 then c else j) A := fun c hc => by
    have : N1 (t + 1) c = N (t + 1) c := by rw [← hN1]; exact stR_ne _ _ _ _ _ (by omega)
    rw [← hN2, stR_at, bm_comb, hL, this, rt1]
    congr 1
    exact sumN_congr fun s hs => by rw [q s hs, col c hc s hs]
  have z1 : ∀ c, c < t → N2 t c = 0 := fun c hc => by rw [e1 c (by omega), if_pos (by omega), bm_col A hc]
  have z2 : ∀ c, c < t → N2 (t + 1) c = 0 := fun c hc => by rw [e2 c (by omega), if_pos (by omega), bm_col A hc]
  have m1 : det (t + 1) (mnr N2 (t + 1) (t + 1)) = bm t t t A * L := by
    rw [det_last]
    · have a1 : mnr N2 (t + 1) (t + 1) t t = bm t t t A := by
        show N2 (skp (t + 1) t) (skp (t + 1) t) = _
        rw [skp_of_lt (by omega), e1 t (by omega), if_pos (by omega)]
      have a2 : det t (mnr N2 (t + 1) (t + 1)) = L := by
        rw [← hL]
        refine det_congr fun r c hr hc => ?_
        show N2 (skp (t + 1) r) (skp (t + 1) c) = _
        rw [skp_of_lt (by omega), skp_of_lt (by omega), e0 r hr c (by omega), if_pos (by omega)]
      rw [a1, a2]
    · intro c hc
      show N2 (skp (t + 1) t) (skp (t + 1) c) = 0
      rw [skp_of_lt (by omega), skp_of_lt (by omega), z1 c hc]
  have m2 : det (t + 1) (mnr N2 (t + 1) t) = bm t t j A * L := by
    rw [det_last]
    · have a1 : mnr N2 (t + 1) t t t = bm t t j A := by
        show N2 (skp (t + 1) t) (skp t t) = _
        have : skp t t = t + 1 := by unfold skp; rw [if_neg (by omega)]
        rw [skp_of_lt (by omega), this, e1 (t + 1) (by omega), if_neg (by omega)]
      have a2 : det t (mnr N2 (t + 1) t) = L := by
        rw [← hL]
        refine det_congr fun r c hr hc => ?_
        show N2 (skp (t + 1) r) (skp t c) = _
        rw [skp_of_lt (by omega), skp_of_lt hc, e0 r hr c (by omega), if_pos (by omega)]
      rw [a1, a2]
    · intro c hc
      show N2 (skp (t + 1) t) (skp t c) = 0
      rw [skp_of_lt (by omega), skp_of_lt hc, z1 c hc]
  have d3 : det (t + 2) N2 = L * (bm t t t A * bm t i j A - bm t i t A * bm t t j A) := by
    rw [det_row_at (t + 1) N2 (t + 1) (by omega), sumN_two (a := t) (b := t + 1) (by omega) (by omega)]
    · have s1 : sg (t + 1 + t) = -1 := by rw [sg_add, sg_succ, Int.neg_mul, sg_sq]
      have s2 : sg (t + 1 + (t + 1)) = 1 := by rw [sg_add, sg_sq]
      rw [m1, m2, e2 t (by omega), e2 (t + 1) (by omega), if_pos (by omega), if_neg (by omega), s1, s2]
      grind
    · intro c hc h1 h2
      rw [z2 c (by omega), Int.mul_zero, Int.zero_mul]
  have bN : bm (t + 1) i j A = det (t + 2) N := by rw [← hN]; rfl
  rw [hL, bN]
  rw [hL] at h
  have fin : L * (L * det (t + 2) N) = L * (bm t t t A * bm t i j A - bm t i t A * bm t t j A) := by rw [← d1, ← d2, d3]
  exact Int.eq_of_mul_eq_mul_left h fin
/-- Where no row has a pivot the determinant is 0. -/
theorem no_pivot {t n : Nat} (A : Mx) (ht : t < n) (h : det t A ≠ 0) (hz : ∀ i, t ≤ i → i < n → bm t i t A = 0) : det n A = 0 := by
  have h1 : ∀ i, i < n → det t A * A i t + (sumN t fun s => kap t t (trX A) s * A i s) = 0 := fun i hi => by
    have e := bm_comb t t i (trX A)
    rw [bm_tr, det_tr] at e
    have e2 : bm t i t A = 0 := by
      rcases Nat.lt_or_ge i t with hlt | hge
      · exact bm_row A hlt
      · exact hz i hge hi
    rw [e2] at e
    exact e.symm
  have h2 := det_comb (n := n) (r := t) (m := t) (trX A) (det t A) (kap t t (trX A)) (Nat.le_refl t) ht
  have h3 : det n (stR (trX A) t fun c => det t A * trX A t c + sumN t fun s => kap t t (trX A) s * trX A s c) = det n (stR (trX A) t fun _ => 0) := det_congr fun r c _ hc => by
    unfold stR
    by_cases e : r = t
    · rw [if_pos e, if_pos e]; exact h1 c hc
    · rw [if_neg e, if_neg e]
  rw [h3, lin_zero (det_lin n) ht, det_tr] at h2
  rcases Int.mul_eq_zero.mp h2.symm with h4 | h4
  · exact absurd h4 h
  · exact h4
/-- Two rows from t on change places. -/
theorem bm_swap {t p i j : Nat} (A : Mx) (hp : t ≤ p) : bm t i j (swR A t p) = bm t (if i = t then p else if i = p then t else i) j A := det_congr fun r c _ _ => by
  show swR A t p (if r < t then r else i) _ = A (if r < t then r else _) _
  unfold swR
  by_cases hr : r < t
  · rw [if_pos hr, if_pos hr, if_neg (by omega), if_neg (by omega)]
  · rw [if_neg hr, if_neg hr]
    by_cases h1 : i = t
    · rw [if_pos h1, if_pos h1]
    · rw [if_neg h1, if_neg h1]
      by_cases h2 : i = p
      · rw [if_pos h2, if_pos h2]
      · rw [if_neg h2, if_neg h2]
theorem det_swap_low {t p : Nat} (A : Mx) (hp : t ≤ p) : det t (swR A t p) = det t A := det_congr fun r c hr _ => by
  unfold swR
  rw [if_neg (by omega), if_neg (by omega)]
end Go.Proofs.Ytncplikadacjnaa
end

section
/-
  Plain mathematics of chapter 6: the determinant by expansion along the first row, with a mark where one that is met is beyond the limit. Nothing of a program is used.
-/
namespace Go.Proofs.Ytncplikadacjnaa

/-- The matrix of a list of cells. -/
def mxL (n : Nat) (xs : List Int) : Mx := fun r c => xs.getD (r * n + c) 0
theorem mxL_tab (n : Nat) (f : Nat → Nat → Int) : EqX n (mxL n (tab n n f)) f := fun _ _ hr hc => tab_at n n f hr hc
/-- The sum of the first columns, unless a minor that is met has the mark. -/
def detAcc (g f : Nat → Int) : Nat → Option Int
  | 0 => some 0
  | j + 1 => match detAcc g f j with
    | none => none
    | some s => if g j = 0 then some s else if f j = badN then none else some (s + sg j * g j * f j)
theorem detAcc_skip {g f : Nat → Int} {j : Nat} {s : Int} (h : detAcc g f j = some s) (h0 : g j = 0) : detAcc g f (j + 1) = some s := by
  show (match detAcc g f j with | none => _ | some s => _) = _
  rw [h]
  exact if_pos h0
theorem detAcc_bad {g f : Nat → Int} {j : Nat} {s : Int} (h : detAcc g f j = some s) (h0 : g j ≠ 0) (h1 : f j = badN) : detAcc g f (j + 1) = none := by
  show (match detAcc g f j with | none => _ | some s => _) = _
  rw [h]
  show (if g j = 0 then _ else _) = _
  rw [if_neg h0, if_pos h1]
theorem detAcc_add {g f : Nat → Int} {j : Nat} {s : Int} (h : detAcc g f j = some s) (h0 : g j ≠ 0) (h1 : f j ≠ badN) : detAcc g f (j + 1) = some (s + sg j * g j * f j) := by
  show (match detAcc g f j with | none => _ | some s => _) = _
  rw [h]
  show (if g j = 0 then _ else _) = _
  rw [if_neg h0, if_neg h1]
theorem detAcc_none_succ {g f : Nat → Int} {j : Nat} (h : detAcc g f j = none) : detAcc g f (j + 1) = none := by
  show (match detAcc g f j with | none => _ | some s => _) = _
  rw [h]
theorem detAcc_none {g f : Nat → Int} {j k : Nat} (h : detAcc g f j = none) (hk : j ≤ k) : detAcc g f k = none := by
  induction k with
  | zero => obtain rfl : j = 0 := by omega
            exact h
  | succ k ih =>
    rcases Nat.lt_or_ge k j with h1 | h1
    · obtain rfl : j = k + 1 := by omega
      exact h
    · exact detAcc_none_succ (ih h1)
theorem detAcc_sum {g f : Nat → Int} {k : Nat} : ∀ {s : Int}, detAcc g f k = some s → s = sumN k fun j => sg j * g j * f j := by
  induction k with
  | zero => intro s h; exact (Option.some.inj h).symm
  | succ k ih =>
    intro s h
    cases h1 : detAcc g f k with
    | none => rw [detAcc_none_succ h1] at h; cases h
    | some s1 =>
      show s = sumN k _ + sg k * g k * f k
      by_cases h0 : g k = 0
      · rw [detAcc_skip h1 h0] at h
        rw [← Option.some.inj h, ih h1, h0, Int.mul_zero, Int.zero_mul, Int.add_zero]
      · by_cases h2 : f k = badN
        · rw [detAcc_bad h1 h0 h2] at h; cases h
        · rw [detAcc_add h1 h0 h2] at h
          rw [← Option.some.inj h, ih h1]
theorem detAcc_met {g f : Nat → Int} {k : Nat} : ∀ {s : Int}, detAcc g f k = some s → ∀ j, j < k → g j ≠ 0 → f j ≠ badN := by
  induction k with
  | zero => intro s _ j hj; omega
  | succ k ih =>
    intro s h j hj h0 h2
    cases h1 : detAcc g f k with
    | none => rw [detAcc_none_succ h1] at h; cases h
    | some s1 =>
      rcases Nat.lt_or_ge j k with h3 | h3
      · exact ih h1 j h3 h0 h2
      · obtain rfl : j = k := by omega
        rw [detAcc_bad h1 h0 h2] at h; cases h
theorem sg_or (k : Nat) : sg k = 1 ∨ sg k = -1 := by unfold sg; split <;> simp
theorem sg_num {k : Nat} {x : Int} (h : NumP x) : NumP (sg k * x) := by
  unfold NumP at *
  rcases sg_or k with e | e <;> rw [e] <;> omega
theorem detAcc_bd {g f : Nat → Int} {k : Nat} (hg : ∀ j, j < k → NumP (g j)) (hf : ∀ j, j < k → f j = badN ∨ NumP (f j)) : ∀ {s : Int}, detAcc g f k = some s → -((k : Int) * 160000000000000000) ≤ s ∧ s ≤ (k : Int) * 160000000000000000 := by
  induction k with
  | zero => intro s h; rw [← Option.some.inj h]; omega
  | succ k ih =>
    intro s h
    cases h1 : detAcc g f k with
    | none => rw [detAcc_none_succ h1] at h; cases h
    | some s1 =>
      have b := ih (fun j hj => hg j (by omega)) (fun j hj => hf j (by omega)) h1
      by_cases h0 : g k = 0
      · rw [detAcc_skip h1 h0] at h
        rw [← Option.some.inj h]; omega
      · by_cases h2 : f k = badN
        · rw [detAcc_bad h1 h0 h2] at h; cases h
        · rw [detAcc_add h1 h0 h2] at h
          have m := mul_num _ _ (sg_num (k := k) (hg k (by omega))) ((hf k (by omega)).resolve_left h2)
          rw [← Option.some.inj h]; omega
/-- The determinant of n rows, or the mark. -/
def detB : Nat → List Int → Int
  | 0, _ => 1
  | n + 1, xs => match detAcc (fun j => xs.getD j 0) (fun j => detB n (woL (n + 1) (0 : Int) (j : Int) xs ((n + 1) * (n + 1)))) (n + 1) with
    | none => badN
    | some s => fitB s
/-- The minors of the first row, with marks. -/
def mnB (n : Nat) (xs : List Int) (j : Nat) : Int := detB n (woL (n + 1) (0 : Int) (j : Int) xs ((n + 1) * (n + 1)))
theorem detB_none {n : Nat} {xs : List Int} (h : detAcc (fun j => xs.getD j 0) (mnB n xs) (n + 1) = none) : detB (n + 1) xs = badN := by
  show (match detAcc (fun j => xs.getD j 0) (mnB n xs) (n + 1) with | none => badN | some s => fitB s) = _
  rw [h]
theorem detB_some {n : Nat} {xs : List Int} {s : Int} (h : detAcc (fun j => xs.getD j 0) (mnB n xs) (n + 1) = some s) : detB (n + 1) xs = fitB s := by
  show (match detAcc (fun j => xs.getD j 0) (mnB n xs) (n + 1) with | none => badN | some s => fitB s) = _
  rw [h]
theorem fitB_or (z : Int) : fitB z = badN ∨ NumP (fitB z) := by
  unfold fitB
  by_cases h : NumP z
  · rw [if_pos h]; exact .inr h
  · rw [if_neg h]; exact .inl rfl
theorem detB_or (n : Nat) (xs : List Int) : detB n xs = badN ∨ NumP (detB n xs) := by
  cases n with
  | zero => exact .inr (by show NumP 1; decide)
  | succ n =>
    cases h : detAcc (fun j => xs.getD j 0) (mnB n xs) (n + 1) with
    | none => exact .inl (detB_none h)
    | some s => rw [detB_some h]; exact fitB_or s
theorem mxL_woL {n : Nat} {xs : List Int} {i j : Nat} (hi : i < n + 1) (hj : j < n + 1) : EqX n (mxL n (woL (n + 1) (i : Int) (j : Int) xs ((n + 1) * (n + 1)))) (mnr (mxL (n + 1) xs) i j) := by
  rw [woL_tab n i j xs hi hj]
  exact mxL_tab n _
theorem woL_sq {n : Nat} {xs : List Int} {i j : Nat} (hi : i < n + 1) (hj : j < n + 1) : (woL (n + 1) (i : Int) (j : Int) xs ((n + 1) * (n + 1))).length = n * n := by rw [woL_tab n i j xs hi hj, tab_length]
/-- Without the mark, it is the determinant. -/
theorem detB_det (n : Nat) : ∀ xs : List Int, detB n xs ≠ badN → detB n xs = det n (mxL n xs) := by
  induction n with
  | zero => intro xs _; rfl
  | succ n ih =>
    intro xs hb
    cases h : detAcc (fun j => xs.getD j 0) (mnB n xs) (n + 1) with
    | none => exact absurd (detB_none h) hb
    | some s =>
      rw [detB_some h] at hb ⊢
      have e : fitB s = s := by
        unfold fitB at hb ⊢
        by_cases hs : NumP s
        · rw [if_pos hs]
        · rw [if_neg hs] at hb; exact absurd rfl hb
      rw [e, detAcc_sum h, det_row]
      refine sumN_congr fun j hj => ?_
      have e0 : mxL (n + 1) xs 0 j = xs.getD j 0 := by unfold mxL; rw [Nat.zero_mul, Nat.zero_add]
      rw [e0]
      by_cases h0 : xs.getD j 0 = 0
      · simp only [h0, Int.mul_zero, Int.zero_mul]
      · have hm := detAcc_met h j hj h0
        have := ih _ hm
        show sg j * xs.getD j 0 * detB n _ = _
        rw [this, det_congr (show EqX n (mxL n (woL (n + 1) (0 : Int) (j : Int) xs ((n + 1) * (n + 1)))) (mnr (mxL (n + 1) xs) 0 j) from mxL_woL (i := 0) (by omega) hj)]
theorem woL_nums {n : Nat} {xs : List Int} {i j : Nat} (hi : i < n + 1) (hj : j < n + 1) (h : nums xs = true) : nums (woL (n + 1) (i : Int) (j : Int) xs ((n + 1) * (n + 1))) = true := by
  rw [woL_tab n i j xs hi hj]
  refine nums_true fun p hp => ?_
  rw [tab_length] at hp
  have hn : 0 < n := by
    rcases Nat.eq_zero_or_pos n with e | e
    · subst e; omega
    · exact e
  have e : p = p / n * n + p % n := by rw [Nat.mul_comm]; exact (Nat.div_add_mod p n).symm
  rw [e, tab_at n n _ (Nat.div_lt_of_lt_mul hp) (Nat.mod_lt p hn)]
  rcases Nat.lt_or_ge (skp i (p / n) * (n + 1) + skp j (p % n)) xs.length with h1 | h1
  · exact nums_at h h1
  · rw [List.getD, List.getElem?_eq_none h1]; exact ⟨by decide, by decide⟩
/-- What DeterminantOf answers, for a square matrix. -/
def detM (n : Nat) (xs : List Int) : Int × Bool := if detB n xs = badN then (0, false) else (detB n xs, true)
end Go.Proofs.Ytncplikadacjnaa
end

section
/-
  Chapter 6, in the model: l6Det.
-/
namespace Go.Proofs.Ytncplikadacjnaa
set_option maxRecDepth 100000
open Go.RowKit

theorem Own.rdq {B n c : Nat} {w : World} {a : Option Addr} {zs : List Int} (h : Own B w (.slice a n c) zs) : Rd w a zs := by
  rcases h with ⟨hv, rfl⟩ | ⟨g, cap, hv, _, hi, _⟩
  · exact Rd.nil _ _
  · simp only [Value.slice.injEq] at hv
    obtain ⟨rfl, -, -⟩ := hv
    exact hi.rd
end Go.Proofs.Ytncplikadacjnaa
end
