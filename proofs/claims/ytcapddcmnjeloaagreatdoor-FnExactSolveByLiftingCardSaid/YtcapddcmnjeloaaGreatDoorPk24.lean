/-
  Texts of this seat, joined: ZCMem · ZCBlk4 · ZCRowS · ZCRowMath · ZCDetL · ZCRdCells · ZCDetS · ZCSq · ZCNumMath · ZCNumAbs · ZCDetO · ZCUptoMath · ZCMulMath · ZCStepL · ZCSameMath · ZCTurnMath · ZCRingMath · ZCRow2 · ZCRow3 · ZCRow2n · ZCMatDone · ZCRow4 · ZCRowRaw · ZCMatNew · ZCMatS9 · ZCOpDet · ZCLawDet · ZCSpn · ZCModS · ZCPrimL · ZCEchL · ZCRowTo · ZCModE · ZCModF
-/
import Derived.IntWalk
import Derived.WalkKit
import Derived.Test.YtcapddcmnjeloaaGreatDoorRows
import Derived.BigQuiet
import Derived.Deep.QuietTactic
import Derived.Lib.Hide
import Derived.Deep.RegionHeld3
import Derived.Deep.DeepCutAuto
import Derived.StillTailTactics
import Derived.Test.YtcapddcmnjeloaaGreatDoorPk23

section
/-
  Memory in a law's walk: vectors that lie in known stretches of blocks, and what changes outside such a stretch: nothing.
-/
namespace Go.Proofs.YtcapddcmnjeloaaGreatDoor
open Go.RowKit
structure Chg (B T : Nat) (w w' : World) : Prop where
  os : w'.os = w.os
  tape : w'.tape = w.tape
  output : w'.output = w.output
  size : w.heap.size ≤ w'.heap.size
  block : ∀ k, k < w.heap.size → ¬ (B ≤ k ∧ k < T) → w'.heap[k]? = w.heap[k]?
theorem Chg.of_below {B T : Nat} {w w' : World} (h : Below w.heap.size w w') : Chg B T w w' := ⟨h.os, h.tape, h.output, h.size, fun k hk _ => h.block k hk⟩
theorem Chg.of_one {B T g : Nat} {w w' : World} (h : w.grownBy w' (some g)) (h1 : B ≤ g) (h2 : g < T) : Chg B T w w' :=
  ⟨h.os, h.tape, h.output, h.size, fun k hk hn => h.block k hk (by simp; rintro rfl; exact hn ⟨h1, h2⟩)⟩
theorem Below.chg {C B T : Nat} {w w1 w' : World} (h : Below C w w1) (hc : Chg B T w1 w') (hB : C ≤ B) (hw : C ≤ w1.heap.size) : Below C w w' :=
  ⟨hc.os.trans h.os, hc.tape.trans h.tape, hc.output.trans h.output, Nat.le_trans h.size hc.size, fun k hk => (hc.block k (by omega) (by omega)).trans (h.block k hk)⟩
theorem Blk3.chg {w w' : World} {b B T : Nat} {t : TypeId} {p q r : Value} (h : Blk3 w b t p q r) (hc : Chg B T w w') (hb : b < B ∨ T ≤ b) : Blk3 w' b t p q r := (hc.block b h.lt (by omega)).trans h
def In (B T : Nat) (w : World) (v : Value) (zs : List Int) : Prop :=
  (v = .slice none 0 0 ∧ zs = []) ∨ ∃ (g cap : Nat), v = .slice (some ⟨g, 0, none⟩) zs.length cap ∧ B ≤ g ∧ g < T ∧ Ints w g zs ∧ zs.length ≤ cap ∧ zs.length ≤ 16777216
theorem In.of_new {B : Nat} {w : World} {g : Nat} {zs : List Int} (hB : B ≤ g) (hi : Ints w g zs) (hl : zs.length ≤ 16777216) : In B w.heap.size w (.slice (some ⟨g, 0, none⟩) zs.length zs.length) zs :=
  .inr ⟨g, zs.length, rfl, hB, hi.lt, hi, Nat.le_refl _, hl⟩
theorem In.form {B T : Nat} {w : World} {v : Value} {zs : List Int} (h : In B T w v zs) : ∃ (a : Option Addr) (cap : Nat), v = .slice a zs.length cap ∧ Rd w a zs ∧ zs.length ≤ 16777216 := by
  rcases h with ⟨rfl, rfl⟩ | ⟨g, cap, rfl, _, _, hi, hl, hc⟩
  · exact ⟨none, 0, rfl, Rd.nil _ _, by simp⟩
  · exact ⟨_, _, rfl, hi.rd, hc⟩
theorem In.rd {B T : Nat} {w : World} {a : Option Addr} {n cap : Nat} {zs : List Int} (h : In B T w (.slice a n cap) zs) : n = zs.length ∧ Rd w a zs ∧ zs.length ≤ 16777216 := by
  obtain ⟨a', cap', e, hr, hl⟩ := h.form
  injection e with e1 e2 e3
  subst e1 e2
  exact ⟨rfl, hr, hl⟩
theorem In.chg {B T B' T' : Nat} {w w' : World} {v : Value} {zs : List Int} (h : In B T w v zs) (hc : Chg B' T' w w') (hd : T ≤ B' ∨ T' ≤ B) : In B T w' v zs := by
  rcases h with h | ⟨g, cap, hv, h1, h2, hi, hl, hk⟩
  · exact .inl h
  · exact .inr ⟨g, cap, hv, h1, h2, hi.move (hc.block g hi.lt (by omega)), hl, hk⟩
theorem In.keep {B T : Nat} {w w' : World} {v : Value} {zs : List Int} (h : In B T w v zs) (hb : Below w.heap.size w w') : In B T w' v zs := by
  rcases h with h | ⟨g, cap, hv, h1, h2, hi, hl, hk⟩
  · exact .inl h
  · exact .inr ⟨g, cap, hv, h1, h2, hi.keep hb hi.lt, hl, hk⟩
theorem In.old {B T : Nat} {w : World} {v : Value} {zs : List Int} (h : In B T w v zs) (o : Obj) : In B T (w.alloc o) v zs := h.keep ((Below.refl _ _).alloc (Nat.le_refl _) o)
theorem six {W w' : World} {b c : Nat} {t t' : TypeId} {p q r x y z : Value} (h0 : Blk3 W b t p q r) (h1 : Blk3 W c t' x y z) (hb : Below W.heap.size W w') :
    w'.cell? ⟨b, 0, none⟩ = some p ∧ w'.cell? ⟨b, 1, none⟩ = some q ∧ w'.cell? ⟨b, 2, none⟩ = some r ∧ w'.cell? ⟨c, 0, none⟩ = some x ∧ w'.cell? ⟨c, 1, none⟩ = some y ∧ w'.cell? ⟨c, 2, none⟩ = some z :=
  ⟨(h0.keep hb h0.lt).cell0, (h0.keep hb h0.lt).cell1, (h0.keep hb h0.lt).cell2, (h1.keep hb h1.lt).cell0, (h1.keep hb h1.lt).cell1, (h1.keep hb h1.lt).cell2⟩
theorem stepB {w w1 w2 : World} (h : Below w.heap.size w w1) (hb : Below w1.heap.size w1 w2) : Below w.heap.size w w2 := h.trans (hb.mono h.size)
theorem Blk3.step {w w' : World} {b : Nat} {t : TypeId} {p q r : Value} (h : Blk3 w b t p q r) (hb : Below w.heap.size w w') : Blk3 w' b t p q r := h.keep hb h.lt
theorem markIn {B T : Nat} (r c : Int) (a : Option Addr) (n cap : Nat) (zs : List Int) (k : Int) (w : World) (h : In B T w (.slice a n cap) zs) (hk0 : 0 ≤ k) (hk : k ≤ 16777216) :
    Calls Tryz.prog 30 #[.agg #[.int .i64 r, .int .i64 c, .slice a n cap], .int .i64 k] w fun e w' => e = .returned (.int .i64 (k + n)) ∧ In B T w' (.slice a n cap) (marks k n) ∧ Chg B T w w' := by
  rcases h with ⟨hv, rfl⟩ | ⟨g, cap', hv, h1, h2, hi, hl, hc⟩
  · injection hv with e1 e2 e3
    subst e1 e2 e3
    refine (markM_nil r c 0 k w).mono ?_
    rintro e w' ⟨rfl, hb⟩
    exact ⟨by simp, .inl ⟨rfl, rfl⟩, Chg.of_below hb⟩
  · injection hv with e1 e2 e3
    subst e1 e2 e3
    refine (markM r c g cap zs.length zs k w hi (Nat.le_refl _) hc hk0 hk).mono ?_
    rintro e w' ⟨rfl, hi', hg⟩
    refine ⟨rfl, .inr ⟨g, cap, by rw [marks_length], h1, h2, ?_, by rw [marks_length]; exact hl, by rw [marks_length]; exact hc⟩, Chg.of_one hg h1 h2⟩
    rw [List.drop_length, List.append_nil] at hi'
    exact hi'
end Go.Proofs.YtcapddcmnjeloaaGreatDoor
end

section
/-
  A block of four cells.
-/
namespace Go.Proofs.YtcapddcmnjeloaaGreatDoor
open Go.RowKit
def Blk4 (w : World) (b : Nat) (t : TypeId) (p q r s : Value) : Prop := w.heap[b]? = some (.cells #[p, q, r, s] t (0, 0))
theorem Blk4.cell0 {w : World} {b : Nat} {t : TypeId} {p q r s : Value} (h : Blk4 w b t p q r s) : w.cell? ⟨b, 0, none⟩ = some p := by unfold Blk4 at h; simp [World.cell?, h]
theorem Blk4.cell1 {w : World} {b : Nat} {t : TypeId} {p q r s : Value} (h : Blk4 w b t p q r s) : w.cell? ⟨b, 1, none⟩ = some q := by unfold Blk4 at h; simp [World.cell?, h]
theorem Blk4.cell2 {w : World} {b : Nat} {t : TypeId} {p q r s : Value} (h : Blk4 w b t p q r s) : w.cell? ⟨b, 2, none⟩ = some r := by unfold Blk4 at h; simp [World.cell?, h]
theorem Blk4.cell3 {w : World} {b : Nat} {t : TypeId} {p q r s : Value} (h : Blk4 w b t p q r s) : w.cell? ⟨b, 3, none⟩ = some s := by unfold Blk4 at h; simp [World.cell?, h]
theorem Blk4.lt {w : World} {b : Nat} {t : TypeId} {p q r s : Value} (h : Blk4 w b t p q r s) : b < w.heap.size := lt_of_block h
theorem Blk4.all {w : World} {b : Nat} {t : TypeId} {p q r s : Value} (h : Blk4 w b t p q r s) : w.cell? ⟨b, 0, none⟩ = some p ∧ w.cell? ⟨b, 1, none⟩ = some q ∧ w.cell? ⟨b, 2, none⟩ = some r ∧ w.cell? ⟨b, 3, none⟩ = some s :=
  ⟨h.cell0, h.cell1, h.cell2, h.cell3⟩
theorem Blk4.at_ {w : World} {b : Nat} (t : TypeId) (p q r s : Value) (hb : b = w.heap.size) : Blk4 (w.alloc (.cells #[p, q, r, s] t)) b t p q r s := by
  subst hb; unfold Blk4; show (w.heap.push _)[w.heap.size]? = _
  rw [Array.getElem?_push, if_pos rfl]
theorem Blk4.keepOne {w : World} {b : Nat} {t : TypeId} {p q r s : Value} (h : Blk4 w b t p q r s) {w' : World} {c : Nat} (hg : w.grownBy w' (some c)) (hne : b ≠ c) : Blk4 w' b t p q r s := (hg.block b h.lt (by simpa using hne)).trans h
end Go.Proofs.YtcapddcmnjeloaaGreatDoor
end

section
/-
  Chapter 5, in the model: sums and products with a mark for what is beyond the limit; IsRowOp.
-/
namespace Go.Proofs.YtcapddcmnjeloaaGreatDoor
open Go.RowKit
def badN : Int := -4611686018427387904
def fitB (n : Int) : Int := if NumP n then n else badN
def addB (a b : Int) : Int := if a = badN ∨ b = badN then badN else fitB (wrap64 (a + b))
def mulB (a b : Int) : Int := if a = badN ∨ b = badN then badN else fitB (wrap64 (a * b))
theorem sFit (n : Int) (w : World) : Calls Tryz.prog 126 #[.int .i64 n] w fun e w' => e = .returned (.int .i64 (fitB n)) ∧ w = w' := by
  by_cases h : NumP n
  · have E : Hid (fitB n = n) := by show fitB n = n; unfold fitB; rw [if_pos h]
    obtain ⟨h1, h2⟩ := h
    go_enter Tryz.func126, Tryz.ntmps126
    go_wp2_with fail
    refine (sIn_t n (-400000000) 400000000 _ h1 h2).mono ?_
    rintro e w' ⟨rfl, rfl⟩
    go_wp2_with fail
    go_ret
    exact ⟨by rw [E.out]; rfl, rfl⟩
  · have E : Hid (fitB n = badN) := by show fitB n = _; unfold fitB; rw [if_neg h]
    have h' : n < -400000000 ∨ 400000000 < n := by unfold NumP at h; omega
    clear h
    go_enter Tryz.func126, Tryz.ntmps126
    go_wp2_with fail
    refine (sIn_f n (-400000000) 400000000 _ h').mono ?_
    rintro e w' ⟨rfl, rfl⟩
    go_wp2_with fail
    go_ret
    exact ⟨by rw [E.out]; rfl, rfl⟩
theorem sAddB (a b : Int) (w : World) : Calls Tryz.prog 182 #[.int .i64 a, .int .i64 b] w fun e w' => e = .returned (.int .i64 (addB a b)) ∧ w = w' := by
  by_cases h1 : a = -4611686018427387904
  · have E : Hid (addB a b = badN) := by show addB a b = _; unfold addB; rw [if_pos (.inl h1)]
    have n1 : (a == -4611686018427387904) = true := by simpa using h1
    clear h1
    go_enter Tryz.func182, Tryz.ntmps182
    go_wp2_with fail
    go_ret
    exact ⟨by rw [E.out]; rfl, rfl⟩
  · have n1 : (a == -4611686018427387904) = false := by simpa using h1
    by_cases h2 : b = -4611686018427387904
    · have E : Hid (addB a b = badN) := by show addB a b = _; unfold addB; rw [if_pos (.inr h2)]
      have n2 : (b == -4611686018427387904) = true := by simpa using h2
      clear h1 h2
      go_enter Tryz.func182, Tryz.ntmps182
      go_wp2_with fail
      go_ret
      exact ⟨by rw [E.out]; rfl, rfl⟩
    · have E : Hid (addB a b = fitB (wrap64 (a + b))) := by show addB a b = _; unfold addB; rw [if_neg (by rintro (h | h); exact h1 h; exact h2 h)]
      have n2 : (b == -4611686018427387904) = false := by simpa using h2
      clear h1 h2
      go_enter Tryz.func182, Tryz.ntmps182
      go_wp2_with fail
      refine (sFit _ _).mono ?_
      rintro e w' ⟨rfl, rfl⟩
      go_wp2_with fail
      go_ret
      exact ⟨by rw [E.out]; rfl, rfl⟩
theorem sMulB (a b : Int) (w : World) : Calls Tryz.prog 181 #[.int .i64 a, .int .i64 b] w fun e w' => e = .returned (.int .i64 (mulB a b)) ∧ w = w' := by
  by_cases h1 : a = -4611686018427387904
  · have E : Hid (mulB a b = badN) := by show mulB a b = _; unfold mulB; rw [if_pos (.inl h1)]
    have n1 : (a == -4611686018427387904) = true := by simpa using h1
    clear h1
    go_enter Tryz.func181, Tryz.ntmps181
    go_wp2_with fail
    go_ret
    exact ⟨by rw [E.out]; rfl, rfl⟩
  · have n1 : (a == -4611686018427387904) = false := by simpa using h1
    by_cases h2 : b = -4611686018427387904
    · have E : Hid (mulB a b = badN) := by show mulB a b = _; unfold mulB; rw [if_pos (.inr h2)]
      have n2 : (b == -4611686018427387904) = true := by simpa using h2
      clear h1 h2
      go_enter Tryz.func181, Tryz.ntmps181
      go_wp2_with fail
      go_ret
      exact ⟨by rw [E.out]; rfl, rfl⟩
    · have E : Hid (mulB a b = fitB (wrap64 (a * b))) := by show mulB a b = _; unfold mulB; rw [if_neg (by rintro (h | h); exact h1 h; exact h2 h)]
      have n2 : (b == -4611686018427387904) = false := by simpa using h2
      clear h1 h2
      go_enter Tryz.func181, Tryz.ntmps181
      go_wp2_with fail
      refine (sFit _ _).mono ?_
      rintro e w' ⟨rfl, rfl⟩
      go_wp2_with fail
      go_ret
      exact ⟨by rw [E.out]; rfl, rfl⟩
end Go.Proofs.YtcapddcmnjeloaaGreatDoor
end

section
/-
  Plain mathematics of chapter 5: an operation on rows, cell by cell. Nothing of a program is used.
-/
namespace Go.Proofs.YtcapddcmnjeloaaGreatDoor
def opAt (k : Int) (I J : Nat) (t : Int) (C : Nat) (xs : List Int) (p : Nat) : Int :=
  if k = 0 then (if p / C = I then xs.getD (J * C + p % C) 0 else if p / C = J then xs.getD (I * C + p % C) 0 else xs.getD p 0)
  else if k = 1 then (if p / C = I then mulB (xs.getD p 0) (-1) else xs.getD p 0)
  else (if p / C = I then addB (xs.getD p 0) (mulB (xs.getD (J * C + p % C) 0) t) else xs.getD p 0)
def opTo (k : Int) (I J : Nat) (t : Int) (C : Nat) (xs : List Int) (q : Nat) : List Int := (List.range xs.length).map fun p => if p % C < q then opAt k I J t C xs p else xs.getD p 0
def opL (k : Int) (I J : Nat) (t : Int) (C : Nat) (xs : List Int) : List Int := (List.range xs.length).map (opAt k I J t C xs)
theorem opTo_length (k : Int) (I J : Nat) (t : Int) (C : Nat) (xs : List Int) (q : Nat) : (opTo k I J t C xs q).length = xs.length := by simp [opTo]
theorem opL_length (k : Int) (I J : Nat) (t : Int) (C : Nat) (xs : List Int) : (opL k I J t C xs).length = xs.length := by simp [opL]
theorem opTo_getD (k : Int) (I J : Nat) (t : Int) (C : Nat) (xs : List Int) (q p : Nat) (hp : p < xs.length) : (opTo k I J t C xs q).getD p 0 = if p % C < q then opAt k I J t C xs p else xs.getD p 0 := by
  simp [opTo, List.getD, hp]
theorem opTo_zero (k : Int) (I J : Nat) (t : Int) (C : Nat) (xs : List Int) : opTo k I J t C xs 0 = xs := by
  refine list_getD (opTo_length _ _ _ _ _ _ _) fun p hp => ?_
  rw [opTo_length] at hp
  rw [opTo_getD _ _ _ _ _ _ _ _ hp, if_neg (by omega)]
theorem opTo_all (k : Int) (I J : Nat) (t : Int) (C : Nat) (xs : List Int) (h : xs.length = 0 ∨ 0 < C) : opTo k I J t C xs C = opL k I J t C xs := by
  unfold opTo opL
  refine List.map_congr_left fun p hp => ?_
  have hp := List.mem_range.mp hp
  rw [if_pos (Nat.mod_lt p (by omega))]
theorem opTo_at (k : Int) (I J : Nat) (t : Int) (C : Nat) (xs : List Int) (q i : Nat) (hq : q < C) (hp : i * C + q < xs.length) : (opTo k I J t C xs q).getD (i * C + q) 0 = xs.getD (i * C + q) 0 := by
  rw [opTo_getD _ _ _ _ _ _ _ _ hp, idx_mod hq, if_neg (by omega)]
theorem opTo_next {k : Int} {I J : Nat} {t : Int} {C : Nat} {xs L : List Int} {q : Nat} (hl : L.length = xs.length) (h : ∀ p : Nat, p < xs.length → L.getD p 0 = if p % C = q then opAt k I J t C xs p else (opTo k I J t C xs q).getD p 0) : L = opTo k I J t C xs (q + 1) := by
  refine list_getD (by rw [hl, opTo_length]) fun p hp => ?_
  rw [hl] at hp
  rw [h p hp, opTo_getD _ _ _ _ _ _ _ _ hp, opTo_getD _ _ _ _ _ _ _ _ hp]
  by_cases e : p % C = q
  · rw [if_pos e, if_pos (by omega)]
  · rw [if_neg e]
    by_cases e2 : p % C < q
    · rw [if_pos e2, if_pos (by omega)]
    · rw [if_neg e2, if_neg (by omega)]
theorem split_idx {C p q : Nat} (h : p % C = q) : p = p / C * C + q := by
  have := Nat.div_add_mod p C
  rw [Nat.mul_comm] at this
  omega
theorem op_swap (I J : Nat) (t : Int) (C R : Nat) (xs : List Int) (q : Nat) (hl : xs.length = R * C) (hI : I < R) (hJ : J < R) (hq : q < C) :
    ((opTo 0 I J t C xs q).set (I * C + q) (xs.getD (J * C + q) 0)).set (J * C + q) (xs.getD (I * C + q) 0) = opTo 0 I J t C xs (q + 1) ∨ I = J := by
  by_cases hIJ : I = J
  · exact .inr hIJ
  refine .inl (opTo_next (by rw [List.length_set, List.length_set, opTo_length]) fun p hp => ?_)
  have a1 : I * C + q < xs.length := by rw [hl]; exact idx_lt hI hq
  have a2 : J * C + q < xs.length := by rw [hl]; exact idx_lt hJ hq
  rw [getD_set _ _ _ _ (by rw [List.length_set, opTo_length]; exact a2), getD_set _ _ _ _ (by rw [opTo_length]; exact a1)]
  by_cases e : p % C = q
  · rw [if_pos e]
    have sp := split_idx e
    unfold opAt
    rw [if_pos rfl, e]
    by_cases e1 : p / C = I
    · have : p = I * C + q := by rw [← e1]; exact sp
      rw [if_pos e1, if_neg (fun h => hIJ (by rw [← e1, h, idx_div hq])), if_pos this]
    · rw [if_neg e1]
      by_cases e2 : p / C = J
      · have : p = J * C + q := by rw [← e2]; exact sp
        rw [if_pos e2, if_pos this]
      · rw [if_neg e2, if_neg (fun h => e2 (by rw [h, idx_div hq])), if_neg (fun h => e1 (by rw [h, idx_div hq])), opTo_getD _ _ _ _ _ _ _ _ hp, if_neg (by omega)]
  · rw [if_neg e, if_neg (fun h => e (by rw [h, idx_mod hq])), if_neg (fun h => e (by rw [h, idx_mod hq]))]
theorem op_one (k : Int) (I J : Nat) (t : Int) (C R : Nat) (xs : List Int) (q : Nat) (z : Int) (hl : xs.length = R * C) (hI : I < R) (hq : q < C) (hk : k = 1 ∨ k = 2) (hz : z = opAt k I J t C xs (I * C + q)) :
    (opTo k I J t C xs q).set (I * C + q) z = opTo k I J t C xs (q + 1) := by
  refine opTo_next (by rw [List.length_set, opTo_length]) fun p hp => ?_
  have a1 : I * C + q < xs.length := by rw [hl]; exact idx_lt hI hq
  rw [getD_set _ _ _ _ (by rw [opTo_length]; exact a1)]
  by_cases e : p % C = q
  · rw [if_pos e]
    have sp := split_idx e
    by_cases e1 : p / C = I
    · have : p = I * C + q := by rw [← e1]; exact sp
      rw [if_pos this, hz, this]
    · rw [if_neg (fun h => e1 (by rw [h, idx_div hq])), opTo_getD _ _ _ _ _ _ _ _ hp, if_neg (by omega)]
      unfold opAt
      rcases hk with rfl | rfl
      · rw [if_neg (by decide), if_pos rfl, if_neg e1]
      · rw [if_neg (by decide), if_neg (by decide), if_neg e1]
  · rw [if_neg e, if_neg (fun h => e (by rw [h, idx_mod hq]))]
theorem opAt_one (I J : Nat) (t : Int) (C : Nat) (xs : List Int) {q : Nat} (hq : q < C) : opAt 1 I J t C xs (I * C + q) = mulB (xs.getD (I * C + q) 0) (-1) := by
  unfold opAt
  rw [if_neg (by decide), if_pos rfl, idx_div hq, if_pos rfl]
theorem opAt_two (I J : Nat) (t : Int) (C : Nat) (xs : List Int) {q : Nat} (hq : q < C) : opAt 2 I J t C xs (I * C + q) = addB (xs.getD (I * C + q) 0) (mulB (xs.getD (J * C + q) 0) t) := by
  unfold opAt
  rw [if_neg (by decide), if_neg (by decide), idx_div hq, if_pos rfl, idx_mod hq]
end Go.Proofs.YtcapddcmnjeloaaGreatDoor
end

section
/-
  Plain mathematics of chapter 6: the determinant by expansion along the first row, with a mark where one that is met is beyond the limit. Nothing of a program is used.
-/
namespace Go.Proofs.YtcapddcmnjeloaaGreatDoor
def mxL (n : Nat) (xs : List Int) : Mx := fun r c => xs.getD (r * n + c) 0
end Go.Proofs.YtcapddcmnjeloaaGreatDoor
end

section
/-
  A block of ints, cell by cell.
-/
namespace Go.Proofs.YtcapddcmnjeloaaGreatDoor
open Go.RowKit
theorem Rd.cells {w : World} {b o : Nat} {zs : List Int} (h : Rd w (some ⟨b, o, none⟩) zs) (j : Nat) (hj : j < zs.length) : w.cell? ⟨b, o + j, none⟩ = some (.int .i64 (zs.getD j 0)) := by
  obtain ⟨b', o', e, hc⟩ := h j hj
  injection e with e
  injection e with e1 e2
  subst e1 e2
  exact hc
theorem Rd.addr {w : World} {a : Option Addr} {zs : List Int} (h : Rd w a zs) (hz : 0 < zs.length) : ∃ b o : Nat, a = some ⟨b, o, none⟩ := by
  obtain ⟨b, o, e, -⟩ := h 0 hz
  exact ⟨b, o, e⟩
end Go.Proofs.YtcapddcmnjeloaaGreatDoor
end

section
/-
  Chapter 6, in the model: l6Det.
-/
namespace Go.Proofs.YtcapddcmnjeloaaGreatDoor
set_option maxRecDepth 100000
open Go.RowKit
theorem Own.rdq {B n c : Nat} {w : World} {a : Option Addr} {zs : List Int} (h : Own B w (.slice a n c) zs) : Rd w a zs := by
  rcases h with ⟨hv, rfl⟩ | ⟨g, cap, hv, _, hi, _⟩
  · exact Rd.nil _ _
  · simp only [Value.slice.injEq] at hv
    obtain ⟨rfl, -, -⟩ := hv
    exact hi.rd
end Go.Proofs.YtcapddcmnjeloaaGreatDoor
end

section
/-
  Chapter 6, in the model: IsSquare.
-/
namespace Go.Proofs.YtcapddcmnjeloaaGreatDoor
open Go.RowKit
def isSq (r c : Int) (xs : List Int) : Bool := isMat r c xs && decide (r = c) && decide (r ≤ 6)
set_option maxHeartbeats 1000000 in
theorem sIsSq (r c : Int) (a : Option Addr) (m : Nat) (xs : List Int) (w : World) (h : Rd w a xs) (hn : xs.length ≤ 16777216) :
    Calls Tryz.prog 78 #[.agg #[.int .i64 r, .int .i64 c, .slice a xs.length m]] w (Gives (.bool (isSq r c xs)) w) := by
  have H := Lib.hid h
  obtain ⟨n, hx⟩ : ∃ n, xs.length = n := ⟨_, rfl⟩
  have HX := Lib.hid hx
  rw [hx] at hn ⊢
  clear hx h
  have B0 : ∀ o1, Below w.heap.size w (w.alloc o1) := fun o1 => (Below.refl _ _).alloc (Nat.le_refl _) _
  have BH := Lib.hid B0
  clear B0
  have fin : ∀ b (w' : World), isSq r c xs = b → Below w.heap.size w w' → Gives (.bool (isSq r c xs)) w (.returned (.bool b)) w' := fun b w' h1 h2 => ⟨by rw [h1], h2⟩
  have FIN := Lib.hid fin
  clear fin
  go_enter Tryz.func78, Tryz.ntmps78
  go_wp2_with fail
  have ST := sIsMat r c a m xs _ (H.out.below (BH.out (.cells #[.int .i64 r, .int .i64 c, .slice a n m] 26))) (by rw [HX.out]; omega)
  rw [HX.out] at ST
  refine ST.mono ?_
  clear ST
  rintro e w1 ⟨rfl, hb⟩
  have K0 : Hid (Blk3 w1 w.heap.size 26 (.int .i64 r) (.int .i64 c) (.slice a n m)) := (Blk3.at_ _ _ _ _ rfl).keep hb (by simp)
  have B : Hid (Below w.heap.size w w1) := (BH.out _).trans (hb.mono (by simp))
  clear hb
  obtain ⟨ca0, ca1, ca2, -, -, -⟩ := K0.out.all
  obtain ⟨bm, hbm⟩ : ∃ b, isMat r c xs = b := ⟨_, rfl⟩
  rw [hbm]
  cases bm with
  | false =>
    have V : Hid (isSq r c xs = false) := by show isSq r c xs = false; unfold isSq; rw [hbm]; rfl
    clear hbm
    go_wp2_with fail
    go_ret
    exact FIN.out _ _ V.out B.out
  | true =>
    by_cases h1 : r = c
    · by_cases h2 : r ≤ 6
      · have V : Hid (isSq r c xs = true) := by show isSq r c xs = true; unfold isSq; rw [hbm, decide_eq_true h1, decide_eq_true h2]; rfl
        clear hbm
        subst h1
        go_wp2_with fail
        go_ret
        exact FIN.out _ _ V.out B.out
      · have V : Hid (isSq r c xs = false) := by show isSq r c xs = false; unfold isSq; rw [hbm, decide_eq_false h2]; simp
        clear hbm
        subst h1
        go_wp2_with fail
        go_ret
        exact FIN.out _ _ (by rw [V.out]; exact (decide_eq_false (by omega)).symm) B.out
    · have V : Hid (isSq r c xs = false) := by show isSq r c xs = false; unfold isSq; rw [hbm, decide_eq_false h1]; simp
      have n1 : (r == c) = false := by simpa using h1
      clear hbm
      go_wp2_with fail
      go_ret
      exact FIN.out _ _ V.out B.out
end Go.Proofs.YtcapddcmnjeloaaGreatDoor
end

section
/-
  Plain mathematics of chapter 1: Euclid's steps on triples, their sizes, and what they lead to. Nothing of a program is imported.
-/
namespace Go.Proofs.YtcapddcmnjeloaaGreatDoor
def egN : Nat → Int → Int → Int → Int → Int → Int → Int × Int × Int
  | 0, g, x, y, _, _, _ => (g, x, y)
  | n + 1, g, x, y, h, u, v => if h = 0 then (g, x, y) else egN n h u v (g - g.tdiv h * h) (x - g.tdiv h * u) (y - g.tdiv h * v)
theorem rem_lt (g h : Int) (hh : h ≠ 0) : (g - g.tdiv h * h).natAbs < h.natAbs := by
  have e : g - g.tdiv h * h = g.tmod h := by have := Int.tdiv_mul_add_tmod g h; omega
  rw [e, Int.natAbs_tmod]
  exact Nat.mod_lt _ (by omega)
theorem egN_fuel : ∀ (n m : Nat) (g x y h u v : Int), h.natAbs ≤ n → h.natAbs ≤ m → egN n g x y h u v = egN m g x y h u v := by
  intro n
  induction n with
  | zero =>
    intro m g x y h u v hn _
    have h0 : h = 0 := by omega
    subst h0
    cases m <;> simp [egN]
  | succ n ih =>
    intro m g x y h u v hn hm
    by_cases h0 : h = 0
    · subst h0; cases m <;> simp [egN]
    · cases m with
      | zero => omega
      | succ m =>
        have := rem_lt g h h0
        simp only [egN, if_neg h0]
        exact ih m _ _ _ _ _ _ (by omega) (by omega)
def eg (g x y h u v : Int) : Int × Int × Int := egN h.natAbs g x y h u v
theorem eg_end (g x y u v : Int) : eg g x y 0 u v = (g, x, y) := by simp [eg, egN]
theorem eg_step (g x y h u v : Int) (hh : h ≠ 0) : eg g x y h u v = eg h u v (g - g.tdiv h * h) (x - g.tdiv h * u) (y - g.tdiv h * v) := by
  have hl := rem_lt g h hh
  unfold eg
  obtain ⟨k, hk⟩ : ∃ k, h.natAbs = k + 1 := ⟨h.natAbs - 1, by omega⟩
  rw [hk]
  simp only [egN, if_neg hh]
  exact egN_fuel _ _ _ _ _ _ _ _ (by omega) (by omega)
def Half (c g x h u : Int) : Prop := ∃ s : Int, (s = 1 ∨ s = -1) ∧ 0 ≤ s * (g * u) ∧ s * (h * x) ≤ 0 ∧ s * (g * u) - s * (h * x) = c
theorem between (k g m : Int) (h : 0 ≤ k * g) (hm : (0 ≤ m ∧ m ≤ g) ∨ (g ≤ m ∧ m ≤ 0)) : 0 ≤ k * m := by
  rcases Int.lt_trichotomy m 0 with h1 | h1 | h1
  · have hg : g < 0 := by omega
    have hk : k ≤ 0 := by
      rcases Int.lt_or_le 0 k with hp | hp
      · have := Int.mul_neg_of_pos_of_neg hp hg; omega
      · exact hp
    exact Int.mul_nonneg_of_nonpos_of_nonpos hk (by omega)
  · subst h1; simp
  · have hg : 0 < g := by omega
    have hk : 0 ≤ k := by
      rcases Int.lt_or_le k 0 with hp | hp
      · have := Int.mul_neg_of_neg_of_pos hp hg; omega
      · exact hp
    exact Int.mul_nonneg hk (by omega)
theorem tdiv_between (g h : Int) :
    ((0 ≤ g.tdiv h * h ∧ g.tdiv h * h ≤ g) ∨ (g ≤ g.tdiv h * h ∧ g.tdiv h * h ≤ 0)) ∧ ((0 ≤ g - g.tdiv h * h ∧ g - g.tdiv h * h ≤ g) ∨ (g ≤ g - g.tdiv h * h ∧ g - g.tdiv h * h ≤ 0)) := by
  have e := Int.tdiv_mul_add_tmod g h
  rcases Int.lt_or_le g 0 with hg | hg
  · have h1 : (-g).tmod h = - g.tmod h := Int.neg_tmod g h
    have h2 : 0 ≤ (-g).tmod h := Int.tmod_nonneg h (by omega)
    have h3 : (-g).tdiv h * h = - (g.tdiv h * h) := by rw [Int.neg_tdiv, Int.neg_mul]
    have h4 : (-g).tmod h ≤ -g := by
      have := Int.natAbs_tmod (-g) h
      have := Nat.mod_le (-g).natAbs h.natAbs
      omega
    omega
  · have h2 : 0 ≤ g.tmod h := Int.tmod_nonneg h hg
    have h4 : g.tmod h ≤ g := by
      have := Int.natAbs_tmod g h
      have := Nat.mod_le g.natAbs h.natAbs
      omega
    omega
theorem Half.step {c g x h u : Int} (hf : Half c g x h u) : Half c h u (g - g.tdiv h * h) (x - g.tdiv h * u) := by
  obtain ⟨s, hs, h1, h2, h3⟩ := hf
  obtain ⟨b1, b2⟩ := tdiv_between g h
  have k1 : 0 ≤ (s * u) * g := by have : (s * u) * g = s * (g * u) := by rw [Int.mul_assoc, Int.mul_comm u g]
                                  omega
  have m1 := between _ _ _ k1 b1
  have m2 := between _ _ _ k1 b2
  have e1 : -s * (h * (x - g.tdiv h * u)) = (s * u) * (g.tdiv h * h) - s * (h * x) := by
    simp only [Int.mul_sub, Int.neg_mul]
    have : s * (h * (g.tdiv h * u)) = s * u * (g.tdiv h * h) := by
      simp only [Int.mul_assoc, Int.mul_comm, Int.mul_left_comm]
    omega
  have e2 : -s * ((g - g.tdiv h * h) * u) = -((s * u) * (g - g.tdiv h * h)) := by
    rw [Int.neg_mul]; congr 1
    rw [Int.mul_assoc, Int.mul_comm u]
  have e3 : (s * u) * (g.tdiv h * h) + (s * u) * (g - g.tdiv h * h) = s * (g * u) := by
    rw [← Int.mul_add, show g.tdiv h * h + (g - g.tdiv h * h) = g from by omega, Int.mul_assoc, Int.mul_comm u]
  refine ⟨-s, by omega, ?_, ?_, ?_⟩
  · rw [e1]; omega
  · rw [e2]; omega
  · rw [e1, e2]; omega
theorem abs_le_of_mul (k x c : Int) (hk : k ≠ 0) (h1 : -c ≤ k * x) (h2 : k * x ≤ c) : -c ≤ x ∧ x ≤ c := by
  have e : (k * x).natAbs = k.natAbs * x.natAbs := Int.natAbs_mul k x
  have h3 : x.natAbs ≤ k.natAbs * x.natAbs := Nat.le_mul_of_pos_left _ (by omega)
  omega
theorem Half.small2 {c g x h u : Int} (hf : Half c g x h u) (hg : g ≠ 0) : -c ≤ u ∧ u ≤ c := by
  obtain ⟨s, hs, h1, h2, h3⟩ := hf
  refine abs_le_of_mul g u c hg ?_ ?_ <;> rcases hs with rfl | rfl <;> omega
theorem half_first (a b : Int) : Half (b.natAbs : Int) a 1 b 0 := by
  rcases Int.lt_or_le b 0 with hb | hb
  · exact ⟨1, .inl rfl, by simp, by omega, by omega⟩
  · exact ⟨-1, .inr rfl, by simp, by omega, by omega⟩
theorem half_second (a b : Int) : Half (a.natAbs : Int) a 0 b 1 := by
  rcases Int.lt_or_le a 0 with hb | hb
  · exact ⟨-1, .inr rfl, by omega, by simp, by omega⟩
  · exact ⟨1, .inl rfl, by omega, by simp, by omega⟩
structure Inv (a b g x y h u v : Int) : Prop where
  g0 : -400000000 ≤ g ∧ g ≤ 400000000
  h0 : -400000000 ≤ h ∧ h ≤ 400000000
  x0 : -400000000 ≤ x ∧ x ≤ 400000000
  y0 : -400000000 ≤ y ∧ y ≤ 400000000
  u0 : -400000000 ≤ u ∧ u ≤ 400000000
  v0 : -400000000 ≤ v ∧ v ≤ 400000000
  gc : a * x + b * y = g
  hc : a * u + b * v = h
  hx : Half (b.natAbs : Int) g x h u
  hy : Half (a.natAbs : Int) g y h v
  gd : Int.gcd g h = Int.gcd a b
theorem Inv.start (a b : Int) (ha : -400000000 ≤ a ∧ a ≤ 400000000) (hb : -400000000 ≤ b ∧ b ≤ 400000000) : Inv a b a 1 0 b 0 1 :=
  ⟨ha, hb, by omega, by omega, by omega, by omega, by omega, by omega, half_first a b, half_second a b, rfl⟩
theorem gcd_sub_mul (g h q : Int) : Int.gcd h (g - q * h) = Int.gcd g h := by
  rw [Int.gcd_comm g h, show g - q * h = g + h * (-q) from by rw [Int.mul_neg, Int.mul_comm h q]; omega]
  exact Int.gcd_add_mul_left_right h g (-q)
theorem Inv.step {a b g x y h u v : Int} (ha : -400000000 ≤ a ∧ a ≤ 400000000) (hb : -400000000 ≤ b ∧ b ≤ 400000000) (i : Inv a b g x y h u v) (hh : h ≠ 0) :
    Inv a b h u v (g - g.tdiv h * h) (x - g.tdiv h * u) (y - g.tdiv h * v) := by
  have hl := rem_lt g h hh
  have h0 := i.h0
  have kx := i.hx.step
  have ky := i.hy.step
  have bx := kx.small2 hh
  have by' := ky.small2 hh
  refine ⟨i.h0, by omega, i.u0, i.v0, by omega, by omega, i.hc, ?_, kx, ky, ?_⟩
  · have g1 := i.gc
    have h1 := i.hc
    rw [Int.mul_sub, Int.mul_sub]
    have e : ∀ q : Int, a * (q * u) + b * (q * v) = q * h := fun q => by
      rw [← h1, Int.mul_add, Int.mul_left_comm a, Int.mul_left_comm b]
    have e' := e (g.tdiv h)
    omega
  · rw [gcd_sub_mul]; exact i.gd
theorem Inv.fits {a b g x y h u v : Int} (ha : -400000000 ≤ a ∧ a ≤ 400000000) (hb : -400000000 ≤ b ∧ b ≤ 400000000) (i : Inv a b g x y h u v) (hh : h ≠ 0) :
    (-400000000 ≤ g.tdiv h ∧ g.tdiv h ≤ 400000000) ∧ (-800000000 ≤ g.tdiv h * h ∧ g.tdiv h * h ≤ 800000000) ∧ (-800000000 ≤ g.tdiv h * u ∧ g.tdiv h * u ≤ 800000000) ∧ (-800000000 ≤ g.tdiv h * v ∧ g.tdiv h * v ≤ 800000000) := by
  have j := i.step ha hb hh
  have g0 := i.g0; have x0 := i.x0; have y0 := i.y0; have h0 := i.h0
  have h1 := j.h0; have u1 := j.u0; have v1 := j.v0
  have q : (g.tdiv h).natAbs ≤ g.natAbs := by rw [Int.natAbs_tdiv]; exact Nat.div_le_self _ _
  refine ⟨by omega, by omega, by omega, by omega⟩
theorem Inv.last {a b g x y u v : Int} (i : Inv a b g x y 0 u v) : (g.natAbs : Int) = (Int.gcd a b : Int) := by
  have := i.gd
  rw [Int.gcd_zero_right] at this
  omega
theorem gcd_round (x y : Int) : Int.gcd y (x.tmod y) = Int.gcd x y := by
  rw [show x.tmod y = x - x.tdiv y * y from by have := Int.tdiv_mul_add_tmod x y; omega]
  exact gcd_sub_mul x y _
theorem tmod_small (x y : Int) (hy : y ≠ 0) : (x.tmod y).natAbs < y.natAbs := by
  rw [Int.natAbs_tmod]; exact Nat.mod_lt _ (by omega)
theorem ediv_of (n d q r : Int) (hd : 0 < d) (h : n = q * d + r) (h0 : 0 ≤ r) (h1 : r < d) : n / d = q ∧ n % d = r :=
  (Int.ediv_emod_unique hd).2 ⟨by rw [h, Int.mul_comm]; omega, h0, h1⟩
theorem tdiv_up (n d : Int) (hd : 0 < d) (h : 0 ≤ n.tmod d) : n / d = n.tdiv d ∧ n % d = n.tmod d := by
  have e := Int.tdiv_mul_add_tmod n d
  have l := tmod_small n d (by omega)
  exact ediv_of n d _ _ hd (by omega) h (by omega)
theorem tdiv_down (n d : Int) (hd : 0 < d) (h : n.tmod d < 0) : n / d = n.tdiv d - 1 ∧ n % d = n.tmod d + d := by
  have e := Int.tdiv_mul_add_tmod n d
  have l := tmod_small n d (by omega)
  exact ediv_of n d _ _ hd (by rw [Int.sub_mul]; omega) (by omega) (by omega)
theorem tdiv_bd (n d : Int) (h1 : -400000000 ≤ n) (h2 : n ≤ 400000000) : -400000000 ≤ n.tdiv d ∧ n.tdiv d ≤ 400000000 := by
  have q : (n.tdiv d).natAbs ≤ n.natAbs := by rw [Int.natAbs_tdiv]; exact Nat.div_le_self _ _
  omega
theorem iDiv_pos (n d : Int) (hd0 : d ≠ 0) (h : 0 ≤ n.tmod d) : n / d = n.tdiv d ∧ n % d = n.tmod d := by
  rcases Int.lt_or_le 0 d with hd | hd
  · exact tdiv_up n d hd h
  · obtain ⟨c, rfl⟩ : ∃ c, d = -c := ⟨-d, by omega⟩
    rw [Int.ediv_neg, Int.emod_neg, Int.tdiv_neg, Int.tmod_neg]
    rw [Int.tmod_neg] at h
    have := tdiv_up n c (by omega) h
    exact ⟨by rw [this.1], this.2⟩
theorem iDiv_neg (n c : Int) (hc : 0 < c) (h : n.tmod (-c) < 0) : n / -c = n.tdiv (-c) + 1 ∧ n % -c = n.tmod (-c) - -c := by
  rw [Int.ediv_neg, Int.emod_neg, Int.tdiv_neg, Int.tmod_neg]
  rw [Int.tmod_neg] at h
  have := tdiv_down n c hc h
  omega
end Go.Proofs.YtcapddcmnjeloaaGreatDoor
end

section
/-
  Chapter 1, in the model: |n|.
-/
namespace Go.Proofs.YtcapddcmnjeloaaGreatDoor
open Go.RowKit
theorem tdiv_bdw (n d : Int) (h1 : -4000000000000000000 ≤ n) (h2 : n ≤ 4000000000000000000) : -4000000000000000000 ≤ n.tdiv d ∧ n.tdiv d ≤ 4000000000000000000 := by
  have q : (n.tdiv d).natAbs ≤ n.natAbs := by rw [Int.natAbs_tdiv]; exact Nat.div_le_self _ _
  omega
theorem sAbs_p (n : Int) (w : World) (h1 : 0 ≤ n) (h2 : n ≤ 9223372036854775807) :
    Calls Tryz.prog 127 #[.int .i64 n] w fun e w' => e = .returned (.int .i64 n) ∧ w = w' := by
  go_enter Tryz.func127, Tryz.ntmps127
  go_wp2
  all_goals
    go_ret
    exact ⟨ret_int (by omega), rfl⟩
theorem sAbs_n (n : Int) (w : World) (h1 : 0 < n) (h2 : n ≤ 9223372036854775807) :
    Calls Tryz.prog 127 #[.int .i64 (-n)] w fun e w' => e = .returned (.int .i64 n) ∧ w = w' := by
  go_enter Tryz.func127, Tryz.ntmps127
  go_wp2
  all_goals
    go_ret
    exact ⟨ret_int (by omega), rfl⟩
theorem sAbs (n : Int) (w : World) (h1 : -9000000000000000000 ≤ n) (h2 : n ≤ 9000000000000000000) :
    Calls Tryz.prog 127 #[.int .i64 n] w fun e w' => e = .returned (.int .i64 (n.natAbs : Int)) ∧ w = w' := by
  rcases Int.lt_or_le n 0 with h | h
  · obtain ⟨m, rfl⟩ : ∃ m, n = -m := ⟨-n, by omega⟩
    rw [show (((-m).natAbs : Nat) : Int) = m by omega]
    exact sAbs_n m w (by omega) (by omega)
  · rw [show ((n.natAbs : Nat) : Int) = n by omega]
    exact sAbs_p n w (by omega) (by omega)
end Go.Proofs.YtcapddcmnjeloaaGreatDoor
end

section
/-
  Chapter 6, in the model: DeterminantOf, IsUnimodular.
-/
namespace Go.Proofs.YtcapddcmnjeloaaGreatDoor
open Go.RowKit
theorem isSq_says {r c : Int} {xs : List Int} (h : isSq r c xs = true) : ∃ n : Nat, r = n ∧ c = n ∧ n ≤ 6 ∧ xs.length = n * n ∧ nums xs = true := by
  unfold isSq at h
  simp only [Bool.and_eq_true, decide_eq_true_eq] at h
  obtain ⟨⟨h1, h2⟩, h3⟩ := h
  obtain ⟨⟨r1, r2⟩, -, l, nx⟩ := isMat_says h1
  obtain ⟨n, rfl⟩ := Int.eq_ofNat_of_zero_le r1
  subst h2
  exact ⟨n, rfl, rfl, by omega, by rw [← Int.natCast_mul] at l; omega, nx⟩
end Go.Proofs.YtcapddcmnjeloaaGreatDoor
end

section
/-
  Plain mathematics: a row that is filled from the left.
-/
namespace Go.Proofs.YtcapddcmnjeloaaGreatDoor
end Go.Proofs.YtcapddcmnjeloaaGreatDoor
end

section
/-
  Plain mathematics of chapter 3: what a product and a matrix turned over are. Nothing of a program is used.
-/
namespace Go.Proofs.YtcapddcmnjeloaaGreatDoor
open Go.RowKit
end Go.Proofs.YtcapddcmnjeloaaGreatDoor
end

section
/-
  Plain mathematics of chapter 6: elimination without fractions over lists of cells ends in the determinant. Nothing of a program is used.
-/
namespace Go.Proofs.YtcapddcmnjeloaaGreatDoor
end Go.Proofs.YtcapddcmnjeloaaGreatDoor
end

section
/-
  What SameMatrix answers.
-/
namespace Go.Proofs.YtcapddcmnjeloaaGreatDoor
end Go.Proofs.YtcapddcmnjeloaaGreatDoor
end

section
/-
  Plain mathematics of chapter 3: products and matrices turned over. Nothing of a program is used.
-/
namespace Go.Proofs.YtcapddcmnjeloaaGreatDoor
end Go.Proofs.YtcapddcmnjeloaaGreatDoor
end

section
/-
  Plain mathematics of chapter 3: products can be grouped in any way, and distribute over sums. Nothing of a program is used.
-/
namespace Go.Proofs.YtcapddcmnjeloaaGreatDoor
end Go.Proofs.YtcapddcmnjeloaaGreatDoor
end

section
/-
  Chapter 5, in the model: a copy of a matrix; an operation on rows, in place.
-/
namespace Go.Proofs.YtcapddcmnjeloaaGreatDoor
set_option maxRecDepth 100000
open Go.RowKit
set_option maxHeartbeats 1000000 in
theorem sCopy (r c : Int) (ga oa m n : Nat) (xs : List Int) (w : World) (h : Rd w (some ⟨ga, oa, none⟩) xs) (hx : xs.length = n) (hn : n ≤ 1048576) :
    Calls Tryz.prog 80 #[.agg #[.int .i64 r, .int .i64 c, .slice (some ⟨ga, oa, none⟩) n m]] w (fun e w' => ∃ g cap : Nat, e = .returned (.agg #[.int .i64 r, .int .i64 c, .slice (some ⟨g, 0, none⟩) n cap]) ∧ w.heap.size ≤ g ∧ IntsC w' g cap xs ∧ Below w.heap.size w w') := by
  have H := Lib.hid h
  have HX := Lib.hid hx
  clear h hx
  have BH : Hid (Below w.heap.size w ((w.alloc (.cells #[.int .i64 r, .int .i64 c, .slice (some ⟨ga, oa, none⟩) n m] 26)).alloc (.cells #[.int .i64 0, .int .i64 0, .slice none 0 0] 26))) := ((Below.refl _ _).alloc (Nat.le_refl _) _).alloc (by simp) _
  have K0 : Hid (Blk3 ((w.alloc (.cells #[.int .i64 r, .int .i64 c, .slice (some ⟨ga, oa, none⟩) n m] 26)).alloc (.cells #[.int .i64 0, .int .i64 0, .slice none 0 0] 26)) w.heap.size 26 (.int .i64 r) (.int .i64 c) (.slice (some ⟨ga, oa, none⟩) n m)) := (Blk3.at_ _ _ _ _ rfl).old _
  have K2 : Hid (Blk3 ((w.alloc (.cells #[.int .i64 r, .int .i64 c, .slice (some ⟨ga, oa, none⟩) n m] 26)).alloc (.cells #[.int .i64 0, .int .i64 0, .slice none 0 0] 26)) (w.heap.size + 1) 26 (.int .i64 0) (.int .i64 0) (.slice none 0 0)) := Blk3.at_ _ _ _ _ (by simp)
  obtain ⟨w2, hw2⟩ : ∃ w2, (w.alloc (.cells #[.int .i64 r, .int .i64 c, .slice (some ⟨ga, oa, none⟩) n m] 26)).alloc (.cells #[.int .i64 0, .int .i64 0, .slice none 0 0] 26) = w2 := ⟨_, rfl⟩
  rw [hw2] at BH K0 K2
  go_enter Tryz.func80, Tryz.ntmps80
  go_wp2_with fail
  clear hw2
  refine wp_region_held_drew (S := fun w' => FrS (fun k => k = w.heap.size + 1) w2 w') (by kernel_rfl) (FrS.refl _ _).drew (fun hH => ?_)
  refine wpAnyH_take (i := 0) (v := ?_) (by simp only [List.getElem?_toArray, List.getElem?_cons_zero]; rfl) (by kernel_rfl) (by kernel_rfl) (by kernel_rfl) (by exact fun _ _ _ h => h) (Or.inl ⟨by rfl, ?_⟩) hH ?_
  rotate_left
  · (intro wS hS; clear hS; go_simp; try rfl)
  try simp only [Act.put, List.setIfInBounds_toArray, List.set_cons_zero, List.set_cons_succ]
  refine wpAnyH_take (i := 1) (v := ?_) (by simp only [List.getElem?_toArray, List.getElem?_cons_succ, List.getElem?_cons_zero]; rfl) (by kernel_rfl) (by kernel_rfl) (by kernel_rfl) (by exact fun _ _ _ h => h) (Or.inl ⟨by rfl, ?_⟩) hH ?_
  rotate_left
  · (intro wS hS; (try dsimp only at hS); obtain ⟨k1, k2, k3⟩ := sevenF K0.out hS (by omega); go_simp; try rfl)
  try simp only [Act.put, List.setIfInBounds_toArray, List.set_cons_zero, List.set_cons_succ]
  refine wpAnyH_take (i := 2) (v := ?_) (by simp only [List.getElem?_toArray, List.getElem?_cons_succ, List.getElem?_cons_zero]; rfl) (by kernel_rfl) (by kernel_rfl) (by kernel_rfl) (by exact fun _ _ _ h => h) (Or.inl ⟨by rfl, ?_⟩) hH ?_
  rotate_left
  · (intro wS hS; clear hS; go_simp; try rfl)
  try simp only [Act.put, List.setIfInBounds_toArray, List.set_cons_zero, List.set_cons_succ]
  refine wpAnyH_take (i := 3) (v := ?_) (by simp only [List.getElem?_toArray, List.getElem?_cons_succ, List.getElem?_cons_zero]; rfl) (by kernel_rfl) (by kernel_rfl) (by kernel_rfl) (by exact fun _ _ _ h => h) (Or.inl ⟨by rfl, ?_⟩) hH ?_
  rotate_left
  · (intro wS hS; (try dsimp only at hS); obtain ⟨k1, k2, k3⟩ := sevenF K0.out hS (by omega); go_simp; try rfl)
  try simp only [Act.put, List.setIfInBounds_toArray, List.set_cons_zero, List.set_cons_succ]
  refine wpAnyH_take (i := 5) (v := ?_) (by simp only [List.getElem?_toArray, List.getElem?_cons_succ, List.getElem?_cons_zero]; rfl) (by kernel_rfl) (by kernel_rfl) (by kernel_rfl) (by exact fun _ _ _ h => h) (Or.inl ⟨by rfl, ?_⟩) hH ?_
  rotate_left
  · (intro wS hS; clear hS; go_simp; try rfl)
  try simp only [Act.put, List.setIfInBounds_toArray, List.set_cons_zero, List.set_cons_succ]
  refine wpAnyH_take (i := 6) (v := ?_) (by simp only [List.getElem?_toArray, List.getElem?_cons_succ, List.getElem?_cons_zero]; rfl) (by kernel_rfl) (by kernel_rfl) (by kernel_rfl) (by exact fun _ _ _ h => h) (Or.inl ⟨by rfl, ?_⟩) hH ?_
  rotate_left
  · (intro wS hS; (try dsimp only at hS); obtain ⟨k1, k2, k3⟩ := sevenF K0.out hS (by omega); go_simp; try rfl)
  try simp only [Act.put, List.setIfInBounds_toArray, List.set_cons_zero, List.set_cons_succ]
  refine wpAnyH_ready (rs := [4]) (by kernel_rfl) (by simp) ?_
  refine AllReadyH.cons (by simp only [List.getElem?_toArray, List.getElem?_cons_succ, List.getElem?_cons_zero]; rfl) (fun KK hKK => ?_) AllReadyH.nil
  go_simp
  try dsimp only
  refine hKK.out _ _ ?_ (fun hH2 => ?_)
  · exact (((FrS.refl _ w2).alloc _).drew)
  clear hKK KK
  have hO := hH
  clear hH
  have hH := hH2
  clear hH2
  try simp only [Act.put, List.setIfInBounds_toArray, List.set_cons_zero, List.set_cons_succ]
  have own0 : ((w2.alloc (.cells #[] 3)).drew).ownsRow w2.heap.size 3 1 (.slice (some ⟨w2.heap.size, 0, none⟩) 0 0) 0 (([] : List Int).map (Value.int .i64)) := ⟨rfl, .inr ⟨w2.heap.size, 0, #[], rfl, Nat.le_refl _, heap_alloc_new w2 _, Nat.le_refl _, by decide, rfl, rfl⟩⟩
  have BA : Hid (Below w2.heap.size w2 ((w2.alloc (.cells #[] 3)).drew)) := ((Below.refl _ _).alloc (Nat.le_refl _) _).drew
  obtain ⟨v1, wa, hr1, ho1, hg1, nn1⟩ := appendInts2 _ w2.heap.size 0 n m _ [] xs ga oa own0 (H.out.below (BH.out.trans (BA.out.mono BH.out.size))) HX.out (by omega) BA.out.size
  refine wpAnyH_ready (rs := [7]) (by kernel_rfl) (by simp) ?_
  refine AllReadyH.cons (by simp only [List.getElem?_toArray, List.getElem?_cons_succ, List.getElem?_cons_zero]; rfl) (fun KK hKK => ?_) AllReadyH.nil
  refine step_append rfl _ _ 24 rfl _ _ rfl rfl _ _ hr1 ?_
  have BA1 : Hid (Below w2.heap.size w2 wa) := BA.out.grown hg1 BA.out.size (fun k hk => ownBlock_ge own0 hk)
  try dsimp only
  refine hKK.out _ _ ?_ (fun hH2 => ?_)
  · exact FrS.of_below BA1.out
  clear hKK KK
  have hO := hH
  clear hH
  have hH := hH2
  clear hH2
  try simp only [Act.put, List.setIfInBounds_toArray, List.set_cons_zero, List.set_cons_succ]
  have O2 : Hid (OwnC w2.heap.size wa v1 xs) := OwnC.of_row (by rw [HX.out, ← Nat.zero_add n]; exact ho1)
  have O3 := O2.out
  rcases O3 with ⟨h, -⟩ | ⟨g, qc2, rfl, gB, gI⟩
  · exact absurd (nn1.mp h).1 (by simp)
  rw [HX.out] at O2 ⊢
  have GB := Lib.hid gB
  have GI := Lib.hid gI
  clear gB gI nn1
  refine wpAnyH_take (i := 8) (v := ?_) (by simp only [List.getElem?_toArray, List.getElem?_cons_succ, List.getElem?_cons_zero]; rfl) (by kernel_rfl) (by kernel_rfl) (by kernel_rfl) (by exact fun _ _ _ h => h) (Or.inl ⟨by rfl, ?_⟩) hH ?_
  rotate_left
  · (intro wS hS; clear hS; go_simp; try rfl)
  try simp only [Act.put, List.setIfInBounds_toArray, List.set_cons_zero, List.set_cons_succ]
  have K2 := Lib.hid (K2.out.step BA1.out)
  obtain ⟨s0, s1, s2, f0, f1, f2⟩ := K2.out.all
  have gs : ∀ x y z, FrS (fun k => k = w.heap.size + 1) w2 (((wa.setCell ⟨w.heap.size + 1, 0, none⟩ x).setCell ⟨w.heap.size + 1, 1, none⟩ y).setCell ⟨w.heap.size + 1, 2, none⟩ z) := fun x y z => (FrS.of_below (p := fun k => k = w.heap.size + 1) BA1.out).set3 (b := w.heap.size + 1) (.inl rfl) x y z
  have GS := Lib.hid gs
  clear gs
  refine wpAnyH_ready (rs := [9]) (by kernel_rfl) (by simp) ?_
  refine AllReadyH.cons (by simp only [List.getElem?_toArray, List.getElem?_cons_succ, List.getElem?_cons_zero]; rfl) (fun KK hKK => ?_) AllReadyH.nil
  go_simp
  try dsimp only
  refine hKK.out _ _ ?_ (fun hH2 => ?_)
  · exact GS.out _ _ _
  clear hKK KK
  have hO := hH
  clear hH
  have hH := hH2
  clear hH2
  try simp only [Act.put, List.setIfInBounds_toArray, List.set_cons_zero, List.set_cons_succ]
  refine wpAnyH_done (by kernel_rfl) ?_ _
  go_wp2_with fail
  obtain ⟨E0, E1, E2, -, -, -⟩ := (K2.out.set3 (.int .i64 r) (.int .i64 c) (.slice (some ⟨g, 0, none⟩) n qc2)).all
  have B2 := BH.out.trans (BA1.out.mono BH.out.size)
  refine bodyPost_ret (v := .agg #[.int .i64 r, .int .i64 c, .slice (some ⟨g, 0, none⟩) n qc2]) (by simp [results, Tryz.results80, go_sem, E0, E1, E2]) rfl ⟨g, qc2, rfl, Nat.le_trans BH.out.size GB.out, ((GI.out.far (GI.out.ints.ne_blk K2.out) _).far (GI.out.ints.ne_blk K2.out) _).far (GI.out.ints.ne_blk K2.out) _, ?_⟩
  exact (((B2.setCell (by show w.heap.size ≤ w.heap.size + 1; omega) _).setCell (by show w.heap.size ≤ w.heap.size + 1; omega) _).setCell (by show w.heap.size ≤ w.heap.size + 1; omega) _)
end Go.Proofs.YtcapddcmnjeloaaGreatDoor
end

section
/-
  Chapter 5, in the model: an operation on rows, in place.
-/
namespace Go.Proofs.YtcapddcmnjeloaaGreatDoor
set_option maxRecDepth 100000
open Go.RowKit
def Void (e : Ending) : Prop := e = .returned (.tuple #[])
theorem tenF {W w' : World} {b b' : Nat} {t t' : TypeId} {p q r x y z u : Value} {pr : Nat → Prop} (h0 : Blk3 W b t p q r) (h1 : Blk4 W b' t' x y z u) (hg : FrS pr W w') (hb : ¬ pr b) (hb' : ¬ pr b') :
    w'.cell? ⟨b, 0, none⟩ = some p ∧ w'.cell? ⟨b, 1, none⟩ = some q ∧ w'.cell? ⟨b, 2, none⟩ = some r ∧ w'.cell? ⟨b', 0, none⟩ = some x ∧ w'.cell? ⟨b', 1, none⟩ = some y ∧ w'.cell? ⟨b', 2, none⟩ = some z ∧ w'.cell? ⟨b', 3, none⟩ = some u := by
  have k1 : Blk4 w' b' t' x y z u := (hg.block b' h1.lt hb').trans h1
  exact ⟨(h0.frs hg hb).cell0, (h0.frs hg hb).cell1, (h0.frs hg hb).cell2, k1.cell0, k1.cell1, k1.cell2, k1.cell3⟩
def IntsZ (S : Nat) (w : World) (g : Nat) (zs : List Int) : Prop := Ints w g zs ∧ ∃ (cur : Array Value) (t : TypeId) (f : Nat × Nat), w.heap[g]? = some (.cells cur t f) ∧ cur.size = S
theorem IntsZ.of {w : World} {g : Nat} {zs : List Int} (h : Ints w g zs) : ∃ S, IntsZ S w g zs := by
  obtain ⟨rest, e⟩ := id h
  exact ⟨_, h, _, _, _, e, rfl⟩
theorem IntsZ.move {S : Nat} {w w' : World} {g : Nat} {zs : List Int} (h : IntsZ S w g zs) (e : w'.heap[g]? = w.heap[g]?) : IntsZ S w' g zs := by
  obtain ⟨h1, cur, t, f, h2, h3⟩ := h
  exact ⟨h1.move e, cur, t, f, e.trans h2, h3⟩
theorem IntsZ.lt {S : Nat} {w : World} {g : Nat} {zs : List Int} (h : IntsZ S w g zs) : g < w.heap.size := h.1.lt
theorem IntsZ.cell {S : Nat} {w : World} {g : Nat} {zs : List Int} (h : IntsZ S w g zs) {i : Nat} (hi : i < zs.length) : w.cell? ⟨g, i, none⟩ = some (.int .i64 (zs.getD i 0)) := h.1.cell hi
theorem IntsZ.free {S : Nat} {w : World} {g : Nat} {zs : List Int} (h : IntsZ S w g zs) (i : Nat) : w.frozen? ⟨g, i, none⟩ = false := h.1.free i
theorem IntsZ.drew {S : Nat} {w : World} {g : Nat} {zs : List Int} (h : IntsZ S w g zs) : IntsZ S w.drew g zs := h
theorem IntsZ.old {S : Nat} {w : World} {g : Nat} {zs : List Int} (h : IntsZ S w g zs) (o : Obj) : IntsZ S (w.alloc o) g zs := h.move (Below.heap_alloc w o g h.lt)
theorem IntsZ.set {S : Nat} {w : World} {g : Nat} {zs : List Int} (h : IntsZ S w g zs) (i : Nat) (z : Int) : IntsZ S (w.setCell ⟨g, i, none⟩ (.int .i64 z)) g (zs.set i z) := by
  obtain ⟨h1, cur, t, f, h2, h3⟩ := h
  refine ⟨h1.set i z, cur.setIfInBounds i (.int .i64 z), t, f, ?_, by simp [h3]⟩
  obtain ⟨hlt, hget⟩ := Array.getElem?_eq_some_iff.mp h2
  simp [World.setCell, hlt, Array.getElem_modify, hget]
set_option maxRecDepth 100000 in
set_option maxHeartbeats 4000000 in
theorem sDoZ (S R C Iq J g n cap : Nat) (k t : Int) (xs : List Int) (w : World) (hi : IntsZ S w g xs) (hx : xs.length = n) (hn : n = R * C) (hR : R ≤ 24) (hC : C ≤ 24) (hI : Iq < R) (hJ : J < R) (hk : k = 0 ∨ k = 1 ∨ k = 2) (hIJ : k = 0 → Iq ≠ J) :
    Calls Tryz.prog 156 #[.agg #[.int .i64 R, .int .i64 C, .slice (some ⟨g, 0, none⟩) n cap], .agg #[.int .i64 k, .int .i64 Iq, .int .i64 J, .int .i64 t]] w (fun e w' => Void e ∧ IntsZ S w' g (opL k Iq J t C xs) ∧ w.grownBy w' (some g)) := by
  have hle : R * C ≤ 24 * 24 := Nat.mul_le_mul hR hC
  have I0 := Lib.hid hi
  have HX := Lib.hid hx
  have HN := Lib.hid hn
  have HIJ := Lib.hid hIJ
  have gl := hi.lt
  rw [← hn] at hle
  have K0 : Hid (Blk3 ((w.alloc (.cells #[.int .i64 R, .int .i64 C, .slice (some ⟨g, 0, none⟩) n cap] 26)).alloc (.cells #[.int .i64 k, .int .i64 Iq, .int .i64 J, .int .i64 t] 175)) w.heap.size 26 (.int .i64 R) (.int .i64 C) (.slice (some ⟨g, 0, none⟩) n cap)) := (Blk3.at_ _ _ _ _ rfl).old _
  have K1 : Hid (Blk4 ((w.alloc (.cells #[.int .i64 R, .int .i64 C, .slice (some ⟨g, 0, none⟩) n cap] 26)).alloc (.cells #[.int .i64 k, .int .i64 Iq, .int .i64 J, .int .i64 t] 175)) (w.heap.size + 1) 175 (.int .i64 k) (.int .i64 Iq) (.int .i64 J) (.int .i64 t)) := Blk4.at_ _ _ _ _ _ (by simp)
  have I1 : Hid (IntsZ S ((w.alloc (.cells #[.int .i64 R, .int .i64 C, .slice (some ⟨g, 0, none⟩) n cap] 26)).alloc (.cells #[.int .i64 k, .int .i64 Iq, .int .i64 J, .int .i64 t] 175)) g xs) := (hi.old _).old _
  have G0 : Hid (w.grownBy ((w.alloc (.cells #[.int .i64 R, .int .i64 C, .slice (some ⟨g, 0, none⟩) n cap] 26)).alloc (.cells #[.int .i64 k, .int .i64 Iq, .int .i64 J, .int .i64 t] 175)) (some g)) := (World.grownBy_alloc w _ _).trans (World.grownBy_alloc _ _ _)
  clear hi hx hn hIJ
  go_enter Tryz.func156, Tryz.ntmps156
  go_wp2_with fail
  go_loopw [4, 5, 6] (fun i _ _ wr => ∃ q : Nat, i = .int .i64 q ∧ q ≤ C ∧ IntsZ S wr g (opTo k Iq J t C xs q) ∧ ((w.alloc (.cells #[.int .i64 R, .int .i64 C, .slice (some ⟨g, 0, none⟩) n cap] 26)).alloc (.cells #[.int .i64 k, .int .i64 Iq, .int .i64 J, .int .i64 t] 175)).grownBy wr (some g)) (fun i _ _ _ => C - (intOf i).toNat)
  case atStart => exact ⟨0, rfl, by omega, by rw [opTo_zero]; exact I1.out, World.grownBy.refl _ _⟩
  case round =>
    obtain ⟨q, rfl, hq, hi, hgr⟩ := hrel
    have I := Lib.hid hi
    have G := Lib.hid hgr
    have GW := Lib.hid (G0.out.trans hgr)
    clear hi hgr
    have R0 := Lib.hid (K0.out.keepOne G.out (by omega))
    have R1 := Lib.hid (K1.out.keepOne G.out (by omega))
    obtain ⟨r0, r1, r2, -, -, -⟩ := R0.out.all
    obtain ⟨o0, o1, o2, o3⟩ := R1.out.all
    by_cases hlt : q < C
    · have a1 : Iq * C + q < n := by rw [HN.out]; exact idx_lt hI hlt
      have a2 : J * C + q < n := by rw [HN.out]; exact idx_lt hJ hlt
      have c1 : (Iq : Int) * (C : Int) = ((Iq * C : Nat) : Int) := (Int.natCast_mul _ _).symm
      have c2 : (J : Int) * (C : Int) = ((J * C : Nat) : Int) := (Int.natCast_mul _ _).symm
      have d1 : 0 ≤ (Iq : Int) * (C : Int) ∧ (Iq : Int) * (C : Int) ≤ 600 := by rw [c1]; omega
      have d2 : 0 ≤ (J : Int) * (C : Int) ∧ (J : Int) * (C : Int) ≤ 600 := by rw [c2]; omega
      have e1 : 0 ≤ (Iq : Int) * (C : Int) + (q : Int) := by omega
      have e2 : (Iq : Int) * (C : Int) + (q : Int) < (n : Int) := by rw [c1]; omega
      have e3 : ((Iq : Int) * (C : Int) + (q : Int)).toNat = Iq * C + q := by rw [c1]; omega
      have f1 : 0 ≤ (J : Int) * (C : Int) + (q : Int) := by omega
      have f2 : (J : Int) * (C : Int) + (q : Int) < (n : Int) := by rw [c2]; omega
      have f3 : ((J : Int) * (C : Int) + (q : Int)).toNat = J * C + q := by rw [c2]; omega
      obtain ⟨d11, d12⟩ := d1
      obtain ⟨d21, d22⟩ := d2
      have v1 : IntKind.i64.wrap ((Iq : Int) * (C : Int)) = (Iq : Int) * (C : Int) := IntWalk.i64_in _ (by omega)
      have v2 : IntKind.i64.wrap ((Iq : Int) * (C : Int) + (q : Int)) = (Iq : Int) * (C : Int) + (q : Int) := IntWalk.i64_in _ (by omega)
      have v3 : IntKind.i64.wrap ((J : Int) * (C : Int)) = (J : Int) * (C : Int) := IntWalk.i64_in _ (by omega)
      have v4 : IntKind.i64.wrap ((J : Int) * (C : Int) + (q : Int)) = (J : Int) * (C : Int) + (q : Int) := IntWalk.i64_in _ (by omega)
      have h1 := I.out.cell (i := Iq * C + q) (by rw [opTo_length, HX.out]; exact a1)
      have h2 := I.out.cell (i := J * C + q) (by rw [opTo_length, HX.out]; exact a2)
      rw [opTo_at _ _ _ _ _ _ _ _ hlt (by rw [HX.out]; exact a1)] at h1
      rw [opTo_at _ _ _ _ _ _ _ _ hlt (by rw [HX.out]; exact a2)] at h2
      have fr1 := I.out.free (Iq * C + q)
      have fr2 := I.out.free (J * C + q)
      have hlen : xs.length = R * C := by rw [HX.out, HN.out]
      obtain ⟨x, hxx⟩ : ∃ x, xs.getD (Iq * C + q) 0 = x := ⟨_, rfl⟩
      obtain ⟨y, hyy⟩ : ∃ y, xs.getD (J * C + q) 0 = y := ⟨_, rfl⟩
      have s0 := op_swap Iq J t C R xs q hlen hI hJ hlt
      have s1 := op_one 1 Iq J t C R xs q (mulB x (-1)) hlen hI hlt (.inl rfl) (by rw [opAt_one _ _ _ _ _ hlt, hxx])
      have s2 := op_one 2 Iq J t C R xs q (addB x (mulB y t)) hlen hI hlt (.inr rfl) (by rw [opAt_two _ _ _ _ _ hlt, hxx, hyy])
      rw [hxx, hyy] at s0
      rw [hxx] at h1
      rw [hyy] at h2
      have S0 := Lib.hid s0
      have S1 := Lib.hid s1
      have S2 := Lib.hid s2
      have A1 := Lib.hid a1
      have A2 := Lib.hid a2
      clear c1 c2 hxx hyy s0 s1 s2 hlen a1 a2
      rcases hk with e0 | e0 | e0
      · have n0 : (k == 0) = true := by simpa using e0
        have n1 : (k == 1) = false := by rw [e0]; rfl
        have KE := Lib.hid e0
        clear e0
        have IS := I.out.set (Iq * C + q) y
        have fr2 := IS.free (J * C + q)
        have hold := IS.cell (i := J * C + q) (by rw [List.length_set, opTo_length, HX.out]; exact A2.out)
        have rr0 : Blk3 (wr.setCell ⟨g, Iq * C + q, none⟩ (.int .i64 y)) w.heap.size 26 (.int .i64 R) (.int .i64 C) (.slice (some ⟨g, 0, none⟩) n cap) := R0.out.far (by simp; omega) _
        have rr1 : Blk4 (wr.setCell ⟨g, Iq * C + q, none⟩ (.int .i64 y)) (w.heap.size + 1) 175 (.int .i64 k) (.int .i64 Iq) (.int .i64 J) (.int .i64 t) := (Below.heap_setCell wr ⟨g, Iq * C + q, none⟩ (.int .i64 y) (w.heap.size + 1) (by simp; omega)).trans R1.out
        obtain ⟨z0, z1, z2, -, -, -⟩ := rr0.all
        obtain ⟨y0, y1, y2, y3⟩ := rr1.all
        have IS2 := Lib.hid (IS.set (J * C + q) x)
        clear IS rr0 rr1
        go_wp2_with fail
        go_roundw
        case rel =>
          refine ⟨q + 1, by go_num, by omega, ?_, ?_⟩
          · have := S0.out
            rcases this with h | h
            · have z := IS2.out; rw [KE.out] at z ⊢; rw [← h]; exact z
            · exact absurd h (HIJ.out KE.out)
          · exact grown_set_one (a := ⟨g, J * C + q, none⟩) (grown_set_one (a := ⟨g, Iq * C + q, none⟩) G.out rfl _) rfl _
        case measure => simp [intOf]; omega
      · have n0 : (k == 0) = false := by rw [e0]; rfl
        have n1 : (k == 1) = true := by simpa using e0
        have KE := Lib.hid e0
        clear e0
        go_upto_region 12 with fail
        refine wp_region_held_drew (S := fun w' => FrS (fun k => k = g) wr w') (by kernel_rfl) (FrS.refl _ _).drew (fun hH => ?_)
        refine wpAnyH_take (i := 0) (v := ?_) (by simp only [List.getElem?_toArray, List.getElem?_cons_zero]; rfl) (by kernel_rfl) (by kernel_rfl) (by kernel_rfl) (by exact fun _ _ _ h => h) (Or.inl ⟨by rfl, ?_⟩) hH ?_
        rotate_left
        · (intro wS hS; clear hS; go_simp; try rfl)
        try simp only [Act.put, List.setIfInBounds_toArray, List.set_cons_zero, List.set_cons_succ]
        refine wpAnyH_take (i := 1) (v := ?_) (by simp only [List.getElem?_toArray, List.getElem?_cons_succ, List.getElem?_cons_zero]; rfl) (by kernel_rfl) (by kernel_rfl) (by kernel_rfl) (by exact fun _ _ _ h => h) (Or.inl ⟨by rfl, ?_⟩) hH ?_
        rotate_left
        · (intro wS hS; (try dsimp only at hS); obtain ⟨k1, k2, k3, k4, k5, k6, k7⟩ := tenF R0.out R1.out hS (by omega) (by omega); go_simp; try rfl)
        try simp only [Act.put, List.setIfInBounds_toArray, List.set_cons_zero, List.set_cons_succ]
        refine wpAnyH_take (i := 2) (v := ?_) (by simp only [List.getElem?_toArray, List.getElem?_cons_succ, List.getElem?_cons_zero]; rfl) (by kernel_rfl) (by kernel_rfl) (by kernel_rfl) (by exact fun _ _ _ h => h) (Or.inl ⟨by rfl, ?_⟩) hH ?_
        rotate_left
        · (intro wS hS; clear hS; go_simp; try rfl)
        try simp only [Act.put, List.setIfInBounds_toArray, List.set_cons_zero, List.set_cons_succ]
        refine wpAnyH_take (i := 3) (v := ?_) (by simp only [List.getElem?_toArray, List.getElem?_cons_succ, List.getElem?_cons_zero]; rfl) (by kernel_rfl) (by kernel_rfl) (by kernel_rfl) (by exact fun _ _ _ h => h) (Or.inl ⟨by rfl, ?_⟩) hH ?_
        rotate_left
        · (intro wS hS; (try dsimp only at hS); obtain ⟨k1, k2, k3, k4, k5, k6, k7⟩ := tenF R0.out R1.out hS (by omega) (by omega); go_simp; try rfl)
        try simp only [Act.put, List.setIfInBounds_toArray, List.set_cons_zero, List.set_cons_succ]
        refine wpAnyH_take (i := 4) (v := ?_) (by simp only [List.getElem?_toArray, List.getElem?_cons_succ, List.getElem?_cons_zero]; rfl) (by kernel_rfl) (by kernel_rfl) (by kernel_rfl) (by exact fun _ _ _ h => h) (Or.inl ⟨by rfl, ?_⟩) hH ?_
        rotate_left
        · (intro wS hS; clear hS; go_simp; try rfl)
        try simp only [Act.put, List.setIfInBounds_toArray, List.set_cons_zero, List.set_cons_succ]
        refine wpAnyH_take (i := 5) (v := ?_) (by simp only [List.getElem?_toArray, List.getElem?_cons_succ, List.getElem?_cons_zero]; rfl) (by kernel_rfl) (by kernel_rfl) (by kernel_rfl) (by exact fun _ _ _ h => h) (Or.inl ⟨by rfl, ?_⟩) hH ?_
        rotate_left
        · (intro wS hS; (try dsimp only at hS); obtain ⟨k1, k2, k3, k4, k5, k6, k7⟩ := tenF R0.out R1.out hS (by omega) (by omega); go_simp; try rfl)
        try simp only [Act.put, List.setIfInBounds_toArray, List.set_cons_zero, List.set_cons_succ]
        refine wpAnyH_take (i := 6) (v := ?_) (by simp only [List.getElem?_toArray, List.getElem?_cons_succ, List.getElem?_cons_zero]; rfl) (by kernel_rfl) (by kernel_rfl) (by kernel_rfl) (by exact fun _ _ _ h => h) (Or.inl ⟨by rfl, ?_⟩) hH ?_
        rotate_left
        · (intro wS hS; clear hS; go_simp; try rfl)
        try simp only [Act.put, List.setIfInBounds_toArray, List.set_cons_zero, List.set_cons_succ]
        refine wpAnyH_take (i := 7) (v := ?_) (by simp only [List.getElem?_toArray, List.getElem?_cons_succ, List.getElem?_cons_zero]; rfl) (by kernel_rfl) (by kernel_rfl) (by kernel_rfl) (by exact fun _ _ _ h => h) (Or.inl ⟨by rfl, ?_⟩) hH ?_
        rotate_left
        · (intro wS hS; clear hS; go_simp; try rfl)
        try simp only [Act.put, List.setIfInBounds_toArray, List.set_cons_zero, List.set_cons_succ]
        refine wpAnyH_take (i := 8) (v := ?_) (by simp only [List.getElem?_toArray, List.getElem?_cons_succ, List.getElem?_cons_zero]; rfl) (by kernel_rfl) (by kernel_rfl) (by kernel_rfl) (by exact fun _ _ _ h => h) (Or.inl ⟨by rfl, ?_⟩) hH ?_
        rotate_left
        · (intro wS hS; clear hS; go_simp; try rfl)
        try simp only [Act.put, List.setIfInBounds_toArray, List.set_cons_zero, List.set_cons_succ]
        refine wpAnyH_take (i := 9) (v := ?_) (by simp only [List.getElem?_toArray, List.getElem?_cons_succ, List.getElem?_cons_zero]; rfl) (by kernel_rfl) (by kernel_rfl) (by kernel_rfl) (by exact fun _ _ _ h => h) (Or.inl ⟨by rfl, ?_⟩) hH ?_
        rotate_left
        · (intro wS hS; clear hS; go_simp; try rfl)
        try simp only [Act.put, List.setIfInBounds_toArray, List.set_cons_zero, List.set_cons_succ]
        refine wpAnyH_ready (rs := [10]) (by kernel_rfl) (by simp) ?_
        refine AllReadyH.cons (by simp only [List.getElem?_toArray, List.getElem?_cons_succ, List.getElem?_cons_zero]; rfl) (fun KK hKK => ?_) AllReadyH.nil
        go_simp
        refine (sMulB x (-1) _).mono ?_
        rintro e w' ⟨rfl, rfl⟩
        try dsimp only
        refine hKK.out _ _ ?_ (fun hH2 => ?_)
        · exact (FrS.refl _ wr).drew
        clear hKK KK
        have hO := hH
        clear hH
        have hH := hH2
        clear hH2
        try simp only [Act.put, List.setIfInBounds_toArray, List.set_cons_zero, List.set_cons_succ]
        refine wpAnyH_take (i := 11) (v := ?_) (by simp only [List.getElem?_toArray, List.getElem?_cons_succ, List.getElem?_cons_zero]; rfl) (by kernel_rfl) (by kernel_rfl) (by kernel_rfl) (by exact fun _ _ _ h => h) (Or.inl ⟨by rfl, ?_⟩) hH ?_
        rotate_left
        · (intro wS hS; clear hS; go_simp; try rfl)
        try simp only [Act.put, List.setIfInBounds_toArray, List.set_cons_zero, List.set_cons_succ]
        have IX := Lib.hid (I.out.set (Iq * C + q) (mulB x (-1))).drew
        refine wpAnyH_ready (rs := [12]) (by kernel_rfl) (by simp) ?_
        refine AllReadyH.cons (by simp only [List.getElem?_toArray, List.getElem?_cons_succ, List.getElem?_cons_zero]; rfl) (fun KK hKK => ?_) AllReadyH.nil
        go_simp
        try dsimp only
        refine hKK.out _ _ ?_ (fun hH2 => ?_)
        · exact ((FrS.refl (fun k => k = g) wr).set (a := ⟨g, Iq * C + q, none⟩) (.inl rfl) _).drew
        clear hKK KK
        have hO := hH
        clear hH
        have hH := hH2
        clear hH2
        try simp only [Act.put, List.setIfInBounds_toArray, List.set_cons_zero, List.set_cons_succ]
        refine wpAnyH_done (by kernel_rfl) ?_ _
        go_wp2_with fail
        go_roundw
        case rel => exact ⟨q + 1, by go_num, by omega, by have z := IX.out; rw [KE.out] at z ⊢; rw [← S1.out]; exact z, grown_drew_one (grown_set_one (a := ⟨g, Iq * C + q, none⟩) G.out rfl _)⟩
        case measure => simp [intOf]; omega
      · have n0 : (k == 0) = false := by rw [e0]; rfl
        have n1 : (k == 1) = false := by rw [e0]; rfl
        have KE := Lib.hid e0
        clear e0
        go_upto_region 7 with fail
        refine wp_region_held_drew (S := fun w' => FrS (fun k => k = g) wr w') (by kernel_rfl) (FrS.refl _ _).drew (fun hH => ?_)
        refine wpAnyH_take (i := 0) (v := ?_) (by simp only [List.getElem?_toArray, List.getElem?_cons_zero]; rfl) (by kernel_rfl) (by kernel_rfl) (by kernel_rfl) (by exact fun _ _ _ h => h) (Or.inl ⟨by rfl, ?_⟩) hH ?_
        rotate_left
        · (intro wS hS; clear hS; go_simp; try rfl)
        try simp only [Act.put, List.setIfInBounds_toArray, List.set_cons_zero, List.set_cons_succ]
        refine wpAnyH_take (i := 1) (v := ?_) (by simp only [List.getElem?_toArray, List.getElem?_cons_succ, List.getElem?_cons_zero]; rfl) (by kernel_rfl) (by kernel_rfl) (by kernel_rfl) (by exact fun _ _ _ h => h) (Or.inl ⟨by rfl, ?_⟩) hH ?_
        rotate_left
        · (intro wS hS; (try dsimp only at hS); obtain ⟨k1, k2, k3, k4, k5, k6, k7⟩ := tenF R0.out R1.out hS (by omega) (by omega); go_simp; try rfl)
        try simp only [Act.put, List.setIfInBounds_toArray, List.set_cons_zero, List.set_cons_succ]
        refine wpAnyH_take (i := 2) (v := ?_) (by simp only [List.getElem?_toArray, List.getElem?_cons_succ, List.getElem?_cons_zero]; rfl) (by kernel_rfl) (by kernel_rfl) (by kernel_rfl) (by exact fun _ _ _ h => h) (Or.inl ⟨by rfl, ?_⟩) hH ?_
        rotate_left
        · (intro wS hS; clear hS; go_simp; try rfl)
        try simp only [Act.put, List.setIfInBounds_toArray, List.set_cons_zero, List.set_cons_succ]
        refine wpAnyH_take (i := 3) (v := ?_) (by simp only [List.getElem?_toArray, List.getElem?_cons_succ, List.getElem?_cons_zero]; rfl) (by kernel_rfl) (by kernel_rfl) (by kernel_rfl) (by exact fun _ _ _ h => h) (Or.inl ⟨by rfl, ?_⟩) hH ?_
        rotate_left
        · (intro wS hS; (try dsimp only at hS); obtain ⟨k1, k2, k3, k4, k5, k6, k7⟩ := tenF R0.out R1.out hS (by omega) (by omega); go_simp; try rfl)
        try simp only [Act.put, List.setIfInBounds_toArray, List.set_cons_zero, List.set_cons_succ]
        refine wpAnyH_take (i := 4) (v := ?_) (by simp only [List.getElem?_toArray, List.getElem?_cons_succ, List.getElem?_cons_zero]; rfl) (by kernel_rfl) (by kernel_rfl) (by kernel_rfl) (by exact fun _ _ _ h => h) (Or.inl ⟨by rfl, ?_⟩) hH ?_
        rotate_left
        · (intro wS hS; clear hS; go_simp; try rfl)
        try simp only [Act.put, List.setIfInBounds_toArray, List.set_cons_zero, List.set_cons_succ]
        refine wpAnyH_take (i := 5) (v := ?_) (by simp only [List.getElem?_toArray, List.getElem?_cons_succ, List.getElem?_cons_zero]; rfl) (by kernel_rfl) (by kernel_rfl) (by kernel_rfl) (by exact fun _ _ _ h => h) (Or.inl ⟨by rfl, ?_⟩) hH ?_
        rotate_left
        · (intro wS hS; (try dsimp only at hS); obtain ⟨k1, k2, k3, k4, k5, k6, k7⟩ := tenF R0.out R1.out hS (by omega) (by omega); go_simp; try rfl)
        try simp only [Act.put, List.setIfInBounds_toArray, List.set_cons_zero, List.set_cons_succ]
        refine wpAnyH_take (i := 6) (v := ?_) (by simp only [List.getElem?_toArray, List.getElem?_cons_succ, List.getElem?_cons_zero]; rfl) (by kernel_rfl) (by kernel_rfl) (by kernel_rfl) (by exact fun _ _ _ h => h) (Or.inl ⟨by rfl, ?_⟩) hH ?_
        rotate_left
        · (intro wS hS; clear hS; go_simp; try rfl)
        try simp only [Act.put, List.setIfInBounds_toArray, List.set_cons_zero, List.set_cons_succ]
        refine wpAnyH_take (i := 7) (v := ?_) (by simp only [List.getElem?_toArray, List.getElem?_cons_succ, List.getElem?_cons_zero]; rfl) (by kernel_rfl) (by kernel_rfl) (by kernel_rfl) (by exact fun _ _ _ h => h) (Or.inl ⟨by rfl, ?_⟩) hH ?_
        rotate_left
        · (intro wS hS; clear hS; go_simp; try rfl)
        try simp only [Act.put, List.setIfInBounds_toArray, List.set_cons_zero, List.set_cons_succ]
        refine wpAnyH_take (i := 8) (v := ?_) (by simp only [List.getElem?_toArray, List.getElem?_cons_succ, List.getElem?_cons_zero]; rfl) (by kernel_rfl) (by kernel_rfl) (by kernel_rfl) (by exact fun _ _ _ h => h) (Or.inl ⟨by rfl, ?_⟩) hH ?_
        rotate_left
        · (intro wS hS; clear hS; go_simp; try rfl)
        try simp only [Act.put, List.setIfInBounds_toArray, List.set_cons_zero, List.set_cons_succ]
        refine wpAnyH_take (i := 9) (v := ?_) (by simp only [List.getElem?_toArray, List.getElem?_cons_succ, List.getElem?_cons_zero]; rfl) (by kernel_rfl) (by kernel_rfl) (by kernel_rfl) (by exact fun _ _ _ h => h) (Or.inl ⟨by rfl, ?_⟩) hH ?_
        rotate_left
        · (intro wS hS; clear hS; go_simp; try rfl)
        try simp only [Act.put, List.setIfInBounds_toArray, List.set_cons_zero, List.set_cons_succ]
        refine wpAnyH_take (i := 10) (v := ?_) (by simp only [List.getElem?_toArray, List.getElem?_cons_succ, List.getElem?_cons_zero]; rfl) (by kernel_rfl) (by kernel_rfl) (by kernel_rfl) (by exact fun _ _ _ h => h) (Or.inl ⟨by rfl, ?_⟩) hH ?_
        rotate_left
        · (intro wS hS; clear hS; go_simp; try rfl)
        try simp only [Act.put, List.setIfInBounds_toArray, List.set_cons_zero, List.set_cons_succ]
        refine wpAnyH_take (i := 11) (v := ?_) (by simp only [List.getElem?_toArray, List.getElem?_cons_succ, List.getElem?_cons_zero]; rfl) (by kernel_rfl) (by kernel_rfl) (by kernel_rfl) (by exact fun _ _ _ h => h) (Or.inl ⟨by rfl, ?_⟩) hH ?_
        rotate_left
        · (intro wS hS; clear hS; go_simp; try rfl)
        try simp only [Act.put, List.setIfInBounds_toArray, List.set_cons_zero, List.set_cons_succ]
        refine wpAnyH_take (i := 12) (v := ?_) (by simp only [List.getElem?_toArray, List.getElem?_cons_succ, List.getElem?_cons_zero]; rfl) (by kernel_rfl) (by kernel_rfl) (by kernel_rfl) (by exact fun _ _ _ h => h) (Or.inl ⟨by rfl, ?_⟩) hH ?_
        rotate_left
        · (intro wS hS; (try dsimp only at hS); obtain ⟨k1, k2, k3, k4, k5, k6, k7⟩ := tenF R0.out R1.out hS (by omega) (by omega); go_simp; try rfl)
        try simp only [Act.put, List.setIfInBounds_toArray, List.set_cons_zero, List.set_cons_succ]
        refine wpAnyH_ready (rs := [13]) (by kernel_rfl) (by simp) ?_
        refine AllReadyH.cons (by simp only [List.getElem?_toArray, List.getElem?_cons_succ, List.getElem?_cons_zero]; rfl) (fun KK hKK => ?_) AllReadyH.nil
        go_simp
        refine (sMulB y t _).mono ?_
        rintro e w' ⟨rfl, rfl⟩
        try dsimp only
        refine hKK.out _ _ ?_ (fun hH2 => ?_)
        · exact (FrS.refl _ wr).drew
        clear hKK KK
        have hO := hH
        clear hH
        have hH := hH2
        clear hH2
        try simp only [Act.put, List.setIfInBounds_toArray, List.set_cons_zero, List.set_cons_succ]
        refine wpAnyH_ready (rs := [14]) (by kernel_rfl) (by simp) ?_
        refine AllReadyH.cons (by simp only [List.getElem?_toArray, List.getElem?_cons_succ, List.getElem?_cons_zero]; rfl) (fun KK hKK => ?_) AllReadyH.nil
        go_simp
        refine (sAddB x _ _).mono ?_
        rintro e w' ⟨rfl, rfl⟩
        try dsimp only
        refine hKK.out _ _ ?_ (fun hH2 => ?_)
        · exact (FrS.refl _ wr).drew
        clear hKK KK
        have hO := hH
        clear hH
        have hH := hH2
        clear hH2
        try simp only [Act.put, List.setIfInBounds_toArray, List.set_cons_zero, List.set_cons_succ]
        refine wpAnyH_take (i := 15) (v := ?_) (by simp only [List.getElem?_toArray, List.getElem?_cons_succ, List.getElem?_cons_zero]; rfl) (by kernel_rfl) (by kernel_rfl) (by kernel_rfl) (by exact fun _ _ _ h => h) (Or.inl ⟨by rfl, ?_⟩) hH ?_
        rotate_left
        · (intro wS hS; clear hS; go_simp; try rfl)
        try simp only [Act.put, List.setIfInBounds_toArray, List.set_cons_zero, List.set_cons_succ]
        have IX := Lib.hid (I.out.set (Iq * C + q) (addB x (mulB y t))).drew
        refine wpAnyH_ready (rs := [16]) (by kernel_rfl) (by simp) ?_
        refine AllReadyH.cons (by simp only [List.getElem?_toArray, List.getElem?_cons_succ, List.getElem?_cons_zero]; rfl) (fun KK hKK => ?_) AllReadyH.nil
        go_simp
        try dsimp only
        refine hKK.out _ _ ?_ (fun hH2 => ?_)
        · exact ((FrS.refl (fun k => k = g) wr).set (a := ⟨g, Iq * C + q, none⟩) (.inl rfl) _).drew
        clear hKK KK
        have hO := hH
        clear hH
        have hH := hH2
        clear hH2
        try simp only [Act.put, List.setIfInBounds_toArray, List.set_cons_zero, List.set_cons_succ]
        refine wpAnyH_done (by kernel_rfl) ?_ _
        go_wp2_with fail
        go_roundw
        case rel => exact ⟨q + 1, by go_num, by omega, by have z := IX.out; rw [KE.out] at z ⊢; rw [← S2.out]; exact z, grown_drew_one (grown_set_one (a := ⟨g, Iq * C + q, none⟩) G.out rfl _)⟩
        case measure => simp [intOf]; omega
    · have hq2 : decide (q < C) = false := by simpa using hlt
      have hqC : q = C := by omega
      have EQ : Hid (opTo k Iq J t C xs q = opL k Iq J t C xs) := by
        show opTo k Iq J t C xs q = opL k Iq J t C xs
        rw [hqC]
        refine opTo_all _ _ _ _ _ _ ?_
        rcases Nat.eq_zero_or_pos C with e | e
        · left; rw [HX.out, HN.out, e, Nat.mul_zero]
        · exact .inr e
      clear hqC
      go_wp2_with fail
      have II : IntsZ S wr g (opL k Iq J t C xs) := by rw [← EQ.out]; exact I.out
      go_end0
      exact ⟨rfl, II, GW.out⟩
theorem sDo (R C Iq J g n cap : Nat) (k t : Int) (xs : List Int) (w : World) (hi : Ints w g xs) (hx : xs.length = n) (hn : n = R * C) (hR : R ≤ 24) (hC : C ≤ 24) (hI : Iq < R) (hJ : J < R) (hk : k = 0 ∨ k = 1 ∨ k = 2) (hIJ : k = 0 → Iq ≠ J) :
    Calls Tryz.prog 156 #[.agg #[.int .i64 R, .int .i64 C, .slice (some ⟨g, 0, none⟩) n cap], .agg #[.int .i64 k, .int .i64 Iq, .int .i64 J, .int .i64 t]] w (fun e w' => Void e ∧ Ints w' g (opL k Iq J t C xs) ∧ w.grownBy w' (some g)) := by
  obtain ⟨S, h⟩ := IntsZ.of hi
  exact (sDoZ S R C Iq J g n cap k t xs w h hx hn hR hC hI hJ hk hIJ).mono fun _ _ ⟨h1, h2, h3⟩ => ⟨h1, h2.1, h3⟩
end Go.Proofs.YtcapddcmnjeloaaGreatDoor
end

section
/-
  Chapter 5, in the model: a copy of a matrix without cells.
-/
namespace Go.Proofs.YtcapddcmnjeloaaGreatDoor
set_option maxRecDepth 100000
open Go.RowKit
theorem appendNil (w : World) (g c : Nat) : (Builtin.append_ #[24, 24] 24 #[.slice (some ⟨g, 0, none⟩) 0 0, .slice none 0 c]).run Tryz.prog w = .ok (.slice (some ⟨g, 0, none⟩) 0 0) w := by
  obtain ⟨fi, hfi, hz0, hz1, hz2⟩ := facts_int
  simp [Builtin.append_, go_sem, Builtin.lenOf, Builtin.firstCells, storeCells]
set_option maxHeartbeats 1000000 in
theorem sCopyN (r c : Int) (m : Nat) (w : World) :
    Calls Tryz.prog 80 #[.agg #[.int .i64 r, .int .i64 c, .slice none 0 m]] w (fun e w' => ∃ g cap : Nat, e = .returned (.agg #[.int .i64 r, .int .i64 c, .slice (some ⟨g, 0, none⟩) 0 cap]) ∧ w.heap.size ≤ g ∧ IntsC w' g cap [] ∧ Below w.heap.size w w') := by
  have BH : Hid (Below w.heap.size w ((w.alloc (.cells #[.int .i64 r, .int .i64 c, .slice none 0 m] 26)).alloc (.cells #[.int .i64 0, .int .i64 0, .slice none 0 0] 26))) := ((Below.refl _ _).alloc (Nat.le_refl _) _).alloc (by simp) _
  have K0 : Hid (Blk3 ((w.alloc (.cells #[.int .i64 r, .int .i64 c, .slice none 0 m] 26)).alloc (.cells #[.int .i64 0, .int .i64 0, .slice none 0 0] 26)) w.heap.size 26 (.int .i64 r) (.int .i64 c) (.slice none 0 m)) := (Blk3.at_ _ _ _ _ rfl).old _
  have K2 : Hid (Blk3 ((w.alloc (.cells #[.int .i64 r, .int .i64 c, .slice none 0 m] 26)).alloc (.cells #[.int .i64 0, .int .i64 0, .slice none 0 0] 26)) (w.heap.size + 1) 26 (.int .i64 0) (.int .i64 0) (.slice none 0 0)) := Blk3.at_ _ _ _ _ (by simp)
  obtain ⟨w2, hw2⟩ : ∃ w2, (w.alloc (.cells #[.int .i64 r, .int .i64 c, .slice none 0 m] 26)).alloc (.cells #[.int .i64 0, .int .i64 0, .slice none 0 0] 26) = w2 := ⟨_, rfl⟩
  rw [hw2] at BH K0 K2
  go_enter Tryz.func80, Tryz.ntmps80
  go_wp2_with fail
  clear hw2
  refine wp_region_held_drew (S := fun w' => FrS (fun k => k = w.heap.size + 1) w2 w') (by kernel_rfl) (FrS.refl _ _).drew (fun hH => ?_)
  refine wpAnyH_take (i := 0) (v := ?_) (by simp only [List.getElem?_toArray, List.getElem?_cons_zero]; rfl) (by kernel_rfl) (by kernel_rfl) (by kernel_rfl) (by exact fun _ _ _ h => h) (Or.inl ⟨by rfl, ?_⟩) hH ?_
  rotate_left
  · (intro wS hS; clear hS; go_simp; try rfl)
  try simp only [Act.put, List.setIfInBounds_toArray, List.set_cons_zero, List.set_cons_succ]
  refine wpAnyH_take (i := 1) (v := ?_) (by simp only [List.getElem?_toArray, List.getElem?_cons_succ, List.getElem?_cons_zero]; rfl) (by kernel_rfl) (by kernel_rfl) (by kernel_rfl) (by exact fun _ _ _ h => h) (Or.inl ⟨by rfl, ?_⟩) hH ?_
  rotate_left
  · (intro wS hS; (try dsimp only at hS); obtain ⟨k1, k2, k3⟩ := sevenF K0.out hS (by omega); go_simp; try rfl)
  try simp only [Act.put, List.setIfInBounds_toArray, List.set_cons_zero, List.set_cons_succ]
  refine wpAnyH_take (i := 2) (v := ?_) (by simp only [List.getElem?_toArray, List.getElem?_cons_succ, List.getElem?_cons_zero]; rfl) (by kernel_rfl) (by kernel_rfl) (by kernel_rfl) (by exact fun _ _ _ h => h) (Or.inl ⟨by rfl, ?_⟩) hH ?_
  rotate_left
  · (intro wS hS; clear hS; go_simp; try rfl)
  try simp only [Act.put, List.setIfInBounds_toArray, List.set_cons_zero, List.set_cons_succ]
  refine wpAnyH_take (i := 3) (v := ?_) (by simp only [List.getElem?_toArray, List.getElem?_cons_succ, List.getElem?_cons_zero]; rfl) (by kernel_rfl) (by kernel_rfl) (by kernel_rfl) (by exact fun _ _ _ h => h) (Or.inl ⟨by rfl, ?_⟩) hH ?_
  rotate_left
  · (intro wS hS; (try dsimp only at hS); obtain ⟨k1, k2, k3⟩ := sevenF K0.out hS (by omega); go_simp; try rfl)
  try simp only [Act.put, List.setIfInBounds_toArray, List.set_cons_zero, List.set_cons_succ]
  refine wpAnyH_take (i := 5) (v := ?_) (by simp only [List.getElem?_toArray, List.getElem?_cons_succ, List.getElem?_cons_zero]; rfl) (by kernel_rfl) (by kernel_rfl) (by kernel_rfl) (by exact fun _ _ _ h => h) (Or.inl ⟨by rfl, ?_⟩) hH ?_
  rotate_left
  · (intro wS hS; clear hS; go_simp; try rfl)
  try simp only [Act.put, List.setIfInBounds_toArray, List.set_cons_zero, List.set_cons_succ]
  refine wpAnyH_take (i := 6) (v := ?_) (by simp only [List.getElem?_toArray, List.getElem?_cons_succ, List.getElem?_cons_zero]; rfl) (by kernel_rfl) (by kernel_rfl) (by kernel_rfl) (by exact fun _ _ _ h => h) (Or.inl ⟨by rfl, ?_⟩) hH ?_
  rotate_left
  · (intro wS hS; (try dsimp only at hS); obtain ⟨k1, k2, k3⟩ := sevenF K0.out hS (by omega); go_simp; try rfl)
  try simp only [Act.put, List.setIfInBounds_toArray, List.set_cons_zero, List.set_cons_succ]
  refine wpAnyH_ready (rs := [4]) (by kernel_rfl) (by simp) ?_
  refine AllReadyH.cons (by simp only [List.getElem?_toArray, List.getElem?_cons_succ, List.getElem?_cons_zero]; rfl) (fun KK hKK => ?_) AllReadyH.nil
  go_simp
  try dsimp only
  refine hKK.out _ _ ?_ (fun hH2 => ?_)
  · exact (((FrS.refl _ w2).alloc _).drew)
  clear hKK KK
  have hO := hH
  clear hH
  have hH := hH2
  clear hH2
  try simp only [Act.put, List.setIfInBounds_toArray, List.set_cons_zero, List.set_cons_succ]
  have own0 : ((w2.alloc (.cells #[] 3)).drew).ownsRow w2.heap.size 3 1 (.slice (some ⟨w2.heap.size, 0, none⟩) 0 0) 0 (([] : List Int).map (Value.int .i64)) := ⟨rfl, .inr ⟨w2.heap.size, 0, #[], rfl, Nat.le_refl _, heap_alloc_new w2 _, Nat.le_refl _, by decide, rfl, rfl⟩⟩
  have BA : Hid (Below w2.heap.size w2 ((w2.alloc (.cells #[] 3)).drew)) := ((Below.refl _ _).alloc (Nat.le_refl _) _).drew
  have hr1 := appendNil ((w2.alloc (.cells #[] 3)).drew) w2.heap.size m
  refine wpAnyH_ready (rs := [7]) (by kernel_rfl) (by simp) ?_
  refine AllReadyH.cons (by simp only [List.getElem?_toArray, List.getElem?_cons_succ, List.getElem?_cons_zero]; rfl) (fun KK hKK => ?_) AllReadyH.nil
  refine step_append rfl _ _ 24 rfl _ _ rfl rfl _ _ hr1 ?_
  have BA1 := BA
  try dsimp only
  refine hKK.out _ _ ?_ (fun hH2 => ?_)
  · exact FrS.of_below BA1.out
  clear hKK KK
  have hO := hH
  clear hH
  have hH := hH2
  clear hH2
  try simp only [Act.put, List.setIfInBounds_toArray, List.set_cons_zero, List.set_cons_succ]
  have O2 : Hid (OwnC w2.heap.size ((w2.alloc (.cells #[] 3)).drew) (.slice (some ⟨w2.heap.size, 0, none⟩) 0 0) []) := OwnC.of_row own0
  have O3 := O2.out
  rcases O3 with ⟨h, -⟩ | ⟨g, qc2, hv, gB, gI⟩
  · exact absurd h (by simp)
  have GB := Lib.hid gB
  have GI := Lib.hid gI
  simp only [Value.slice.injEq, Option.some.injEq, Addr.mk.injEq] at hv
  obtain ⟨⟨rfl, -, -⟩, -, rfl⟩ := hv
  clear gB gI
  obtain ⟨wa, hwa⟩ : ∃ wa, (w2.alloc (.cells #[] 3)).drew = wa := ⟨_, rfl⟩
  rw [hwa] at GI O2 BA1 own0 hr1 hH ⊢
  refine wpAnyH_take (i := 8) (v := ?_) (by simp only [List.getElem?_toArray, List.getElem?_cons_succ, List.getElem?_cons_zero]; rfl) (by kernel_rfl) (by kernel_rfl) (by kernel_rfl) (by exact fun _ _ _ h => h) (Or.inl ⟨by rfl, ?_⟩) hH ?_
  rotate_left
  · (intro wS hS; clear hS; go_simp; try rfl)
  try simp only [Act.put, List.setIfInBounds_toArray, List.set_cons_zero, List.set_cons_succ]
  have K2 := Lib.hid (K2.out.step BA1.out)
  obtain ⟨s0, s1, s2, f0, f1, f2⟩ := K2.out.all
  have gs : ∀ x y z, FrS (fun k => k = w.heap.size + 1) w2 (((wa.setCell ⟨w.heap.size + 1, 0, none⟩ x).setCell ⟨w.heap.size + 1, 1, none⟩ y).setCell ⟨w.heap.size + 1, 2, none⟩ z) := fun x y z => (FrS.of_below (p := fun k => k = w.heap.size + 1) BA1.out).set3 (b := w.heap.size + 1) (.inl rfl) x y z
  have GS := Lib.hid gs
  clear gs
  refine wpAnyH_ready (rs := [9]) (by kernel_rfl) (by simp) ?_
  refine AllReadyH.cons (by simp only [List.getElem?_toArray, List.getElem?_cons_succ, List.getElem?_cons_zero]; rfl) (fun KK hKK => ?_) AllReadyH.nil
  go_simp
  try dsimp only
  refine hKK.out _ _ ?_ (fun hH2 => ?_)
  · exact GS.out _ _ _
  clear hKK KK
  have hO := hH
  clear hH
  have hH := hH2
  clear hH2
  try simp only [Act.put, List.setIfInBounds_toArray, List.set_cons_zero, List.set_cons_succ]
  refine wpAnyH_done (by kernel_rfl) ?_ _
  go_wp2_with fail
  obtain ⟨E0, E1, E2, -, -, -⟩ := (K2.out.set3 (.int .i64 r) (.int .i64 c) (.slice (some ⟨w2.heap.size, 0, none⟩) 0 0)).all
  have B2 := BH.out.trans (BA1.out.mono BH.out.size)
  refine bodyPost_ret (v := .agg #[.int .i64 r, .int .i64 c, .slice (some ⟨w2.heap.size, 0, none⟩) 0 0]) (by simp [results, Tryz.results80, go_sem, E0, E1, E2]) rfl ⟨w2.heap.size, 0, rfl, Nat.le_trans BH.out.size GB.out, ((GI.out.far (GI.out.ints.ne_blk K2.out) _).far (GI.out.ints.ne_blk K2.out) _).far (GI.out.ints.ne_blk K2.out) _, ?_⟩
  exact (((B2.setCell (by show w.heap.size ≤ w.heap.size + 1; omega) _).setCell (by show w.heap.size ≤ w.heap.size + 1; omega) _).setCell (by show w.heap.size ≤ w.heap.size + 1; omega) _)
def Spot (a : Option Addr) : Prop := a = none ∨ ∃ g o : Nat, a = some ⟨g, o, none⟩
theorem Spot.of (g o : Nat) : Spot (some ⟨g, o, none⟩) := .inr ⟨g, o, rfl⟩
theorem sCopyA (r c : Int) (a : Option Addr) (m n : Nat) (xs : List Int) (w : World) (h : Rd w a xs) (ha : Spot a) (hx : xs.length = n) (hn : n ≤ 1048576) :
    Calls Tryz.prog 80 #[.agg #[.int .i64 r, .int .i64 c, .slice a n m]] w (fun e w' => ∃ g cap : Nat, e = .returned (.agg #[.int .i64 r, .int .i64 c, .slice (some ⟨g, 0, none⟩) n cap]) ∧ w.heap.size ≤ g ∧ IntsC w' g cap xs ∧ Below w.heap.size w w') := by
  rcases ha with rfl | ⟨g, o, rfl⟩
  · have e : xs = [] := by
      cases xs with
      | nil => rfl
      | cons x xs => obtain ⟨b, o, h1, -⟩ := h 0 (by simp); exact absurd h1 (by simp)
    subst e
    subst hx
    exact sCopyN r c m w
  · exact sCopy r c g o m n xs w h hx hn
end Go.Proofs.YtcapddcmnjeloaaGreatDoor
end

section
/-
  Chapter 3, in the model: a matrix that is done.
-/
namespace Go.Proofs.YtcapddcmnjeloaaGreatDoor
open Go.RowKit
end Go.Proofs.YtcapddcmnjeloaaGreatDoor
end

section
/-
  Chapter 5, in the model: DoRowOp.
-/
namespace Go.Proofs.YtcapddcmnjeloaaGreatDoor
set_option maxRecDepth 100000
open Go.RowKit
end Go.Proofs.YtcapddcmnjeloaaGreatDoor
end

section
/-
  Plain mathematics of chapter 5: an operation on rows without marks. Nothing of a program is used.
-/
namespace Go.Proofs.YtcapddcmnjeloaaGreatDoor
open Go.RowKit
end Go.Proofs.YtcapddcmnjeloaaGreatDoor
end

section
/-
  Chapter 3, in the model: a matrix of zeros.
-/
namespace Go.Proofs.YtcapddcmnjeloaaGreatDoor
open Go.RowKit
theorem sNew (R C : Nat) (w : World) (hR : R ≤ 4096) (hC : C ≤ 4096) :
    Calls Tryz.prog 112 #[.int .i64 R, .int .i64 C] w (NewMat R C (List.replicate (R * C) 0) w) := by
  have hm : R * C ≤ 4096 * 4096 := Nat.mul_le_mul hR hC
  have hmk := makeProd R C (by omega)
  have hp1 : (0 : Int) ≤ (R : Int) * (C : Int) := by rw [← Int.natCast_mul]; omega
  have hp2 : (R : Int) * (C : Int) ≤ 16777216 := by rw [← Int.natCast_mul]; omega
  go_enter Tryz.func112, Tryz.ntmps112
  go_wp2_with fail
  refine bodyPost_ret (v := .agg #[.int .i64 R, .int .i64 C, .slice (some ⟨w.heap.size + 1, 0, none⟩) (R * C) (R * C)]) (by simp [results, Tryz.results112, go_sem]) rfl ⟨w.heap.size + 1, by simp, by omega, ?_, ?_⟩
  · exact Ints.made _ (by simp)
  · exact ((Below.refl _ _).alloc (Nat.le_refl _) _).alloc (by simp) _
end Go.Proofs.YtcapddcmnjeloaaGreatDoor
end

section
/-
  Chapter 3, in the model: IdentityMatrix.
-/
namespace Go.Proofs.YtcapddcmnjeloaaGreatDoor
open Go.RowKit
end Go.Proofs.YtcapddcmnjeloaaGreatDoor
end

section
/-
  Plain mathematics of chapters 5 and 6: what operations on rows do to the determinant. Nothing of a program is used.
-/
namespace Go.Proofs.YtcapddcmnjeloaaGreatDoor
end Go.Proofs.YtcapddcmnjeloaaGreatDoor
end

section
/-
  Plain mathematics of chapter 6: what the laws say. Nothing of a program is used.
-/
namespace Go.Proofs.YtcapddcmnjeloaaGreatDoor
end Go.Proofs.YtcapddcmnjeloaaGreatDoor
end

section
/-
  Plain mathematics of chapter 7: what rows span over the rational numbers; echelon forms are unique. Nothing of a program is used.
-/
namespace Go.Proofs.YtcapddcmnjeloaaGreatDoor
section
variable {r c t : Nat} {A : Mx} {p : Nat → Nat} {v : Nat → Int}
end
end Go.Proofs.YtcapddcmnjeloaaGreatDoor
end

section
/-
  Plain mathematics of chapter 8: spans over residues; reduced forms. Nothing of a program is used.
-/
namespace Go.Proofs.YtcapddcmnjeloaaGreatDoor
def InP (p : Int) (r c : Nat) (A : Mx) (v : Nat → Int) : Prop := ∃ k : Nat → Int, ∀ j, j < c → Cg p (v j) (sumN r fun i => k i * A i j)
def SubP (p : Int) (r s c : Nat) (A B : Mx) : Prop := ∀ i, i < r → InP p s c B (A i)
section
variable {p : Int} {r s t c : Nat} {A B C : Mx} {u v : Nat → Int}
theorem InP.congr (h : InP p r c A v) (e : ∀ j, j < c → Cg p (u j) (v j)) : InP p r c A u := by
  obtain ⟨k, hk⟩ := h
  exact ⟨k, fun j hj => (e j hj).trans (hk j hj)⟩
theorem sumN_unit {n a : Nat} (ha : a < n) (f : Nat → Int) : (sumN n fun i => (if i = a then 1 else 0) * f i) = f a := by
  rw [sumN_one (a := a) ha (fun i hi hne => by rw [if_neg hne, Int.zero_mul]), if_pos rfl, Int.one_mul]
theorem InP.row {i : Nat} (hi : i < r) : InP p r c A (A i) := ⟨fun k => if k = i then 1 else 0, fun j _ => Cg.of_eq (sumN_unit hi fun k => A k j).symm⟩
theorem InP.zero : InP p r c A fun _ => 0 := ⟨fun _ => 0, fun j _ => Cg.of_eq (by rw [sumN_all_zero fun k _ => Int.zero_mul _])⟩
theorem InP.add (h : InP p r c A u) (h' : InP p r c A v) (x y : Int) : InP p r c A fun j => x * u j + y * v j := by
  obtain ⟨k, hk⟩ := h
  obtain ⟨l, hl⟩ := h'
  refine ⟨fun i => x * k i + y * l i, fun j hj => (((hk j hj).mul_left x).add ((hl j hj).mul_left y)).trans (Cg.of_eq ?_)⟩
  rw [sumN_mul_left, sumN_mul_left, ← sumN_add]
  exact sumN_congr fun i _ => by grind
theorem InP.comb {V : Mx} {k : Nat → Int} : ∀ {m : Nat}, (∀ i, i < m → InP p r c A (V i)) → InP p r c A fun j => sumN m fun i => k i * V i j := by
  intro m
  induction m with
  | zero => intro _; exact InP.zero
  | succ m ih => intro h; exact ((ih fun i hi => h i (by omega)).add (h m (by omega)) 1 (k m)).congr fun j _ => Cg.of_eq (by show (sumN m fun i => k i * V i j) + k m * V m j = _; rw [Int.one_mul])
theorem SubP.mem (h : SubP p r s c A B) (hv : InP p r c A v) : InP p s c B v := by
  obtain ⟨k, hk⟩ := hv
  exact (InP.comb (k := k) h).congr hk
theorem SubP.trans (h : SubP p r s c A B) (h' : SubP p s t c B C) : SubP p r t c A C := fun i hi => h'.mem (h i hi)
theorem SubP.of_cg (h : ∀ i j, i < r → j < c → Cg p (A i j) (B i j)) : SubP p r r c A B := fun i hi => (InP.row hi).congr fun j hj => h i j hi hj
end
structure RefP (r n : Nat) (A : Mx) (q : Nat → Nat) (t : Nat) : Prop where
  le : t ≤ r
  col : ∀ k, k < t → q k < n
  inc : ∀ k l, k < l → l < t → q k < q l
  one : ∀ k, k < t → A k (q k) = 1
  only : ∀ k i, k < t → i < r → i ≠ k → A i (q k) = 0
  left : ∀ k j, k < t → j < q k → A k j = 0
  rest : ∀ i j, t ≤ i → i < r → j < n → A i j = 0
section
variable {p : Int} {r n t : Nat} {A : Mx} {q : Nat → Nat} {v : Nat → Int}
end
end Go.Proofs.YtcapddcmnjeloaaGreatDoor
end

section
/-
  Plain mathematics of chapter 7: primitive rows. Nothing of a program is used.
-/
namespace Go.Proofs.YtcapddcmnjeloaaGreatDoor
end Go.Proofs.YtcapddcmnjeloaaGreatDoor
end

section
/-
  Plain mathematics of chapter 7: elimination over lists of cells with primitive rows ends in the echelon form. Nothing of a program is used.
-/
namespace Go.Proofs.YtcapddcmnjeloaaGreatDoor
def mxC (c : Nat) (xs : List Int) : Mx := fun i j => xs.getD (i * c + j) 0
theorem mxC_tab {r c : Nat} {f : Nat → Nat → Int} {i j : Nat} (hi : i < r) (hj : j < c) : mxC c (tab r c f) i j = f i j := tab_at r c f hi hj
def fstR (c j : Nat) (xs : List Int) : Nat → Nat → Nat
  | 0, p => p
  | k + 1, p => if mxC c xs p j = 0 then fstR c j xs k (p + 1) else p
def swC (p t c : Nat) (xs : List Int) : List Int := if p = t then xs else opL 0 p t 0 c xs
theorem fstR_says {c j : Nat} {xs : List Int} : ∀ {k p : Nat}, p ≤ fstR c j xs k p ∧ fstR c j xs k p ≤ p + k ∧ (∀ q, p ≤ q → q < fstR c j xs k p → mxC c xs q j = 0) ∧ (fstR c j xs k p < p + k → mxC c xs (fstR c j xs k p) j ≠ 0) := by
  intro k
  induction k with
  | zero => intro p; exact ⟨Nat.le_refl _, Nat.le_refl _, fun q h1 h2 => absurd h2 (by show ¬ q < p; omega), fun h => absurd h (by show ¬ p < p + 0; omega)⟩
  | succ k ih =>
    intro p
    by_cases h : mxC c xs p j = 0
    · have e : fstR c j xs (k + 1) p = fstR c j xs k (p + 1) := if_pos h
      rw [e]
      obtain ⟨h1, h2, h3, h4⟩ := ih (p := p + 1)
      refine ⟨by omega, by omega, fun q h5 h6 => ?_, fun h5 => h4 (by omega)⟩
      rcases Nat.lt_or_ge p q with h7 | h7
      · exact h3 q h7 h6
      · obtain rfl : q = p := by omega
        exact h
    · have e : fstR c j xs (k + 1) p = p := if_neg h
      rw [e]
      exact ⟨Nat.le_refl _, by omega, fun q h1 h2 => by omega, fun _ => h⟩
theorem fstR_eq {c j : Nat} {xs : List Int} : ∀ {k p q : Nat}, p ≤ q → q ≤ p + k → (∀ i, p ≤ i → i < q → mxC c xs i j = 0) → (q < p + k → mxC c xs q j ≠ 0) → fstR c j xs k p = q := by
  intro k
  induction k with
  | zero => intro p q h1 h2 _ _; show p = q; omega
  | succ k ih =>
    intro p q h1 h2 hz hn
    show (if mxC c xs p j = 0 then fstR c j xs k (p + 1) else p) = q
    rcases Nat.lt_or_ge p q with h | h
    · rw [if_pos (hz p (Nat.le_refl _) h)]
      exact ih (by omega) (by omega) (fun i h3 h4 => hz i (by omega) h4) (fun h3 => hn (by omega))
    · obtain rfl : p = q := by omega
      rw [if_neg (hn (by omega))]
theorem opL_swapC {r c p t i j : Nat} {xs : List Int} (hx : xs.length = r * c) (hi : i < r) (hj : j < c) : mxC c (opL 0 p t 0 c xs) i j = mxC c xs (if i = p then t else if i = t then p else i) j := by
  have hp : i * c + j < xs.length := by rw [hx]; exact idx_lt hi hj
  unfold mxC opL
  simp only [List.getD, List.getElem?_map, List.getElem?_range hp, Option.map_some, Option.getD_some]
  unfold opAt
  rw [if_pos rfl, idx_div hj, idx_mod hj]
  by_cases h1 : i = p
  · rw [if_pos h1, if_pos h1]; rfl
  · rw [if_neg h1, if_neg h1]
    by_cases h2 : i = t
    · rw [if_pos h2, if_pos h2]; rfl
    · rw [if_neg h2, if_neg h2]; rfl
theorem swC_at {r c p t i j : Nat} {xs : List Int} (hx : xs.length = r * c) (hi : i < r) (hj : j < c) : mxC c (swC p t c xs) i j = mxC c xs (if i = p then t else if i = t then p else i) j := by
  unfold swC
  by_cases h : p = t
  · rw [if_pos h, h]
    by_cases h1 : i = t
    · rw [if_pos h1, h1]
    · rw [if_neg h1, if_neg h1]
  · rw [if_neg h, opL_swapC hx hi hj]
theorem swC_length (p t c : Nat) (xs : List Int) : (swC p t c xs).length = xs.length := by unfold swC; split; rfl; exact opL_length _ _ _ _ _ _
theorem mx_nums {r c : Nat} {xs : List Int} (hx : xs.length = r * c) (h : nums xs = true) {i j : Nat} (hi : i < r) (hj : j < c) : NumP (mxC c xs i j) := nums_at h (by rw [hx]; exact idx_lt hi hj)
end Go.Proofs.YtcapddcmnjeloaaGreatDoor
end

section
/-
  Plain mathematics of chapter 7: a row that is written cell by cell. Nothing of a program is used.
-/
namespace Go.Proofs.YtcapddcmnjeloaaGreatDoor
def rowTo (r c i : Nat) (v : Nat → Int) (xs : List Int) (k : Nat) : List Int := tab r c fun p q => if p = i ∧ q < k then v q else mxC c xs p q
def rowL (r c i : Nat) (v : Nat → Int) (xs : List Int) : List Int := tab r c fun p q => if p = i then v q else mxC c xs p q
theorem rowTo_length (r c i : Nat) (v : Nat → Int) (xs : List Int) (k : Nat) : (rowTo r c i v xs k).length = r * c := tab_length _ _ _
theorem rowTo_at {r c i : Nat} {v : Nat → Int} {xs : List Int} {k p q : Nat} (hp : p < r) (hq : q < c) : (rowTo r c i v xs k).getD (p * c + q) 0 = if p = i ∧ q < k then v q else mxC c xs p q := tab_at r c _ hp hq
theorem rowTo_old {r c i : Nat} {v : Nat → Int} {xs : List Int} {k p q : Nat} (hp : p < r) (hq : q < c) (h : p ≠ i ∨ k ≤ q) : (rowTo r c i v xs k).getD (p * c + q) 0 = xs.getD (p * c + q) 0 := by
  rw [rowTo_at hp hq, if_neg (by omega)]; rfl
theorem rowTo_zero {r c i : Nat} {v : Nat → Int} {xs : List Int} (hx : xs.length = r * c) : rowTo r c i v xs 0 = xs := by
  refine (tab_ext hx fun p q _ _ => ?_).symm
  rw [if_neg (by omega)]; rfl
theorem rowTo_step {r c i : Nat} {v : Nat → Int} {xs : List Int} {k : Nat} (hi : i < r) (hk : k < c) : (rowTo r c i v xs k).set (i * c + k) (v k) = rowTo r c i v xs (k + 1) := by
  refine tab_ext (by rw [List.length_set, rowTo_length]) fun p q hp hq => ?_
  rw [getD_set _ _ _ _ (by rw [rowTo_length]; exact idx_lt hi hk), rowTo_at hp hq]
  by_cases e : p * c + q = i * c + k
  · obtain ⟨rfl, rfl⟩ := idx_inj hq hk e
    rw [if_pos (by omega), if_pos (by omega)]
  · have ne : ¬ (p = i ∧ q = k) := by rintro ⟨rfl, rfl⟩; exact e rfl
    rw [if_neg (by omega)]
    by_cases h : p = i ∧ q < k
    · rw [if_pos h, if_pos (by omega)]
    · rw [if_neg h, if_neg (by omega)]
theorem rowTo_all {r c i : Nat} {v : Nat → Int} {xs : List Int} : rowTo r c i v xs c = rowL r c i v xs := by
  refine tab_ext (rowTo_length _ _ _ _ _ _) fun p q hp hq => ?_
  rw [rowTo_at hp hq]
  by_cases h : p = i
  · rw [if_pos ⟨h, hq⟩, if_pos h]
  · rw [if_neg (fun h1 => h h1.1), if_neg h]
theorem rowL_length (r c i : Nat) (v : Nat → Int) (xs : List Int) : (rowL r c i v xs).length = r * c := tab_length _ _ _
theorem rowL_own {r c i q : Nat} {v : Nat → Int} {xs : List Int} (hi : i < r) (hq : q < c) : mxC c (rowL r c i v xs) i q = v q := by unfold rowL; rw [mxC_tab hi hq, if_pos rfl]
theorem rowL_oth {r c i p q : Nat} {v : Nat → Int} {xs : List Int} (hp : p < r) (hq : q < c) (h : p ≠ i) : mxC c (rowL r c i v xs) p q = mxC c xs p q := by unfold rowL; rw [mxC_tab hp hq, if_neg h]
theorem rowL_self {r c i : Nat} {v : Nat → Int} {xs : List Int} (hx : xs.length = r * c) (h : i < r → ∀ q, q < c → v q = mxC c xs i q) : rowL r c i v xs = xs := by
  refine (tab_ext hx fun p q hp hq => ?_).symm
  by_cases e : p = i
  · subst e; rw [if_pos rfl, h hp q hq]; rfl
  · rw [if_neg e]; rfl
end Go.Proofs.YtcapddcmnjeloaaGreatDoor
end

section
/-
  Plain mathematics of chapter 8: elimination over residues, over lists of cells. Nothing of a program is used.
-/
namespace Go.Proofs.YtcapddcmnjeloaaGreatDoor
structure PInv (p : Int) (r c n : Nat) (M : Mx) (xs : List Int) (pv : List Nat) (j : Nat) : Prop where
  len : xs.length = r * c
  can : ∀ i q, i < r → q < c → 0 ≤ mxC c xs i q ∧ mxC c xs i q < p
  le : pv.length ≤ r
  jn : j ≤ n
  nc : n ≤ c
  toM : SubP p r r c (mxC c xs) M
  ofM : SubP p r r c M (mxC c xs)
  col : ∀ k, k < pv.length → pv.getD k 0 < j
  inc : ∀ k l, k < l → l < pv.length → pv.getD k 0 < pv.getD l 0
  one : ∀ k, k < pv.length → mxC c xs k (pv.getD k 0) = 1
  only : ∀ k i, k < pv.length → i < r → i ≠ k → mxC c xs i (pv.getD k 0) = 0
  left : ∀ k q, k < pv.length → q < pv.getD k 0 → mxC c xs k q = 0
  rest : ∀ i q, pv.length ≤ i → i < r → q < j → mxC c xs i q = 0
theorem PInv.start {p : Int} {r c n : Nat} {M : Mx} {xs : List Int} (hx : xs.length = r * c) (hn : n ≤ c) (hc : ∀ i q, i < r → q < c → 0 ≤ mxC c xs i q ∧ mxC c xs i q < p) (hM : ∀ i q, i < r → q < c → Cg p (mxC c xs i q) (M i q)) : PInv p r c n M xs [] 0 where
  len := hx
  can := hc
  le := Nat.zero_le _
  jn := Nat.zero_le _
  nc := hn
  toM := SubP.of_cg hM
  ofM := SubP.of_cg fun i q hi hq => (hM i q hi hq).symm
  col := fun k hk => absurd hk (Nat.not_lt_zero k)
  inc := fun _ l _ hl => absurd hl (Nat.not_lt_zero l)
  one := fun k hk => absurd hk (Nat.not_lt_zero k)
  only := fun k _ hk => absurd hk (Nat.not_lt_zero k)
  left := fun k _ hk => absurd hk (Nat.not_lt_zero k)
  rest := fun _ q _ _ hq => absurd hq (Nat.not_lt_zero q)
section
variable {p : Int} {r c n : Nat} {M : Mx} {xs : List Int} {pv : List Nat} {j : Nat}
theorem PInv.skip (h : PInv p r c n M xs pv j) (hj : j < n) (hz : ∀ i, pv.length ≤ i → i < r → mxC c xs i j = 0) : PInv p r c n M xs pv (j + 1) :=
  { h with
    jn := hj
    col := fun k hk => by have := h.col k hk; omega
    rest := fun i q hi hir hq => by
      rcases Nat.lt_or_ge q j with h1 | h1
      · exact h.rest i q hi hir h1
      · obtain rfl : q = j := by omega
        exact hz i hi hir }
theorem PInv.swap (h : PInv p r c n M xs pv j) {s : Nat} (hs : pv.length ≤ s) (hsr : s < r) : PInv p r c n M (swC s pv.length c xs) pv j := by
  have hjn := h.jn
  have hnc := h.nc
  have at_ : ∀ i q, i < r → q < c → mxC c (swC s pv.length c xs) i q = mxC c xs (if i = s then pv.length else if i = pv.length then s else i) q := fun i q hi hq => swC_at h.len hi hq
  have low : ∀ i q, i < pv.length → q < c → mxC c (swC s pv.length c xs) i q = mxC c xs i q := fun i q hi hq => by rw [at_ i q (by omega) hq, if_neg (by omega), if_neg (by omega)]
  have big : ∀ i, pv.length ≤ i → i < r → pv.length ≤ (if i = s then pv.length else if i = pv.length then s else i) ∧ (if i = s then pv.length else if i = pv.length then s else i) < r := fun i h1 h2 => by
    split
    · omega
    · split <;> omega
  have any : ∀ i, i < r → (if i = s then pv.length else if i = pv.length then s else i) < r := fun i hi => by
    split
    · omega
    · split <;> omega
  refine ⟨by rw [swC_length]; exact h.len, ?_, h.le, h.jn, h.nc, ?_, ?_, h.col, h.inc, ?_, ?_, ?_, ?_⟩
  · intro i q hi hq
    rw [at_ i q hi hq]
    exact h.can _ q (any i hi) hq
  · intro i hi
    exact (h.toM _ (any i hi)).congr fun q hq => Cg.of_eq (at_ i q hi hq)
  · refine h.ofM.trans fun i hi => ?_
    refine (InP.row (A := mxC c (swC s pv.length c xs)) (any i hi)).congr fun q hq => Cg.of_eq ?_
    rw [at_ _ q (any i hi) hq]
    by_cases e1 : i = s
    · rw [if_pos e1]
      by_cases e2 : pv.length = s
      · rw [if_pos e2, e1, e2]
      · rw [if_neg e2, if_pos rfl, e1]
    · rw [if_neg e1]
      by_cases e2 : i = pv.length
      · rw [if_pos e2, if_pos rfl, e2]
      · rw [if_neg e2, if_neg e1, if_neg e2]
  · intro k hk
    have := h.col k hk
    rw [low k _ hk (by omega)]
    exact h.one k hk
  · intro k i hk hi hne
    have h1 := h.col k hk
    rw [at_ i _ hi (by omega)]
    refine h.only k _ hk (any i hi) ?_
    split
    · omega
    · split <;> omega
  · intro k q hk hq
    have h1 := h.col k hk
    rw [low k q hk (by omega)]
    exact h.left k q hk hq
  · intro i q hi hir hq
    rw [at_ i q hir (by omega)]
    exact h.rest _ q (big i hi hir).1 (big i hi hir).2 hq
theorem PInv.put (h : PInv p r c n M xs pv j) {i : Nat} {v : Nat → Int} (hi : i < r) (hcan : ∀ q, q < c → 0 ≤ v q ∧ v q < p) (hin : InP p r c (mxC c xs) v) (hback : InP p r c (mxC c (rowL r c i v xs)) (mxC c xs i)) (hz : ∀ q, q < j → mxC c xs i q = 0 → v q = 0) (h1 : i < pv.length → v (pv.getD i 0) = 1) : PInv p r c n M (rowL r c i v xs) pv j := by
  have hjn := h.jn
  have hnc := h.nc
  have own : ∀ q, q < c → mxC c (rowL r c i v xs) i q = v q := fun q hq => rowL_own hi hq
  have oth : ∀ a q, a < r → q < c → a ≠ i → mxC c (rowL r c i v xs) a q = mxC c xs a q := fun a q ha hq hne => rowL_oth ha hq hne
  refine ⟨rowL_length _ _ _ _ _, ?_, h.le, h.jn, h.nc, ?_, ?_, h.col, h.inc, ?_, ?_, ?_, ?_⟩
  · intro a q ha hq
    by_cases e : a = i
    · rw [e, own q hq]; exact hcan q hq
    · rw [oth a q ha hq e]; exact h.can a q ha hq
  · intro a ha
    by_cases e : a = i
    · rw [e]; exact (h.toM.mem hin).congr fun q hq => Cg.of_eq (own q hq)
    · exact (h.toM a ha).congr fun q hq => Cg.of_eq (oth a q ha hq e)
  · refine h.ofM.trans fun a ha => ?_
    by_cases e : a = i
    · rw [e]; exact hback
    · exact (InP.row (A := mxC c (rowL r c i v xs)) ha).congr fun q hq => Cg.of_eq (oth a q ha hq e).symm
  · intro k hk
    have hc := h.col k hk
    by_cases e : k = i
    · rw [e, own _ (by rw [← e]; omega)]; exact h1 (by omega)
    · rw [oth k _ (by have := h.le; omega) (by omega) e]; exact h.one k hk
  · intro k a hk ha hne
    have hc := h.col k hk
    by_cases e : a = i
    · rw [e, own _ (by omega)]
      exact hz _ hc (by rw [← e]; exact h.only k a hk ha hne)
    · rw [oth a _ ha (by omega) e]; exact h.only k a hk ha hne
  · intro k q hk hq
    have hc := h.col k hk
    by_cases e : k = i
    · rw [e, own _ (by omega)]
      exact hz _ (by omega) (by rw [← e]; exact h.left k q hk hq)
    · rw [oth k _ (by have := h.le; omega) (by omega) e]; exact h.left k q hk hq
  · intro a q ha har hq
    by_cases e : a = i
    · rw [e, own _ (by omega)]
      exact hz _ hq (by rw [← e]; exact h.rest a q ha har hq)
    · rw [oth a _ har (by omega) e]; exact h.rest a q ha har hq
theorem res_can {p : Int} (hp : 0 < p) (z : Int) : 0 ≤ z % p ∧ z % p < p := ⟨Int.emod_nonneg _ (by omega), Int.emod_lt_of_pos _ hp⟩
def scV (p z : Int) (u : Nat → Int) : Nat → Int := fun q => (u q * z) % p
theorem PInv.scale (h : PInv p r c n M xs pv j) (hp : Prm p) (ht : pv.length < r) (hj : j < n) {z : Int} (hz : InvP p (mxC c xs pv.length j) z) :
    PInv p r c n M (rowL r c pv.length (scV p z (mxC c xs pv.length)) xs) pv j ∧ mxC c (rowL r c pv.length (scV p z (mxC c xs pv.length)) xs) pv.length j = 1 := by
  have hp0 : 0 < p := by have := hp.1; omega
  have hnc := h.nc
  have e1 : scV p z (mxC c xs pv.length) j = 1 := by
    show (mxC c xs pv.length j * z) % p = 1
    rw [Cg.emod_eq hp0 hz]
    exact Int.emod_eq_of_lt (by omega) (by have := hp.1; omega)
  refine ⟨h.put ht (fun q _ => res_can hp0 _) ?_ ?_ ?_ (fun hlt => absurd hlt (Nat.lt_irrefl _)), by rw [rowL_own ht (by omega)]; exact e1⟩
  · refine (((InP.row (p := p) (c := c) (A := mxC c xs) ht).add InP.zero z 0)).congr fun q _ => (Cg.emod p _).trans (Cg.of_eq ?_)
    rw [Int.mul_zero, Int.add_zero, Int.mul_comm]
  · refine ((InP.row (p := p) (c := c) (A := mxC c (rowL r c pv.length (scV p z (mxC c xs pv.length)) xs)) ht).add InP.zero (mxC c xs pv.length j) 0).congr fun q hq => ?_
    rw [rowL_own ht hq, Int.mul_zero, Int.add_zero]
    have h1 : Cg p (scV p z (mxC c xs pv.length) q) (mxC c xs pv.length q * z) := Cg.emod p _
    refine (Cg.trans (h1.mul_left _) ?_).symm
    have h2 : Cg p (mxC c xs pv.length j * z * mxC c xs pv.length q) (1 * mxC c xs pv.length q) := Cg.mul hz (Cg.refl _ _)
    rw [Int.one_mul] at h2
    refine Cg.trans (Cg.of_eq ?_) h2
    grind
  · intro q hq h0
    show (mxC c xs pv.length q * z) % p = 0
    rw [h0, Int.zero_mul]
    exact Int.zero_emod p
def lsV (p x : Int) (u v : Nat → Int) : Nat → Int := fun q => (u q - x * v q) % p
theorem PInv.less (h : PInv p r c n M xs pv j) (hp : Prm p) (ht : pv.length < r) (hj : j < n) {i : Nat} (hi : i < r) (hit : i ≠ pv.length) (h1 : mxC c xs pv.length j = 1) :
    PInv p r c n M (rowL r c i (lsV p (mxC c xs i j) (mxC c xs i) (mxC c xs pv.length)) xs) pv j ∧ (∀ a q, a < r → q < c → a ≠ i → mxC c (rowL r c i (lsV p (mxC c xs i j) (mxC c xs i) (mxC c xs pv.length)) xs) a q = mxC c xs a q) ∧ mxC c (rowL r c i (lsV p (mxC c xs i j) (mxC c xs i) (mxC c xs pv.length)) xs) i j = 0 := by
  have hp0 : 0 < p := by have := hp.1; omega
  have hnc := h.nc
  have hjn := h.jn
  have same : ∀ q, q < c → mxC c xs pv.length q = 0 → lsV p (mxC c xs i j) (mxC c xs i) (mxC c xs pv.length) q = mxC c xs i q := fun q hq h0 => by
    show (mxC c xs i q - mxC c xs i j * mxC c xs pv.length q) % p = mxC c xs i q
    rw [h0, Int.mul_zero, Int.sub_zero]
    have := h.can i q hi hq
    exact Int.emod_eq_of_lt this.1 this.2
  refine ⟨h.put hi (fun q _ => res_can hp0 _) ?_ ?_ ?_ ?_, fun a q ha hq hne => rowL_oth ha hq hne, ?_⟩
  · refine ((InP.row (p := p) (c := c) (A := mxC c xs) hi).add (InP.row ht) 1 (-(mxC c xs i j))).congr fun q _ => (Cg.emod p _).trans (Cg.of_eq ?_)
    rw [Int.one_mul, Int.neg_mul]; omega
  · have hR : InP p r c (mxC c (rowL r c i (lsV p (mxC c xs i j) (mxC c xs i) (mxC c xs pv.length)) xs)) (mxC c xs pv.length) := (InP.row (A := mxC c (rowL r c i (lsV p (mxC c xs i j) (mxC c xs i) (mxC c xs pv.length)) xs)) ht).congr fun q hq => Cg.of_eq (rowL_oth ht hq (fun e => hit e.symm)).symm
    refine ((InP.row (p := p) (c := c) (A := mxC c (rowL r c i (lsV p (mxC c xs i j) (mxC c xs i) (mxC c xs pv.length)) xs)) hi).add hR 1 (mxC c xs i j)).congr fun q hq => ?_
    rw [rowL_own hi hq, Int.one_mul]
    have h2 : Cg p (lsV p (mxC c xs i j) (mxC c xs i) (mxC c xs pv.length) q) (mxC c xs i q - mxC c xs i j * mxC c xs pv.length q) := Cg.emod p _
    exact (Cg.trans (h2.add (Cg.refl p _)) (Cg.of_eq (by omega))).symm
  · intro q hq h0
    rw [same q (by omega) (h.rest _ q (Nat.le_refl _) ht hq)]
    exact h0
  · intro hlt
    have hc := h.col i hlt
    rw [same _ (by omega) (h.rest _ _ (Nat.le_refl _) ht hc)]
    exact h.one i hlt
  · rw [rowL_own hi (by omega)]
    show (mxC c xs i j - mxC c xs i j * mxC c xs pv.length j) % p = 0
    rw [h1, Int.mul_one, Int.sub_self]
    exact Int.zero_emod p
theorem PInv.pivot (h : PInv p r c n M xs pv j) (ht : pv.length < r) (hj : j < n) (h1 : mxC c xs pv.length j = 1) (hz : ∀ i, i < r → i ≠ pv.length → mxC c xs i j = 0) : PInv p r c n M xs (pv ++ [j]) (j + 1) := by
  have hl : (pv ++ [j]).length = pv.length + 1 := by simp
  have old : ∀ k, k < pv.length → (pv ++ [j]).getD k 0 = pv.getD k 0 := fun k hk => by rw [List.getD, List.getD, List.getElem?_append_left hk]
  have new : (pv ++ [j]).getD pv.length 0 = j := by simp [List.getD]
  refine ⟨h.len, h.can, by omega, hj, h.nc, h.toM, h.ofM, ?_, ?_, ?_, ?_, ?_, ?_⟩
  · intro k hk
    rcases Nat.lt_or_ge k pv.length with h1 | h1
    · rw [old k h1]; have := h.col k h1; omega
    · obtain rfl : k = pv.length := by omega
      rw [new]; omega
  · intro k l hkl hll
    rcases Nat.lt_or_ge l pv.length with h1 | h1
    · rw [old k (by omega), old l h1]; exact h.inc k l hkl h1
    · obtain rfl : l = pv.length := by omega
      rw [old k hkl, new]; exact h.col k hkl
  · intro k hk
    rcases Nat.lt_or_ge k pv.length with h2 | h2
    · rw [old k h2]; exact h.one k h2
    · obtain rfl : k = pv.length := by omega
      rw [new]; exact h1
  · intro k i hk hi hne
    rcases Nat.lt_or_ge k pv.length with h1 | h1
    · rw [old k h1]; exact h.only k i h1 hi hne
    · obtain rfl : k = pv.length := by omega
      rw [new]; exact hz i hi hne
  · intro k q hk hq
    rcases Nat.lt_or_ge k pv.length with h1 | h1
    · rw [old k h1] at hq; exact h.left k q h1 hq
    · obtain rfl : k = pv.length := by omega
      rw [new] at hq; exact h.rest _ q (Nat.le_refl _) ht hq
  · intro i q hi hir hq
    rcases Nat.lt_or_ge q j with h1 | h1
    · exact h.rest i q (by omega) hir h1
    · obtain rfl : q = j := by omega
      exact hz i hir (by omega)
theorem PInv.ref (h : PInv p r c n M xs pv j) (he : j = n ∨ pv.length = r) : RefP r n (mxC c xs) (fun k => pv.getD k 0) pv.length where
  le := h.le
  col := fun k hk => by have := h.col k hk; have := h.jn; omega
  inc := h.inc
  one := h.one
  only := h.only
  left := h.left
  rest := fun i q hi hir hq => by
    rcases he with e | e
    · exact h.rest i q hi hir (by omega)
    · omega
end
def DInv (p : Int) (n : Nat) (M : Mx) (xs : List Int) (d : Int) : Prop := Cg p (det n M) (d * det n (mxC n xs))
theorem DInv.swap {p : Int} {n s t : Nat} {M : Mx} {xs : List Int} {d : Int} (h : DInv p n M xs d) (hx : xs.length = n * n) (hs : s < n) (ht : t < n) (hne : s ≠ t) : DInv p n M (swC s t n xs) ((-d) % p) := by
  have e : det n (mxC n (swC s t n xs)) = -det n (mxC n xs) := by
    rw [← det_swap (mxC n xs) hs ht hne]
    refine det_congr fun a b ha hb => ?_
    rw [swC_at hx ha hb]
    unfold swR
    by_cases h1 : a = s
    · rw [if_pos h1, if_pos h1]
    · rw [if_neg h1, if_neg h1]
      by_cases h2 : a = t
      · rw [if_pos h2, if_pos h2]
      · rw [if_neg h2, if_neg h2]
  unfold DInv
  rw [e]
  refine h.trans (Cg.symm (((Cg.emod p (-d)).mul (Cg.refl p _)).trans (Cg.of_eq ?_)))
  rw [Int.neg_mul_neg]
theorem DInv.scale {p : Int} {n t : Nat} {M : Mx} {xs : List Int} {d a z : Int} (h : DInv p n M xs d) (ht : t < n) (hz : InvP p a z) : DInv p n M (rowL n n t (scV p z (mxC n xs t)) xs) ((d * a) % p) := by
  have e : Cg p (det n (mxC n (rowL n n t (scV p z (mxC n xs t)) xs))) (z * det n (mxC n xs)) := by
    rw [← det_scale (mxC n xs) z ht]
    refine det_cg fun x y hx hy => ?_
    unfold stR
    by_cases h1 : x = t
    · rw [if_pos h1, h1, rowL_own ht hy]
      exact (Cg.emod p _).trans (Cg.of_eq (Int.mul_comm _ _))
    · rw [if_neg h1, rowL_oth hx hy h1]; exact Cg.refl _ _
  refine h.trans (Cg.symm (((Cg.emod p (d * a)).mul e).trans ?_))
  have h2 : Cg p (d * det n (mxC n xs) * (a * z)) (d * det n (mxC n xs) * 1) := Cg.mul_left _ hz
  rw [Int.mul_one] at h2
  exact Cg.trans (Cg.of_eq (by grind)) h2
theorem DInv.less {p : Int} {n i t : Nat} {M : Mx} {xs : List Int} {d x : Int} (h : DInv p n M xs d) (hi : i < n) (ht : t < n) (hne : i ≠ t) : DInv p n M (rowL n n i (lsV p x (mxC n xs i) (mxC n xs t)) xs) d := by
  have e : Cg p (det n (mxC n (rowL n n i (lsV p x (mxC n xs i) (mxC n xs t)) xs))) (det n (mxC n xs)) := by
    rw [← det_less (mxC n xs) x hi ht hne]
    refine det_cg fun a b ha hb => ?_
    unfold stR
    by_cases h1 : a = i
    · rw [if_pos h1, h1, rowL_own hi hb]
      exact Cg.emod p _
    · rw [if_neg h1, rowL_oth ha hb h1]; exact Cg.refl _ _
  exact h.trans (Cg.mul_left d e).symm
end Go.Proofs.YtcapddcmnjeloaaGreatDoor
end

section
/-
  Plain mathematics of chapter 8: the elimination over residues as a function of lists. Nothing of a program is used.
-/
namespace Go.Proofs.YtcapddcmnjeloaaGreatDoor
def invF (p a : Int) : Int := match (List.range p.toNat).find? (fun (x : Nat) => decide ((a * (x : Int)) % p = 1)) with
  | some x => (x : Int)
  | none => 0
theorem invF_of {p a x : Int} (hp : Prm p) (h0 : 0 ≤ x) (h1 : x < p) (h : InvP p a x) : invF p a = x := by
  have hp0 : 0 < p := by have := hp.1; omega
  have hx : (a * ((x.toNat : Nat) : Int)) % p = 1 := by
    rw [Int.toNat_of_nonneg h0, Cg.emod_eq hp0 h]
    exact Int.emod_eq_of_lt (by omega) (by have := hp.1; omega)
  unfold invF
  cases hf : (List.range p.toNat).find? (fun (x : Nat) => decide ((a * (x : Int)) % p = 1)) with
  | none =>
    have := List.find?_eq_none.mp hf x.toNat (List.mem_range.mpr (by omega))
    exact absurd (decide_eq_true hx) this
  | some y =>
    have h2 := List.find?_some hf
    have h3 := List.mem_range.mp (List.mem_of_find?_eq_some hf)
    have h4 : (a * (y : Int)) % p = 1 := of_decide_eq_true h2
    show (y : Int) = x
    have h5 : InvP p a y := by
      unfold InvP
      refine Cg.of_emod ?_
      rw [h4]
      exact (Int.emod_eq_of_lt (by omega) (by have := hp.1; omega)).symm
    exact Cg.eq ⟨by omega, by omega⟩ ⟨h0, h1⟩ (InvP.uniq hp h5 h)
def clP (p : Int) (r c t j : Nat) : Nat → Nat → List Int → List Int
  | 0, _, xs => xs
  | k + 1, i, xs => if i = t ∨ mxC c xs i j = 0 then clP p r c t j k (i + 1) xs else clP p r c t j k (i + 1) (rowL r c i (lsV p (mxC c xs i j) (mxC c xs i) (mxC c xs t)) xs)
def elP (p : Int) (r c : Nat) : Nat → Nat → List Int → List Nat → Int → List Int × List Nat × Int
  | 0, _, xs, pv, d => (xs, pv, d)
  | k + 1, j, xs, pv, d =>
    if pv.length < r then
      if fstR c j xs (r - pv.length) pv.length = r then elP p r c k (j + 1) xs pv d
      else elP p r c k (j + 1)
        (clP p r c pv.length j r 0 (rowL r c pv.length (scV p (invF p (mxC c (swC (fstR c j xs (r - pv.length) pv.length) pv.length c xs) pv.length j)) (mxC c (swC (fstR c j xs (r - pv.length) pv.length) pv.length c xs) pv.length)) (swC (fstR c j xs (r - pv.length) pv.length) pv.length c xs)))
        (pv ++ [j])
        (((if fstR c j xs (r - pv.length) pv.length = pv.length then d else (-d) % p) * mxC c (swC (fstR c j xs (r - pv.length) pv.length) pv.length c xs) pv.length j) % p)
    else (xs, pv, d)
theorem clP_skip {p : Int} {r c t j k i : Nat} {xs : List Int} (h : i = t ∨ mxC c xs i j = 0) : clP p r c t j (k + 1) i xs = clP p r c t j k (i + 1) xs := if_pos h
theorem clP_on {p : Int} {r c t j k i : Nat} {xs : List Int} (h : ¬ (i = t ∨ mxC c xs i j = 0)) : clP p r c t j (k + 1) i xs = clP p r c t j k (i + 1) (rowL r c i (lsV p (mxC c xs i j) (mxC c xs i) (mxC c xs t)) xs) := if_neg h
theorem elP_end {p : Int} {r c k j : Nat} {xs : List Int} {pv : List Nat} {d : Int} (h : ¬ pv.length < r) : elP p r c k j xs pv d = (xs, pv, d) := by
  cases k with
  | zero => rfl
  | succ k => exact if_neg h
theorem elP_skip {p : Int} {r c k j : Nat} {xs : List Int} {pv : List Nat} {d : Int} (h : pv.length < r) (hf : fstR c j xs (r - pv.length) pv.length = r) : elP p r c (k + 1) j xs pv d = elP p r c k (j + 1) xs pv d := by
  show (if pv.length < r then _ else _) = _
  rw [if_pos h, if_pos hf]
theorem elP_on {p : Int} {r c k j s : Nat} {xs : List Int} {pv : List Nat} {d : Int} (h : pv.length < r) (hf : fstR c j xs (r - pv.length) pv.length = s) (hs : s ≠ r) :
    elP p r c (k + 1) j xs pv d = elP p r c k (j + 1) (clP p r c pv.length j r 0 (rowL r c pv.length (scV p (invF p (mxC c (swC s pv.length c xs) pv.length j)) (mxC c (swC s pv.length c xs) pv.length)) (swC s pv.length c xs))) (pv ++ [j]) (((if s = pv.length then d else (-d) % p) * mxC c (swC s pv.length c xs) pv.length j) % p) := by
  show (if pv.length < r then _ else _) = _
  rw [if_pos h, hf, if_neg hs]
def HasInv (p : Int) : Prop := ∀ a : Int, ¬ p ∣ a → ∃ x : Int, 0 ≤ x ∧ x < p ∧ InvP p a x
theorem HasInv.inv {p : Int} (h : HasInv p) (hp : Prm p) {a : Int} (ha : ¬ p ∣ a) : InvP p a (invF p a) ∧ 0 ≤ invF p a ∧ invF p a < p := by
  obtain ⟨x, h0, h1, hx⟩ := h a ha
  rw [invF_of hp h0 h1 hx]
  exact ⟨hx, h0, h1⟩
theorem can_nd {p a : Int} (h : 0 ≤ a ∧ a < p) (h0 : a ≠ 0) : ¬ p ∣ a := fun hd => by
  have := Int.le_of_dvd (by omega) hd
  omega
theorem PInv.clear {p : Int} (hp : Prm p) {r c n : Nat} {M : Mx} {pv : List Nat} {j : Nat} (ht : pv.length < r) (hj : j < n) : ∀ (k i : Nat) (xs : List Int), i + k = r → PInv p r c n M xs pv j → mxC c xs pv.length j = 1 → (∀ a, a < i → a ≠ pv.length → mxC c xs a j = 0) →
    PInv p r c n M (clP p r c pv.length j k i xs) pv j ∧ mxC c (clP p r c pv.length j k i xs) pv.length j = 1 ∧ (∀ a, a < r → a ≠ pv.length → mxC c (clP p r c pv.length j k i xs) a j = 0) ∧ (r = c → ∀ d, DInv p r M xs d → DInv p r M (clP p r c pv.length j k i xs) d) := by
  intro k
  induction k with
  | zero =>
    intro i xs hik h h1 hz
    obtain rfl : i = r := by omega
    exact ⟨h, h1, hz, fun _ _ h => h⟩
  | succ k ih =>
    intro i xs hik h h1 hz
    by_cases hs : i = pv.length ∨ mxC c xs i j = 0
    · rw [clP_skip hs]
      refine ih (i + 1) xs (by omega) h h1 fun a ha hne => ?_
      rcases Nat.lt_or_ge a i with h2 | h2
      · exact hz a h2 hne
      · obtain rfl : a = i := by omega
        exact hs.resolve_left hne
    · rw [clP_on hs]
      have hi : i < r := by omega
      have hit : i ≠ pv.length := fun e => hs (.inl e)
      obtain ⟨h2, h3, h4⟩ := h.less hp ht hj hi hit h1
      have hnc := h.nc
      obtain ⟨e1, e2, e3, e4⟩ := ih (i + 1) _ (by omega) h2 (by rw [h3 _ _ ht (by omega) (fun e => hit e.symm)]; exact h1) fun a ha hne => by
        by_cases e : a = i
        · rw [e]; exact h4
        · rw [h3 a j (by omega) (by omega) e]; exact hz a (by omega) hne
      exact ⟨e1, e2, e3, fun hrc d hd => e4 hrc d (by subst hrc; exact hd.less hi ht hit)⟩
theorem PInv.all {p : Int} (hp : Prm p) (hI : HasInv p) {r c n : Nat} {M : Mx} : ∀ (k j : Nat) (xs : List Int) (pv : List Nat) (d : Int), j + k = n → PInv p r c n M xs pv j → 0 ≤ d ∧ d < p →
    (∃ j', PInv p r c n M (elP p r c k j xs pv d).1 (elP p r c k j xs pv d).2.1 j' ∧ (j' = n ∨ (elP p r c k j xs pv d).2.1.length = r)) ∧ (0 ≤ (elP p r c k j xs pv d).2.2 ∧ (elP p r c k j xs pv d).2.2 < p) ∧ (r = c → DInv p r M xs d → DInv p r M (elP p r c k j xs pv d).1 (elP p r c k j xs pv d).2.2) := by
  have hp0 : 0 < p := by have := hp.1; omega
  intro k
  induction k with
  | zero =>
    intro j xs pv d hjk h hd
    obtain rfl : j = n := by omega
    exact ⟨⟨j, h, .inl rfl⟩, hd, fun _ h => h⟩
  | succ k ih =>
    intro j xs pv d hjk h hd
    have hnc := h.nc
    have hj : j < n := by omega
    by_cases ht : pv.length < r
    · obtain ⟨f1, f2, f3, f4⟩ := fstR_says (c := c) (j := j) (xs := xs) (k := r - pv.length) (p := pv.length)
      by_cases hf : fstR c j xs (r - pv.length) pv.length = r
      · rw [elP_skip ht hf]
        exact ih (j + 1) xs pv d (by omega) (h.skip hj fun i h1 h2 => f3 i h1 (by omega)) hd
      · obtain ⟨s, hs⟩ : ∃ s, fstR c j xs (r - pv.length) pv.length = s := ⟨_, rfl⟩
        rw [elP_on ht hs (by omega)]
        rw [hs] at f1 f2 f3 f4 hf
        have hsr : s < r := by omega
        have h1 := h.swap f1 hsr
        have hy : mxC c (swC s pv.length c xs) pv.length j ≠ 0 := by
          rw [swC_at h.len ht (by omega)]
          by_cases e : pv.length = s
          · rw [if_pos e, e]; exact f4 (by omega)
          · rw [if_neg e, if_pos rfl]; exact f4 (by omega)
        have hnd := can_nd (h1.can _ _ ht (show j < c by omega)) hy
        obtain ⟨hz, -, -⟩ := hI.inv hp hnd
        obtain ⟨h2, h3⟩ := h1.scale hp ht hj hz
        obtain ⟨e1, e2, e3, e4⟩ := PInv.clear hp ht hj r 0 _ (by omega) h2 h3 (fun a ha => absurd ha (Nat.not_lt_zero a))
        have h5 := e1.pivot ht hj e2 e3
        obtain ⟨g1, g2, g3⟩ := ih (j + 1) _ (pv ++ [j]) (((if s = pv.length then d else (-d) % p) * mxC c (swC s pv.length c xs) pv.length j) % p) (by omega) h5 (res_can hp0 _)
        refine ⟨g1, g2, fun hrc hD => g3 hrc (e4 hrc _ ?_)⟩
        subst hrc
        refine DInv.scale ?_ ht hz
        by_cases e : s = pv.length
        · rw [if_pos e]
          unfold swC
          rw [if_pos e]; exact hD
        · rw [if_neg e]
          exact hD.swap h.len hsr ht e
    · rw [elP_end ht]
      exact ⟨⟨j, h, .inr (show pv.length = r by have := h.le; omega)⟩, hd, fun _ h => h⟩
end Go.Proofs.YtcapddcmnjeloaaGreatDoor
end
