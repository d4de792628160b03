/-
  Texts of this seat, joined: ZBShelf · ZBCloneI · ZBRdS · ZBPrimS · ZBAppI · ZBEchS · ZBElS · ZBEchT · ZBRkS · ZBIvxL · ZBSvL · ZBSvRi · ZBRgT · ZBRgP · ZBSvRep · ZBRq · ZBRatS · ZBSvSd · ZBSvWd · ZBRqA · ZBSvSe · ZBReM · ZBReL
-/
import Derived.Shelf.Slices.Turned
import Derived.Ground.Names2Prog
import Derived.Shelf.Slices.Clone
import Derived.Test.YtcapddcmnjeloaaGreatDoorProg
import Derived.StillTailTactics
import Derived.Deep.DeepCutAuto
import Derived.IntWalk
import Derived.BigQuiet
import Derived.Deep.QuietTactic
import Derived.OrdersHeld
import Derived.RegionTactic
import Derived.Deep.RegionHeld
import Derived.ChangeAlike
import Derived.Test.YtcapddcmnjeloaaGreatDoorPk12
import Derived.Test.YtcapddcmnjeloaaGreatDoorPk13
import Derived.Test.YtcapddcmnjeloaaGreatDoorPk14

section
/-
  Contracts of Go's library at this translation, each one application of a theorem of the guide's library: slices_Clone_int, slices_Clone_int_zero, slices_Clone_int_nil.
-/
namespace Go.Proofs
open Go.Shelf
def Tryz.laysNm215_ren : Go.Shelf.Ren := ⟨fun | 15 => 162 | n => n, fun | 22 => 24 | 3 => 3 | 4 => 4 | n => n, fun | n => n⟩
theorem Tryz.laysNm215 : Go.Proofs.Lays2.n15 Tryz.prog Tryz.laysNm215_ren := {
  mixed := by kernel_rfl
  f15 := Tryz.func162.trans (congrArg some (by kernel_rfl))
  t3 := Tryz.underlying3
  a3 := Tryz.isAgg3
  z3 := Tryz.sizeOf3
  v3 := Tryz.zeroValue3
  t4 := Tryz.underlying4
  a4 := Tryz.isAgg4
  z4 := Tryz.sizeOf4
  v4 := Tryz.zeroValue4
  t22 := Tryz.underlying24
  a22 := Tryz.isAgg24
  z22 := Tryz.sizeOf24
  v22 := Tryz.zeroValue24
  i3 := by kernel_rfl }
open Go.RowKit Go.Lib in
theorem Tryz.slices_Clone_int (b off n c : Nat) (zs : List Int) (w : World) (hz : n ≤ zs.length) (hbig : n * 8 ≤ 140737488355328) (hc : ∀ j, j < zs.length → w.cell? ⟨b, off + j, none⟩ = some (.int .i64 (zs.getD j 0))) :
    Calls Tryz.prog 162 #[.slice (some ⟨b, off, none⟩) n c] w fun e w' => ∃ v', e = .returned v' ∧ w'.ownsRow w.heap.size 3 1 v' n ((zs.take n).map (Value.int .i64)) ∧ v' ≠ .slice none 0 0 ∧ Below w.heap.size w w' := Any.slices_Clone_int Tryz.laysNm215 b off n c zs w hz hbig hc
open Go.RowKit Go.Lib in
theorem Tryz.slices_Clone_int_nil (n c : Nat) (w : World) :
    Calls Tryz.prog 162 #[.slice none n c] w fun e w' => e = .returned (.slice none 0 0) ∧ w' = w := Any.slices_Clone_int_nil Tryz.laysNm215 n c w
open Go.RowKit Go.Lib in
theorem Tryz.slices_Clone_int_zero (a : Addr) (c : Nat) (w : World) :
    Calls Tryz.prog 162 #[.slice (some a) 0 c] w fun e w' => ∃ v', e = .returned v' ∧ w'.ownsRow w.heap.size 3 1 v' 0 [] ∧ v' ≠ .slice none 0 0 ∧ Below w.heap.size w w' := Any.slices_Clone_int_zero Tryz.laysNm215 a c w
end Go.Proofs
end

section
/-
  Chapter 3, in the program: slices.Clone over slices of ints.
-/
namespace Go.Proofs.YtcapddcmnjeloaaGreatDoor
open Go.RowKit
def Copy (zs : List Int) (w : World) (e : Ending) (w' : World) : Prop := ∃ v, e = .returned v ∧ Own w.heap.size w' v zs ∧ Below w.heap.size w w'
theorem iClone (a : Option Addr) (cap : Nat) (zs : List Int) (w : World) (h : Rd w a zs) (hn : zs.length ≤ 16777216) :
    Calls Tryz.prog 162 #[.slice a zs.length cap] w (Copy zs w) := by
  rcases Nat.eq_zero_or_pos zs.length with e | hz
  · obtain rfl : zs = [] := List.eq_nil_of_length_eq_zero e
    cases a with
    | none => exact (Tryz.slices_Clone_int_nil 0 cap w).mono fun e w' ⟨h1, h2⟩ => ⟨_, h1, .inl ⟨rfl, rfl⟩, by rw [h2]; exact Below.refl _ _⟩
    | some x => exact (Tryz.slices_Clone_int_zero x cap w).mono fun e w' ⟨v, h1, h2, _, h3⟩ => ⟨v, h1, Own.of_row h2 (by simp), h3⟩
  · obtain ⟨b, o, rfl⟩ := h.addr hz
    refine (Tryz.slices_Clone_int b o zs.length cap zs w (Nat.le_refl _) (by omega) h.cells).mono fun e w' ⟨v, h1, h2, _, h3⟩ => ⟨v, h1, Own.of_row ?_ hn, h3⟩
    rw [List.take_length] at h2
    exact h2
def mixL (xs : List Int) (k : Nat) (f : Nat → Int) : List Int := (List.range xs.length).map fun i => if i < k then f i else xs.getD i 0
theorem mixL_length (xs : List Int) (k : Nat) (f : Nat → Int) : (mixL xs k f).length = xs.length := by simp [mixL]
theorem mixL_zero (xs : List Int) (f : Nat → Int) : mixL xs 0 f = xs := by
  apply List.ext_getElem (by simp [mixL])
  intro i h1 h2
  simp [mixL, List.getD, h2]
theorem mixL_all (xs : List Int) (f : Nat → Int) : mixL xs xs.length f = (List.range xs.length).map f := by
  apply List.ext_getElem (by simp [mixL])
  intro i h1 h2
  have : i < xs.length := by simpa [mixL] using h1
  simp [mixL, this]
theorem mixL_at (xs : List Int) (k : Nat) (f : Nat → Int) : (mixL xs k f).getD k 0 = xs.getD k 0 := by
  unfold mixL List.getD
  rcases Nat.lt_or_ge k xs.length with h | h
  · simp [h]
  · simp [h]
theorem mixL_step (xs : List Int) (k : Nat) (f : Nat → Int) : (mixL xs k f).set k (f k) = mixL xs (k + 1) f := by
  apply List.ext_getElem (by simp [mixL])
  intro i h1 h2
  have hi : i < xs.length := by simpa [mixL] using h2
  rw [List.getElem_set]
  by_cases e : k = i
  · subst e; simp [mixL]
  · simp only [e, if_false]
    simp only [mixL, List.getElem_map, List.getElem_range]
    by_cases h3 : i < k
    · rw [if_pos h3, if_pos (by omega)]
    · rw [if_neg h3, if_neg (by omega)]
theorem Own.cases {B : Nat} {w : World} {v : Value} {zs : List Int} (h : Own B w v zs) : (v = .slice none 0 0 ∧ zs = []) ∨ ∃ (g cap : Nat), v = .slice (some ⟨g, 0, none⟩) zs.length cap ∧ B ≤ g ∧ Ints w g zs ∧ zs.length ≤ cap := by
  rcases h with h | ⟨g, cap, hv, hB, hi, hl, _⟩
  · exact .inl h
  · exact .inr ⟨g, cap, hv, hB, hi, hl⟩
def CopyN (n : Nat) (zs : List Int) (w : World) (e : Ending) (w' : World) : Prop := ∃ q qc, e = .returned (.slice q n qc) ∧ Own w.heap.size w' (.slice q n qc) zs ∧ Below w.heap.size w w'
theorem iCloneN (a : Option Addr) (cap n : Nat) (zs : List Int) (hz : zs.length = n) (w : World) (h : Rd w a zs) (hn : n ≤ 16777216) :
    Calls Tryz.prog 162 #[.slice a n cap] w (CopyN n zs w) := by
  subst hz
  refine (iClone a cap zs w h hn).mono ?_
  rintro e w' ⟨v, rfl, own, hb⟩
  obtain ⟨q, qc, rfl, -, -⟩ := own.form
  exact ⟨q, qc, rfl, own, hb⟩
end Go.Proofs.YtcapddcmnjeloaaGreatDoor
end

section
/-
  Chapter 8, in the model: ReduceMod.
-/
namespace Go.Proofs.YtcapddcmnjeloaaGreatDoor
set_option maxRecDepth 100000
open Go.RowKit
theorem resL_mix {p : Int} {xs : List Int} : mixL xs xs.length (fun i => xs.getD i 0 % p) = resL p xs := by
  rw [mixL_all]
  unfold resL
  apply List.ext_getElem (by simp)
  intro i h1 h2
  have : i < xs.length := by simpa using h2
  simp [List.getD, this]
end Go.Proofs.YtcapddcmnjeloaaGreatDoor
end

section
/-
  Chapter 7, in the model: a row made primitive.
-/
namespace Go.Proofs.YtcapddcmnjeloaaGreatDoor
set_option maxRecDepth 100000
open Go.RowKit
end Go.Proofs.YtcapddcmnjeloaaGreatDoor
end

section
/-
  A row of ints of a call's own, that append may go on with.
-/
namespace Go.Proofs.YtcapddcmnjeloaaGreatDoor
open Go.RowKit
def OwnQ (B : Nat) (w : World) (v : Value) (zs : List Int) : Prop := w.ownsRow B 3 1 v zs.length (zs.map (Value.int .i64))
theorem OwnQ.le {B : Nat} {w : World} {v : Value} {zs : List Int} (h : OwnQ B w v zs) {k : Nat} (hk : v.ownBlock = some k) : B ≤ k := by
  rcases h.2 with ⟨rfl, -⟩ | ⟨g, cap, cur, rfl, hB, -⟩
  · cases hk
  · simp [Value.ownBlock] at hk; omega
theorem OwnQ.move {B : Nat} {w w' : World} {v : Value} {zs : List Int} (h : OwnQ B w v zs) (hb : ∀ k, v.ownBlock = some k → w'.heap[k]? = w.heap[k]?) : OwnQ B w' v zs := by
  obtain ⟨h1, ⟨h2, h3⟩ | ⟨g, cap, cur, rfl, hB, hg, rest⟩⟩ := h
  · exact ⟨h1, .inl ⟨h2, h3⟩⟩
  · exact ⟨h1, .inr ⟨g, cap, cur, rfl, hB, (hb g rfl).trans hg, rest⟩⟩
theorem OwnQ.lt {B : Nat} {w : World} {v : Value} {zs : List Int} (h : OwnQ B w v zs) {k : Nat} (hk : v.ownBlock = some k) : k < w.heap.size := by
  rcases h.2 with ⟨rfl, -⟩ | ⟨g, cap, cur, rfl, hB, hg, -⟩
  · cases hk
  · simp only [Value.ownBlock, Option.some.injEq] at hk
    subst hk
    exact lt_of_block hg
theorem OwnQ.one {B rb : Nat} {w w' : World} {v : Value} {zs : List Int} (h : OwnQ B w v zs) (hg : w.grownBy w' (some rb)) (hr : rb < B) : OwnQ B w' v zs :=
  h.move fun k hk => hg.block k (h.lt hk) (by have := h.le hk; simp; omega)
theorem OwnQ.drewN {B : Nat} {w : World} {v : Value} {zs : List Int} (h : OwnQ B w v zs) (n : Nat) : OwnQ B (w.drewN n) v zs := h
theorem OwnQ.keep {B : Nat} {w w' : World} {v : Value} {zs : List Int} (h : OwnQ B w v zs) (hb : Below w.heap.size w w') : OwnQ B w' v zs := h.move fun k hk => hb.block k (h.lt hk)
theorem OwnQ.lower {B B' : Nat} {w : World} {v : Value} {zs : List Int} (h : OwnQ B w v zs) (hB : B' ≤ B) : OwnQ B' w v zs := by
  obtain ⟨h1, h2 | ⟨g, cap, cur, e, hg, rest⟩⟩ := h
  · exact ⟨h1, .inl h2⟩
  · exact ⟨h1, .inr ⟨g, cap, cur, e, by omega, rest⟩⟩
theorem OwnQ.form {B : Nat} {w : World} {v : Value} {zs : List Int} (h : OwnQ B w v zs) : ∃ a c, v = .slice a zs.length c := by
  obtain ⟨h1, ⟨h2, h3⟩ | ⟨g, cap, cur, e, hB, hg, rest⟩⟩ := h
  · exact ⟨_, _, by rw [h2, h3]⟩
  · exact ⟨_, _, e⟩
theorem OwnQ.own {B : Nat} {w : World} {v : Value} {zs : List Int} (h : OwnQ B w v zs) (hn : zs.length ≤ 16777216) : Own B w v zs := Own.of_row h hn
theorem OwnQ.none_ {B : Nat} {w : World} {g : Nat} (hB : B ≤ g) (h : IntsC w g 0 []) : OwnQ B w (.slice (some ⟨g, 0, none⟩) 0 0) [] := h.row hB
end Go.Proofs.YtcapddcmnjeloaaGreatDoor
end

section
/-
  Chapter 7, in the model: the elimination.
-/
namespace Go.Proofs.YtcapddcmnjeloaaGreatDoor
set_option maxRecDepth 100000
open Go.RowKit
def pvI (pv : List Nat) : List Int := pv.map fun (k : Nat) => (k : Int)
def EchP (w : World) (r c : Nat) (o : Option (List Int × List Nat)) (e : Ending) (w' : World) : Prop :=
  (∃ (va vb : Value) (ys : List Int) (pv : List Nat), o = some (ys, pv) ∧ e = .returned (.tuple #[.agg #[.int .i64 r, .int .i64 c, va], vb, .bool true]) ∧ Own w.heap.size w' va ys ∧ Own w.heap.size w' vb (pvI pv) ∧ (∀ k, va.ownBlock = some k → vb.ownBlock ≠ some k) ∧ Below w.heap.size w w')
  ∨ (∃ vb : Value, o = none ∧ e = .returned (.tuple #[.agg #[.int .i64 0, .int .i64 0, .slice none 0 0], vb, .bool false]) ∧ Own w.heap.size w' vb [] ∧ Below w.heap.size w w')
theorem pvI_length (pv : List Nat) : (pvI pv).length = pv.length := List.length_map ..
theorem tdiv_bb {x y b : Int} (h1 : -b ≤ x) (h2 : x ≤ b) : -b ≤ x.tdiv y ∧ x.tdiv y ≤ b := by
  have h := Int.natAbs_tdiv_le_natAbs x y
  omega
end Go.Proofs.YtcapddcmnjeloaaGreatDoor
end

section
/-
  Chapter 8, in the model: the elimination over residues.
-/
namespace Go.Proofs.YtcapddcmnjeloaaGreatDoor
set_option maxRecDepth 100000
open Go.RowKit
theorem ivM_can {p x : Int} (h : prmB p = true) (h0 : 0 ≤ x) (h1 : x < p) (hx : x ≠ 0) : ivM p x = (invF p x, true) := by
  obtain ⟨hp, hp2⟩ := prmB_says h
  have e : x % p = x := Int.emod_eq_of_lt h0 h1
  exact ivM_yes h (by unfold NumP; omega) e hx
theorem mul_bd {a b p : Int} (ha : 0 ≤ a) (ha2 : a < p) (hb : 0 ≤ b) (hb2 : b < p) (hp : p ≤ 10000) : 0 ≤ a * b ∧ a * b ≤ 100000000 := by
  refine ⟨Int.mul_nonneg ha hb, ?_⟩
  have : a * b ≤ 10000 * 10000 := Int.mul_le_mul (by omega) (by omega) hb (by omega)
  omega
end Go.Proofs.YtcapddcmnjeloaaGreatDoor
end

section
/-
  Chapter 7, in the model: EchelonOf, RankOf.
-/
namespace Go.Proofs.YtcapddcmnjeloaaGreatDoor
set_option maxRecDepth 100000
open Go.RowKit
structure ER where
  r : Int
  c : Int
  zs : List Int
  pv : List Int
  ok : Bool
def ER.no : ER := ⟨0, 0, [], [], false⟩
def ER.of (r c : Int) : Option (List Int × List Nat) → ER
  | some (ys, pv) => ⟨r, c, ys, pvI pv, true⟩
  | none => ER.no
def echR (r c : Int) (xs : List Int) : ER := if isMat r c xs = true then ER.of r c (echM r.toNat c.toNat xs) else ER.no
def EchG (w : World) (R : ER) (e : Ending) (w' : World) : Prop :=
  ∃ (va vb : Value), e = .returned (.tuple #[.agg #[.int .i64 R.r, .int .i64 R.c, va], vb, .bool R.ok]) ∧ Own w.heap.size w' va R.zs ∧ Own w.heap.size w' vb R.pv ∧ (∀ k, va.ownBlock = some k → vb.ownBlock ≠ some k) ∧ Below w.heap.size w w'
theorem EchP.g {w : World} {r c : Nat} {o : Option (List Int × List Nat)} {e : Ending} {w' : World} (h : EchP w r c o e w') : EchG w (ER.of r c o) e w' := by
  rcases h with ⟨va, vb, ys, pv, rfl, rfl, h1, h2, h3, h4⟩ | ⟨vb, rfl, rfl, h2, h4⟩
  · exact ⟨va, vb, rfl, h1, h2, h3, h4⟩
  · exact ⟨_, vb, rfl, .inl ⟨rfl, rfl⟩, h2, fun k hk => by simp [Value.ownBlock] at hk, h4⟩
end Go.Proofs.YtcapddcmnjeloaaGreatDoor
end

section
/-
  Chapter 8, in the model: RankMod, DeterminantMod.
-/
namespace Go.Proofs.YtcapddcmnjeloaaGreatDoor
set_option maxRecDepth 100000
open Go.RowKit
def rkM (r c p : Int) (xs : List Int) : Int × Bool := if (isMat r c xs && prmB p) = true then (((elM p r.toNat c.toNat xs).2.1.length : Int), true) else (0, false)
def dtM (r c p : Int) (xs : List Int) : Int × Bool := if (isMat r c xs && prmB p && decide (r = c)) = true then (if (elM p r.toNat c.toNat xs).2.1.length < r.toNat then 0 else (elM p r.toNat c.toNat xs).2.2, true) else (0, false)
theorem rkM_no {r c p : Int} {xs : List Int} (h : (isMat r c xs && prmB p) = false) : rkM r c p xs = (0, false) ∧ redM r c p xs = MR.no ∧ dtM r c p xs = (0, false) := by
  unfold rkM redM dtM
  rw [h]
  exact ⟨rfl, rfl, rfl⟩
theorem rkM_yes {r c p : Int} {xs : List Int} (h : (isMat r c xs && prmB p) = true) : ∃ (R C N : Nat), r = R ∧ c = C ∧ N = R * C ∧ R ≤ 24 ∧ C ≤ 24 ∧ xs.length = N ∧ (resL p xs).length = N ∧ prmB p = true ∧ CanL p (resL p xs) ∧ redM r c p xs = ⟨true, R, C, resL p xs⟩ ∧ rkM r c p xs = (((elM p R C xs).2.1.length : Int), true) ∧ dtM r c p xs = (if R = C then (if (elM p R C xs).2.1.length < R then 0 else (elM p R C xs).2.2, true) else (0, false)) := by
  have h0 := h
  rw [Bool.and_eq_true] at h
  obtain ⟨hm, hp⟩ := h
  obtain ⟨⟨r0, r1⟩, ⟨c0, c1⟩, hl, nx⟩ := isMat_says hm
  obtain ⟨R, rfl⟩ := Int.eq_ofNat_of_zero_le r0
  obtain ⟨C, rfl⟩ := Int.eq_ofNat_of_zero_le c0
  have hx : xs.length = R * C := by rw [← Int.natCast_mul] at hl; omega
  refine ⟨R, C, R * C, rfl, rfl, rfl, by omega, by omega, hx, by rw [resL_length, hx], hp, resL_can (by have := (prmB_says hp).1.1; omega) xs, ?_, ?_, ?_⟩
  · unfold redM; rw [if_pos h0]
  · unfold rkM; rw [if_pos h0]; rfl
  · unfold dtM
    rw [h0, Bool.true_and]
    by_cases e : R = C
    · rw [if_pos e, if_pos (by simp [e])]; rfl
    · rw [if_neg e, if_neg (by simp; omega)]
theorem Own.elim {B N cap : Nat} {w : World} {q : Option Addr} {zs : List Int} (h : Own B w (.slice q N cap) zs) : Rd w q zs ∧ Spot q := by
  rcases h with ⟨hv, rfl⟩ | ⟨g, cap, hv, _, hi, _⟩
  · injection hv with e
    exact ⟨Rd.nil _ _, .inl e⟩
  · injection hv with e
    exact ⟨by rw [e]; exact hi.rd, .inr ⟨g, 0, e⟩⟩
end Go.Proofs.YtcapddcmnjeloaaGreatDoor
end

section
/-
  Plain mathematics of chapter 8: the matrix beside the unit matrix, made cell by cell; what InverseMod gives.
-/
namespace Go.Proofs.YtcapddcmnjeloaaGreatDoor
def wdF (p : Int) (n : Nat) (xs : List Int) (i j : Nat) : Int := if j < n then (resL p xs).getD (i * n + j) 0 else if j = n + i then 1 else 0
def wdTo (p : Int) (n : Nat) (xs : List Int) (i j : Nat) : List Int := tab n (2 * n) fun a b => if a < i ∨ (a = i ∧ b < j) then wdF p n xs a b else 0
theorem wdTo_length (p : Int) (n : Nat) (xs : List Int) (i j : Nat) : (wdTo p n xs i j).length = n * (2 * n) := tab_length _ _ _
theorem wdTo_zero (p : Int) (n : Nat) (xs : List Int) : wdTo p n xs 0 0 = List.replicate (n * (2 * n)) 0 := by
  symm
  refine tab_ext (by simp) fun a b ha hb => ?_
  rw [if_neg (by omega)]
  have := idx_lt (c := 2 * n) ha hb
  simp [List.getD, this]
theorem wdTo_all (p : Int) (n : Nat) (xs : List Int) : wdTo p n xs n 0 = wideL p n xs := by
  refine tab_ext (tab_length _ _ _) fun a b ha hb => ?_
  unfold wdTo
  rw [tab_at n (2 * n) _ ha hb, if_pos (.inl ha)]
  rfl
theorem set_tab {r c i j : Nat} {f g : Nat → Nat → Int} {x : Int} (hi : i < r) (hj : j < c) (hx : g i j = x) (h : ∀ a b, a < r → b < c → ¬ (a = i ∧ b = j) → f a b = g a b) : (tab r c f).set (i * c + j) x = tab r c g := by
  refine tab_ext (by rw [List.length_set, tab_length]) fun a b ha hb => ?_
  by_cases e : a = i ∧ b = j
  · obtain ⟨rfl, rfl⟩ := e
    rw [hx]
    have := idx_lt (c := c) ha hb
    simp [List.getD, tab_length, this]
  · rw [← h a b ha hb e, ← tab_at r c f ha hb]
    have hne : a * c + b ≠ i * c + j := fun h2 => by
      have h3 := congrArg (· / c) h2
      have h4 := congrArg (· % c) h2
      simp only [idx_div hb, idx_div hj, idx_mod hb, idx_mod hj] at h3 h4
      exact e ⟨h3, h4⟩
    simp [List.getD, Ne.symm hne]
theorem wdTo_row {p : Int} {n : Nat} {xs : List Int} {i : Nat} (hi : i < n) : (wdTo p n xs i n).set (i * (2 * n) + (n + i)) 1 = wdTo p n xs (i + 1) 0 := by
  refine set_tab hi (by omega) ?_ fun a b ha hb h => ?_
  · rw [if_pos (by omega)]
    unfold wdF
    rw [if_neg (by omega), if_pos rfl]
  · by_cases h1 : a < i ∨ (a = i ∧ b < n)
    · rw [if_pos h1, if_pos (by omega)]
    · rw [if_neg h1]
      by_cases h2 : a < i + 1 ∨ (a = i + 1 ∧ b < 0)
      · rw [if_pos h2]
        unfold wdF
        rw [if_neg (by omega), if_neg (by omega)]
      · rw [if_neg h2]
def hfTo (n : Nat) (ys : List Int) (i j : Nat) : List Int := tab n n fun a b => if a < i ∨ (a = i ∧ b < j) then ys.getD (a * (2 * n) + (n + b)) 0 else 0
theorem hfTo_length (n : Nat) (ys : List Int) (i j : Nat) : (hfTo n ys i j).length = n * n := tab_length _ _ _
theorem hfTo_zero (n : Nat) (ys : List Int) : hfTo n ys 0 0 = List.replicate (n * n) 0 := by
  symm
  refine tab_ext (by simp) fun a b ha hb => ?_
  rw [if_neg (by omega)]
  have := idx_lt (c := n) ha hb
  simp [List.getD, this]
theorem hfTo_all (n : Nat) (p : Int) (xs : List Int) : hfTo n (elW p n xs).1 n 0 = ivL p n xs := by
  refine tab_ext (tab_length _ _ _) fun a b ha hb => ?_
  unfold hfTo
  rw [tab_at n n _ ha hb, if_pos (.inl ha)]
theorem clP_len {p : Int} {r c t j : Nat} : ∀ (k i : Nat) (xs : List Int), xs.length = r * c → (clP p r c t j k i xs).length = r * c := by
  intro k
  induction k with
  | zero => intro i xs h; exact h
  | succ k ih =>
    intro i xs h
    by_cases hs : i = t ∨ mxC c xs i j = 0
    · rw [clP_skip hs]; exact ih _ _ h
    · rw [clP_on hs]; exact ih _ _ (rowL_length _ _ _ _ _)
theorem elP_len {p : Int} {r c : Nat} : ∀ (k j : Nat) (xs : List Int) (pv : List Nat) (d : Int), xs.length = r * c → (elP p r c k j xs pv d).1.length = r * c := by
  intro k
  induction k with
  | zero => intro j xs pv d h; exact h
  | succ k ih =>
    intro j xs pv d h
    by_cases ht : pv.length < r
    · by_cases hf : fstR c j xs (r - pv.length) pv.length = r
      · rw [elP_skip ht hf]; exact ih _ _ _ _ h
      · rw [elP_on ht rfl hf]
        exact ih _ _ _ _ (clP_len _ _ _ (rowL_length _ _ _ _ _))
    · rw [elP_end ht]; exact h
theorem elW_len (p : Int) (n : Nat) (xs : List Int) : (elW p n xs).1.length = n * (2 * n) := elP_len _ _ _ _ _ (tab_length _ _ _)
def ivX (r c p : Int) (xs : List Int) : MR := if (isMat r c xs && prmB p && decide (r = c) && decide (r ≤ 12)) = true then (if (elW p r.toNat xs).2.1.length < r.toNat then MR.no else ⟨true, r, r, ivL p r.toNat xs⟩) else MR.no
theorem ivX_no1 {r c p : Int} {xs : List Int} (h : (isMat r c xs && prmB p) = false) : ivX r c p xs = MR.no := by
  unfold ivX; rw [h]; rfl
theorem ivX_no2 {r c p : Int} {xs : List Int} (h : r ≠ c) : ivX r c p xs = MR.no := by
  unfold ivX; rw [decide_eq_false h, Bool.and_false, Bool.false_and]; rfl
theorem ivX_no3 {r c p : Int} {xs : List Int} (h : ¬ r ≤ 12) : ivX r c p xs = MR.no := by
  unfold ivX; rw [decide_eq_false h, Bool.and_false]; rfl
theorem ivX_at {n : Nat} {p : Int} {xs : List Int} (h : (isMat n n xs && prmB p) = true) (hn : n ≤ 12) : ivX n n p xs = if (elW p n xs).2.1.length < n then MR.no else ⟨true, n, n, ivL p n xs⟩ := by
  unfold ivX; rw [h, decide_eq_true rfl, decide_eq_true (by omega)]; rfl
end Go.Proofs.YtcapddcmnjeloaaGreatDoor
end

section
/-
  Plain mathematics of chapter 8: what SolveMod gives, and how it is made cell by cell.
-/
namespace Go.Proofs.YtcapddcmnjeloaaGreatDoor
theorem ivX_says {r c p : Int} {xs : List Int} (h : (ivX r c p xs).ok = true) : ∃ n : Nat, r = n ∧ c = n ∧ n ≤ 12 ∧ prmB p = true ∧ xs.length = n * n ∧ (isMat r c xs && prmB p) = true ∧ (elW p n xs).2.1.length ≥ n ∧ ivX r c p xs = ⟨true, n, n, ivL p n xs⟩ ∧ (ivL p n xs).length = n * n ∧ CanL p (ivL p n xs) := by
  rcases Bool.eq_false_or_eq_true (isMat r c xs && prmB p) with hh | hh
  · by_cases h1 : r = c
    · by_cases h2 : r ≤ 12
      · obtain ⟨R, C, N, rfl, rfl, hN, hR, hC, hx, -, hp, -, -, -, -⟩ := rkM_yes hh
        have e : R = C := by omega
        subst e
        have hx2 : xs.length = R * R := by rw [hx, hN]
        have e1 := ivX_at (p := p) hh (by omega : R ≤ 12)
        obtain ⟨-, -, hc, hl⟩ := elW_inv (prmB_says hp).1 hx2
        by_cases h3 : (elW p R xs).2.1.length < R
        · rw [e1, if_pos h3] at h; cases h
        · rw [if_neg h3] at e1
          exact ⟨R, rfl, rfl, by omega, hp, hx2, hh, by omega, e1, hl, hc⟩
      · rw [ivX_no3 h2] at h; cases h
    · rw [ivX_no2 h1] at h; cases h
  · rw [ivX_no1 hh] at h; cases h
def svF (p : Int) (n : Nat) (vs bs : List Int) (i j : Nat) : Int := slF p (fun k => vs.getD (i * n + k) 0) (fun k => bs.getD k 0) j
theorem svF_zero (p : Int) (n : Nat) (vs bs : List Int) (i : Nat) : svF p n vs bs i 0 = 0 := rfl
theorem svF_step (p : Int) (n : Nat) (vs bs : List Int) (i j : Nat) : svF p n vs bs i (j + 1) = (svF p n vs bs i j + vs.getD (i * n + j) 0 * (bs.getD j 0 % p)) % p := rfl
theorem svF_can {p : Int} (hp : 0 < p) (n : Nat) (vs bs : List Int) (i j : Nat) : 0 ≤ svF p n vs bs i j ∧ svF p n vs bs i j < p := slF_can hp _ _ _
def svTo (p : Int) (n : Nat) (vs bs : List Int) (i j : Nat) : List Int := (List.range n).map fun a => if a < i then svF p n vs bs a n else if a = i then svF p n vs bs i j else 0
theorem svTo_length (p : Int) (n : Nat) (vs bs : List Int) (i j : Nat) : (svTo p n vs bs i j).length = n := by simp [svTo]
theorem svTo_zero (p : Int) (n : Nat) (vs bs : List Int) : svTo p n vs bs 0 0 = List.replicate n 0 := by
  apply List.ext_getElem (by simp [svTo])
  intro k h1 h2
  simp [svTo, svF_zero]
theorem svTo_at {p : Int} {n : Nat} {vs bs : List Int} {i j : Nat} (hi : i < n) : (svTo p n vs bs i j).getD i 0 = svF p n vs bs i j := by
  unfold svTo
  simp [List.getD, hi]
theorem svTo_set {p : Int} {n : Nat} {vs bs : List Int} {i j : Nat} : (svTo p n vs bs i j).set i (svF p n vs bs i (j + 1)) = svTo p n vs bs i (j + 1) := by
  apply List.ext_getElem (by simp [svTo])
  intro k h1 h2
  rw [List.getElem_set]
  by_cases e : i = k
  · subst e; simp [svTo]
  · rw [if_neg e]
    simp [svTo, show ¬ k = i from fun h => e h.symm]
theorem svTo_row {p : Int} {n : Nat} {vs bs : List Int} {i : Nat} : svTo p n vs bs i n = svTo p n vs bs (i + 1) 0 := by
  apply List.ext_getElem (by simp [svTo])
  intro k h1 h2
  simp only [svTo, List.getElem_map, List.getElem_range]
  by_cases h3 : k < i
  · rw [if_pos h3, if_pos (by omega)]
  · rw [if_neg h3]
    by_cases h4 : k = i
    · rw [if_pos h4, if_pos (by omega), h4]
    · rw [if_neg h4, if_neg (by omega)]
      split
      · rfl
      · rfl
theorem svTo_all (p : Int) (n : Nat) (vs bs : List Int) : svTo p n vs bs n 0 = solL p n vs bs := by
  apply List.ext_getElem (by simp [svTo, solL])
  intro k h1 h2
  have : k < n := by simpa [svTo] using h1
  simp [svTo, solL, svF, this]
theorem nums_bad {bs : List Int} {j : Nat} (hj : j < bs.length) (h : ¬ NumP (bs.getD j 0)) : nums bs = false := by
  cases hb : nums bs with
  | false => rfl
  | true => exact absurd (nums_at hb hj) h
theorem nums_all {bs : List Int} (h : ∀ j, j < bs.length → NumP (bs.getD j 0)) : nums bs = true := nums_true h
end Go.Proofs.YtcapddcmnjeloaaGreatDoor
end

section
/-
  Chapter 11, in the model: what the functions that solve ask of their arguments.
-/
namespace Go.Proofs.YtcapddcmnjeloaaGreatDoor
set_option maxRecDepth 100000
open Go.RowKit
set_option maxHeartbeats 2000000 in
theorem sRight (r c : Int) (a : Option Addr) (m : Nat) (xs : List Int) (ab : Option Addr) (mb : Nat) (bs : List Int) (w : World) (h : Rd w a xs) (hn : xs.length ≤ 16777216) (hb : Rd w ab bs) (hbn : bs.length ≤ 16777216) :
    Calls Tryz.prog 38 #[.agg #[.int .i64 r, .int .i64 c, .slice a xs.length m], .slice ab bs.length mb] w (Gives (.bool (sysB r c xs bs)) w) := by
  have SQ : Hid (∀ w', Below w.heap.size w w' → Calls Tryz.prog 78 #[.agg #[.int .i64 r, .int .i64 c, .slice a xs.length m]] w' (Gives (.bool (isSq r c xs)) w')) := fun w' hb => sIsSq r c a m xs w' (h.below hb) hn
  have K0 : Hid (Blk3 (w.alloc (.cells #[.int .i64 r, .int .i64 c, .slice a xs.length m] 26)) w.heap.size 26 (.int .i64 r) (.int .i64 c) (.slice a xs.length m)) := Blk3.at_ _ _ _ _ rfl
  have B0 : Hid (Below w.heap.size w (w.alloc (.cells #[.int .i64 r, .int .i64 c, .slice a xs.length m] 26))) := (Below.refl _ _).alloc (Nat.le_refl _) _
  have V1 : Hid (∀ j, j < bs.length → ¬ NumP (bs.getD j 0) → sysB r c xs bs = false) := fun j hj h => sysB_false (.inr (.inr (nums_bad hj h)))
  have V2 : Hid (isSq r c xs = false → sysB r c xs bs = false) := fun h => sysB_false (.inl h)
  have V3 : Hid ((bs.length : Int) ≠ r → sysB r c xs bs = false) := fun h => sysB_false (.inr (.inl h))
  have V4 : Hid (isSq r c xs = true → (bs.length : Int) = r → (∀ j, j < bs.length → NumP (bs.getD j 0)) → sysB r c xs bs = true) := fun h1 h2 h3 => sysB_true h1 h2 (nums_all h3)
  have RB : Hid (Rd w ab bs) := hb
  generalize sysB r c xs bs = bb at V1 V2 V3 V4 ⊢
  generalize xs.length = L at SQ K0 B0 hn ⊢
  obtain ⟨Lb, hLb⟩ : ∃ Lb, bs.length = Lb := ⟨_, rfl⟩
  rw [hLb] at V1 V3 V4 hbn ⊢
  have XB := Lib.hid hLb
  clear h hb hLb
  go_enter Tryz.func38, Tryz.ntmps38
  go_wp2_with fail
  have S0 := B0.out.size
  generalize w.alloc (.cells #[.int .i64 r, .int .i64 c, .slice a L m] 26) = W at K0 B0 S0 ⊢
  go_loopw [5] (fun v5 wr => ∃ j : Nat, v5 = .int .i64 j ∧ j ≤ Lb ∧ (∀ k, k < j → NumP (bs.getD k 0)) ∧ wr = W) (fun v5 _ => Lb - (intOf v5).toNat)
  case atStart => exact ⟨0, rfl, by omega, fun k hk => by omega, by first | rfl | trivial⟩
  case round =>
    obtain ⟨j, rfl, hj, hk, rfl⟩ := hrel
    have HK := Lib.hid hk
    clear hk
    by_cases hjl : j < Lb
    · obtain ⟨b1, o1, rfl, hc1⟩ := (RB.out.below B0.out) j (by rw [XB.out]; exact hjl)
      have VJ := Lib.hid (V1.out j hjl)
      obtain ⟨x, hx⟩ : ∃ x, bs.getD j 0 = x := ⟨_, rfl⟩
      have X := Lib.hid hx
      rw [hx] at hc1 VJ
      clear hx
      have jl1 : (j : Int) < (Lb : Int) := by omega
      by_cases hxn : NumP x
      · have HK2 : Hid (∀ k, k < j + 1 → NumP (bs.getD k 0)) := fun k hk => by
          rcases Nat.lt_or_ge k j with h3 | h3
          · exact HK.out k h3
          · obtain rfl : k = j := by omega
            rw [X.out]; exact hxn
        go_wp2_with fail
        refine (sIsNum_t x _ hxn.1 hxn.2).mono ?_
        rintro e w' ⟨rfl, rfl⟩
        go_wp2_with fail
        go_roundw
        case rel => exact ⟨j + 1, by go_num, by omega, HK2.out, by first | rfl | trivial⟩
        case measure => simp [intOf]; omega
      · have V := Lib.hid (VJ.out hxn)
        have hx' : x < -400000000 ∨ 400000000 < x := by unfold NumP at hxn; omega
        clear hxn
        go_wp2_with fail
        refine (sIsNum_f x _ hx').mono ?_
        rintro e w' ⟨rfl, rfl⟩
        go_wp2_with fail
        go_ret
        exact ⟨by rw [V.out]; rfl, B0.out⟩
    · obtain rfl : j = Lb := by omega
      obtain ⟨p0, p1, p2, -, -, -⟩ := K0.out.all
      go_wp2_with fail
      refine (SQ.out _ B0.out).mono ?_
      rintro e w2 ⟨rfl, hb2⟩
      have K2 := Lib.hid (K0.out.step hb2)
      have B2 := Lib.hid (B0.out.trans (hb2.mono B0.out.size))
      obtain ⟨q0, q1, q2, -, -, -⟩ := K2.out.all
      clear hb2
      generalize isSq r c xs = sq at V2 V4 ⊢
      cases sq with
      | false =>
        have V := Lib.hid (V2.out rfl)
        go_wp2_with fail
        go_ret
        exact ⟨by rw [V.out]; rfl, B2.out⟩
      | true =>
        by_cases e : (j : Int) = r
        · have V := Lib.hid (V4.out rfl e HK.out)
          have n1 : ((j : Int) == r) = true := by simpa using e
          go_wp2_with fail
          go_ret
          exact ⟨by rw [V.out]; rfl, B2.out⟩
        · have V := Lib.hid (V3.out e)
          have n1 : ((j : Int) == r) = false := by simpa using e
          go_wp2_with fail
          go_ret
          exact ⟨by rw [V.out]; rfl, B2.out⟩
end Go.Proofs.YtcapddcmnjeloaaGreatDoor
end

section
/-
  A region that draws its order and stores, at its end, into cells that it loads: a condition on the world is shown again behind each operation but those that come after all loads. No function of the program is named.
-/
namespace Go.Proofs.YtcapddcmnjeloaaGreatDoor
theorem two_only {p : Nat → Prop} (a b : Nat) (ha : p a) (hb : p b) : ∀ j, (j == a || j == b) = true → p j := fun j hj => by
  rw [Bool.or_eq_true, beq_iff_eq, beq_iff_eq] at hj
  rcases hj with rfl | rfl
  · exact ha
  · exact hb
section
variable {P : Program} {ops : Array Oper} {Q : Exit → Act → World → Prop} {md : Region.Mode} {S : World → Prop} {T : Nat → Bool}
def anc (md : Region.Mode) (ops : Array Oper) (i : Nat) : Nat → Nat → Bool
  | 0, _ => false
  | f + 1, j => match ops[j]? with
    | some o => o.after.any fun e => Region.binds md e && (e.on == i || anc md ops i f e.on)
    | none => false
def closedB (md : Region.Mode) (ops : Array Oper) (listed : Array Bool) : Bool :=
  (List.range ops.size).all fun j => match ops[j]? with
    | some o => !(listed.getD j false) || o.after.all fun e => !(Region.binds md e) || listed.getD e.on false
    | none => true
def Closed (md : Region.Mode) (ops : Array Oper) (listed : Array Bool) : Prop := ∀ (j : Nat) (o : Oper), ops[j]? = some o → listed.getD j false = true → ∀ e ∈ o.after, Region.binds md e = true → listed.getD e.on false = true
theorem closed_of {listed : Array Bool} (h : closedB md ops listed = true) : Closed md ops listed := fun j o ho hl e he hb => by
  unfold closedB at h
  rw [List.all_eq_true] at h
  have hj : j < ops.size := by
    rcases Nat.lt_or_ge j ops.size with h1 | h1
    · exact h1
    · rw [Array.getElem?_eq_none h1] at ho; cases ho
  have h1 := h j (List.mem_range.mpr hj)
  rw [ho] at h1
  dsimp only at h1
  rw [hl] at h1
  simp only [Bool.not_true, Bool.false_or] at h1
  rw [Array.all_eq_true_iff_forall_mem] at h1
  have h2 := h1 e he
  rw [hb] at h2
  simpa using h2
theorem Closed.set {listed : Array Bool} {i : Nat} (h : Closed md ops listed) (hr : i ∈ Region.ready md ops listed) : Closed md ops (listed.setIfInBounds i true) := fun j o ho hl e he hb => by
  by_cases hji : i = j
  · subst hji
    obtain ⟨-, o', ho', hall⟩ := mem_ready.1 hr
    rw [ho] at ho'
    cases ho'
    exact getD_set_true (hall e he hb)
  · rw [getD_set_ne false hji] at hl
    exact getD_set_true (h j o ho hl e he hb)
theorem anc_unlisted {listed : Array Bool} {i : Nat} (h : Closed md ops listed) (hi : listed.getD i false = false) : ∀ (f j : Nat), anc md ops i f j = true → listed.getD j false = false
  | 0, j, ha => by cases ha
  | f + 1, j, ha => by
    unfold anc at ha
    cases ho : ops[j]? with
    | none => rw [ho] at ha; cases ha
    | some o =>
      rw [ho] at ha
      dsimp only at ha
      rw [Array.any_eq_true'] at ha
      obtain ⟨e, he, hb⟩ := ha
      rw [Bool.and_eq_true, Bool.or_eq_true] at hb
      cases hl : listed.getD j false with
      | false => rfl
      | true =>
        have h1 := h j o ho hl e he hb.1
        rcases hb.2 with h2 | h2
        · have e2 : e.on = i := by simpa using h2
          rw [e2, hi] at h1
          cases h1
        · rw [anc_unlisted h hi f e.on h2] at h1
          cases h1
theorem anc_not_ready {listed : Array Bool} {i j f : Nat} (h : Closed md ops listed) (hi : listed.getD i false = false) (ha : anc md ops i f j = true) : j ∉ Region.ready md ops listed := fun hr => by
  have h1 := h.set hr
  obtain ⟨-, o, ho, hall⟩ := mem_ready.1 hr
  cases f with
  | zero => cases ha
  | succ f =>
    unfold anc at ha
    rw [ho] at ha
    dsimp only at ha
    rw [Array.any_eq_true'] at ha
    obtain ⟨e, he, hb⟩ := ha
    rw [Bool.and_eq_true, Bool.or_eq_true] at hb
    have h2 := hall e he hb.1
    rcases hb.2 with h3 | h3
    · have e2 : e.on = i := by simpa using h3
      rw [e2, hi] at h2
      cases h2
    · rw [anc_unlisted h hi f e.on h3] at h2
      cases h2
def wpAnyT (P : Program) (md : Region.Mode) (ops : Array Oper) (Q : Exit → Act → World → Prop) (S : World → Prop) (T : Nat → Bool) : Nat → Array Bool → Act → World → Prop
  | 0, listed, a, w => Region.ready md ops listed = [] ∧ Q .normal a w
  | fuel + 1, listed, a, w =>
    (Region.ready md ops listed = [] → Q .normal a w) ∧
    ∀ i ∈ Region.ready md ops listed, wpOp P ops Q i (fun a' w' => (T i = false → S w') ∧ wpAnyT P md ops Q S T fuel (listed.setIfInBounds i true) a' w') a w
theorem wpAny_of_T : ∀ (fuel : Nat) (listed : Array Bool) (a : Act) (w : World), wpAnyT P md ops Q S T fuel listed a w → wpAny P md ops Q fuel listed a w
  | 0, _, _, _, h => h
  | fuel + 1, _, _, _, h => ⟨h.1, fun i hi => wpOp_mono (fun a' w' h' => wpAny_of_T fuel _ a' w' h'.2) (h.2 i hi)⟩
theorem getD_swap {listed : Array Bool} {i : Nat} (h : listed.getD i true = false) : listed.getD i false = false := by
  rcases Nat.lt_or_ge i listed.size with h' | h'
  · simp [h'] at h ⊢; exact h
  · simp [Array.getElem?_eq_none h'] at h
theorem wpAnyT_first {i : Nat} {oi : Oper} {v : Value} (hi : ops[i]? = some oi) (hsel : ∀ (j : Nat) (o : Oper) cs b, ops[j]? = some o → o.op ≠ .select cs b)
    (hQ : ∀ c a w, Q (.panic c) (a.put oi.dst v) w → Q (.panic c) a w) (hT : ∀ j, T j = true → anc md ops i ops.size j = true) :
    ∀ (fuel : Nat) (listed : Array Bool) (a : Act) (w : World), Closed md ops listed →
      (∀ j oj, ops[j]? = some oj → j ≠ i → listed.getD j true = false → (∀ e ∈ oj.after, Region.binds md e = true → e.on ≠ i) → oi.apart ops oj = true) →
      i ∈ Region.ready md ops listed → YieldsIf P ops S oi v a → S w →
      wpAnyT P md ops Q S T fuel (listed.setIfInBounds i true) (a.put oi.dst v) w → wpAnyT P md ops Q S T (fuel + 1) listed a w := by
  intro fuel
  induction fuel with
  | zero =>
    intro listed a w _ _ hr hy hS H
    refine ⟨fun h => (by rw [h] at hr; cases hr), fun j hj => ?_⟩
    by_cases hji : j = i
    · subst hji; exact hy.wpOp hi hS ⟨fun _ => hS, H⟩
    · have := ready_mono hj hji
      rw [H.1] at this
      cases this
  | succ fuel ih =>
    intro listed a w hcl hfree hr hy hS H
    refine ⟨fun h => (by rw [h] at hr; cases hr), fun j hj => ?_⟩
    by_cases hji : j = i
    · subst hji; exact hy.wpOp hi hS ⟨fun _ => hS, H⟩
    · have h1 := H.2 j (ready_mono hj hji)
      have hli := getD_swap (mem_ready.1 hr).1
      have hTj : T j = false := by
        cases hb : T j with
        | false => rfl
        | true => exact absurd hj (anc_not_ready hcl hli (hT j hb))
      obtain ⟨hjun, oj, hoj, hall⟩ := mem_ready.1 hj
      have hnot : ∀ e ∈ oj.after, Region.binds md e = true → e.on ≠ i := fun e he hb heq => by
        have h1 := hall e he hb
        rw [heq, hli] at h1
        cases h1
      have h2 := wpOp_putIf hoj (hfree j oj hoj hji hjun hnot) (fun cs b => hsel i oi cs b hi) (fun cs b => hsel j oj cs b hoj) hQ hy h1
      have hfree' : ∀ k ok, ops[k]? = some ok → k ≠ i → (listed.setIfInBounds j true).getD k true = false →
          (∀ e ∈ ok.after, Region.binds md e = true → e.on ≠ i) → oi.apart ops ok = true := fun k ok hk hki hun hno => by
        refine hfree k ok hk hki ?_ hno
        by_cases hjk : j = k
        · subst hjk; exact hjun
        · rw [getD_set_ne true hjk] at hun; exact hun
      refine wpOp_mono (fun a' w' h3 => ⟨h3.2.1, ih (listed.setIfInBounds j true) a' w' (hcl.set hj) hfree' (ready_mono hr (Ne.symm hji)) h3.1 (h3.2.1 hTj) ?_⟩) h2
      rw [Array.setIfInBounds_comm _ _ hji]
      exact h3.2.2
theorem wpAnyT_take {i : Nat} {oi : Oper} {v : Value} {fuel : Nat} {listed : Array Bool} {a : Act} {w : World} (hi : ops[i]? = some oi)
    (hs : Region.noSelect ops = true) (hf : Region.free md ops listed i = true) (hr : (Region.ready md ops listed).contains i = true) (hcl : closedB md ops listed = true)
    (hT : ∀ j, T j = true → anc md ops i ops.size j = true)
    (hQ : ∀ c a w, Q (.panic c) (a.put oi.dst v) w → Q (.panic c) a w) (hy : YieldsIf P ops S oi v a) (hS : S w)
    (h : wpAnyT P md ops Q S T fuel (listed.setIfInBounds i true) (a.put oi.dst v) w) : wpAnyT P md ops Q S T (fuel + 1) listed a w :=
  wpAnyT_first hi (Region.noSelect_spec hs) hQ hT fuel listed a w (closed_of hcl) (Region.free_spec hi hf) (by simpa using hr) hy hS h
theorem wpAnyT_done {listed : Array Bool} {a : Act} {w : World} (hr : Region.ready md ops listed = []) (h : Q .normal a w) :
    ∀ fuel, wpAnyT P md ops Q S T fuel listed a w
  | 0 => ⟨hr, h⟩
  | _ + 1 => ⟨fun _ => h, by rw [hr]; simp⟩
def AllReadyT (P : Program) (md : Region.Mode) (ops : Array Oper) (Q : Exit → Act → World → Prop) (S : World → Prop) (T : Nat → Bool) (fuel : Nat) (listed : Array Bool) (a : Act) (w : World) (rs : List Nat) : Prop :=
  ∀ i ∈ rs, wpOp P ops Q i (fun a' w' => (T i = false → S w') ∧ wpAnyT P md ops Q S T fuel (listed.setIfInBounds i true) a' w') a w
theorem AllReadyT.nil {fuel : Nat} {listed : Array Bool} {a : Act} {w : World} : AllReadyT P md ops Q S T fuel listed a w [] := fun _ h => by cases h
theorem AllReadyT.cons {fuel : Nat} {listed : Array Bool} {a : Act} {w : World} {i : Nat} {o : Oper} {rs : List Nat} (ho : ops[i]? = some o)
    (h : ∀ K' : Act → World → Prop, Shut (∀ a w, (T i = false → S w) → wpAnyT P md ops Q S T fuel (listed.setIfInBounds i true) a w → K' a w) → if Region.wanted o (yielded ops a.tmps) = true then Oper.wp P o a w K' Q else K' (a.put o.dst undef) w)
    (hs : AllReadyT P md ops Q S T fuel listed a w rs) : AllReadyT P md ops Q S T fuel listed a w (i :: rs) := fun j hj => by
  rcases List.mem_cons.1 hj with rfl | hj
  · exact wpOp_step ho (fun K' hK => h K' (fun a w hS hW => hK a w ⟨hS, hW⟩))
  · exact hs j hj
theorem wpAnyT_ready {rs : List Nat} {fuel : Nat} {listed : Array Bool} {a : Act} {w : World} (hr : Region.ready md ops listed = rs) (hne : rs ≠ [])
    (h : AllReadyT P md ops Q S T fuel listed a w rs) : wpAnyT P md ops Q S T (fuel + 1) listed a w := ⟨fun h0 => absurd (hr ▸ h0) hne, hr ▸ h⟩
end
end Go.Proofs.YtcapddcmnjeloaaGreatDoor
end

section
/-
  A region that draws its order and stores, at its end, into cells that it loads: outside of a fence. No function of the program is named.
-/
namespace Go.Proofs.YtcapddcmnjeloaaGreatDoor
theorem one_only {p : Nat → Prop} (a : Nat) (ha : p a) : ∀ j, (j == a) = true → p j := fun j hj => by
  rw [beq_iff_eq] at hj
  subst hj
  exact ha
theorem wp_region_T {P : Program} {id : Nat} {ops : Array Oper} {Q : Exit → Act → World → Prop} {S : World → Prop} {T : Nat → Bool} {a : Act} {w : World} (hm : P.follows .mixedOrders = true) (hS : S w.drew)
    (h : S w.drew → wpAnyT P .any ops Q S T ops.size (Array.replicate ops.size false) a w.drew) : (Code.region id ops true).wp P Q a w := wp_region_any hm (wpAny_of_T _ _ _ _ (h hS))
end Go.Proofs.YtcapddcmnjeloaaGreatDoor
end

section
/-
  Chapter 11, in the model: a column replaced.
-/
namespace Go.Proofs.YtcapddcmnjeloaaGreatDoor
set_option maxRecDepth 100000
open Go.RowKit
def rcTo (n : Nat) (xs bs : List Int) (j i : Nat) : List Int := tab n n fun p q => if q = j ∧ p < i then bs.getD p 0 else xs.getD (p * n + q) 0
theorem rcTo_length (n : Nat) (xs bs : List Int) (j i : Nat) : (rcTo n xs bs j i).length = n * n := tab_length _ _ _
theorem rcTo_zero {n : Nat} {xs : List Int} (hx : xs.length = n * n) (bs : List Int) (j : Nat) : rcTo n xs bs j 0 = xs := by
  refine (tab_ext hx fun p q _ _ => ?_).symm
  rw [if_neg (fun h => by omega)]
theorem rcTo_all (n : Nat) (xs bs : List Int) (j : Nat) : rcTo n xs bs j n = rcL n xs bs j := by
  unfold rcTo rcL
  refine tab_ext (tab_length _ _ _) fun p q hp hq => ?_
  rw [tab_at _ _ _ hp hq]
  by_cases h : q = j
  · rw [if_pos h, if_pos ⟨h, hp⟩]
  · rw [if_neg h, if_neg (fun e => h e.1)]
theorem rcTo_step {n i j : Nat} (xs bs : List Int) (hi : i < n) (hj : j < n) : (rcTo n xs bs j i).set (i * n + j) (bs.getD i 0) = rcTo n xs bs j (i + 1) := set_tab hi hj (by show (if j = j ∧ i < i + 1 then _ else _) = _; rw [if_pos ⟨rfl, by omega⟩]) fun p q _ _ h => by
  by_cases e : q = j ∧ p < i
  · rw [if_pos e, if_pos ⟨e.1, by omega⟩]
  · rw [if_neg e, if_neg fun h2 => by
      rcases Nat.lt_or_ge p i with h3 | h3
      · exact e ⟨h2.1, h3⟩
      · exact h ⟨by omega, h2.1⟩]
theorem repF {W w' : World} {b g : Nat} {t t2 : TypeId} {p q r s1 s2 s3 v : Value} {x : Addr} (h0 : Blk3 W b t p q r) (h1 : Blk3 W g t2 s1 s2 s3) (hx : W.cell? x = some v) (hb : Below W.heap.size W w') :
    w'.cell? ⟨b, 0, none⟩ = some p ∧ w'.cell? ⟨b, 1, none⟩ = some q ∧ w'.cell? ⟨b, 2, none⟩ = some r ∧ w'.cell? ⟨g, 0, none⟩ = some s1 ∧ w'.cell? ⟨g, 1, none⟩ = some s2 ∧ w'.cell? ⟨g, 2, none⟩ = some s3 ∧ w'.cell? x = some v := by
  obtain ⟨a1, a2, a3, -, -, -⟩ := (h0.step hb).all
  obtain ⟨b1, b2, b3, -, -, -⟩ := (h1.step hb).all
  exact ⟨a1, a2, a3, b1, b2, b3, (hb.cell (World.block_lt_of_cell? W x hx)).trans hx⟩
set_option maxHeartbeats 4000000 in
theorem sRepl (n j : Nat) (a : Option Addr) (m : Nat) (xs : List Int) (ab : Option Addr) (mb : Nat) (bs : List Int) (w : World) (h : Rd w a xs) (ha : Spot a) (hx : xs.length = n * n) (hb : Rd w ab bs) (hbl : bs.length = n) (hj : j < n) (h6 : n ≤ 6) :
    Calls Tryz.prog 39 #[.agg #[.int .i64 n, .int .i64 n, .slice a (n * n) m], .int .i64 j, .slice ab n mb] w fun e w' => ∃ g cap : Nat, e = .returned (.agg #[.int .i64 n, .int .i64 n, .slice (some ⟨g, 0, none⟩) (n * n) cap]) ∧ w.heap.size ≤ g ∧ Ints w' g (rcL n xs bs j) ∧ Below w.heap.size w w' := by
  have N36 : n * n ≤ 36 := Nat.mul_le_mul h6 h6
  have CP : Hid (∀ w', Below w.heap.size w w' → Calls Tryz.prog 80 #[.agg #[.int .i64 n, .int .i64 n, .slice a (n * n) m]] w' (fun e w2 => ∃ g cap : Nat, e = .returned (.agg #[.int .i64 n, .int .i64 n, .slice (some ⟨g, 0, none⟩) (n * n) cap]) ∧ w'.heap.size ≤ g ∧ IntsC w2 g cap xs ∧ Below w'.heap.size w' w2)) := fun w' hb => sCopyA n n a m (n * n) xs w' (h.below hb) ha hx (by omega)
  have IY : Hid (∀ i, i < n → i * n + j < n * n ∧ IntKind.i64.wrap ((i : Int) * (n : Int)) = (i : Int) * (n : Int) ∧ IntKind.i64.wrap ((i : Int) * (n : Int) + (j : Int)) = ((i * n + j : Nat) : Int)) := fun i hi => by
    have h1 : i * n + j < n * n := idx_lt hi hj
    have c1 : (i : Int) * (n : Int) = ((i * n : Nat) : Int) := (Int.natCast_mul _ _).symm
    refine ⟨by omega, IntWalk.i64_in _ (by rw [c1]; omega), ?_⟩
    rw [show (i : Int) * (n : Int) + (j : Int) = ((i * n + j : Nat) : Int) by rw [c1]; omega]
    exact IntWalk.i64_in _ (by omega)
  have R0 : Hid (rcTo n xs bs j 0 = xs) := rcTo_zero hx bs j
  have RA := Lib.hid (rcTo_all n xs bs j)
  have RS : Hid (∀ i, i < n → (rcTo n xs bs j i).set (i * n + j) (bs.getD i 0) = rcTo n xs bs j (i + 1)) := fun i hi => rcTo_step xs bs hi hj
  have RL : Hid (∀ i, (rcTo n xs bs j i).length = n * n) := fun i => rcTo_length n xs bs j i
  have RB : Hid (Rd w ab bs) := hb
  have XB := Lib.hid hbl
  obtain ⟨N, hN⟩ : ∃ N, n * n = N := ⟨_, rfl⟩
  rw [hN] at CP IY RL N36 ⊢
  clear h hb hx hbl hN
  go_enter Tryz.func39, Tryz.ntmps39
  go_wp2_with fail
  have K3 : Hid (Blk3 ((w.alloc (.cells #[.int .i64 n, .int .i64 n, .slice a N m] 26)).alloc (.cells #[.int .i64 0, .int .i64 0, .slice none 0 0] 26)) w.heap.size 26 (.int .i64 n) (.int .i64 n) (.slice a N m)) := (Blk3.at_ _ _ _ _ rfl).old _
  have K6 : Hid (Blk3 ((w.alloc (.cells #[.int .i64 n, .int .i64 n, .slice a N m] 26)).alloc (.cells #[.int .i64 0, .int .i64 0, .slice none 0 0] 26)) (w.heap.size + 1) 26 (.int .i64 0) (.int .i64 0) (.slice none 0 0)) := Blk3.at_ _ _ _ _ (by simp)
  have B0 : Hid (Below w.heap.size w ((w.alloc (.cells #[.int .i64 n, .int .i64 n, .slice a N m] 26)).alloc (.cells #[.int .i64 0, .int .i64 0, .slice none 0 0] 26))) := ((Below.refl _ _).alloc (Nat.le_refl _) _).alloc (by simp) _
  generalize (w.alloc (.cells #[.int .i64 n, .int .i64 n, .slice a N m] 26)).alloc (.cells #[.int .i64 0, .int .i64 0, .slice none 0 0] 26) = W at K3 K6 B0 ⊢
  refine (CP.out _ B0.out).mono ?_
  rintro e w1 ⟨g, cap, rfl, hg, hi, hb1⟩
  have l3 := K3.out.lt
  have l6 := K6.out.lt
  have lg := hi.ints.lt
  have I1 : Hid (Ints (w1.alloc (.cells #[.int .i64 n, .int .i64 n, .slice (some ⟨g, 0, none⟩) N cap] 26)) g (rcTo n xs bs j 0)) := by refine Lib.hid ?_; rw [R0.out]; exact hi.ints.move (Below.heap_alloc _ _ _ lg)
  have K3 := Lib.hid ((K3.out.step hb1).old (.cells #[.int .i64 n, .int .i64 n, .slice (some ⟨g, 0, none⟩) N cap] 26))
  have K6 := Lib.hid ((K6.out.step hb1).old (.cells #[.int .i64 n, .int .i64 n, .slice (some ⟨g, 0, none⟩) N cap] 26))
  have K7 : Hid (Blk3 (w1.alloc (.cells #[.int .i64 n, .int .i64 n, .slice (some ⟨g, 0, none⟩) N cap] 26)) w1.heap.size 26 (.int .i64 n) (.int .i64 n) (.slice (some ⟨g, 0, none⟩) N cap)) := Blk3.at_ _ _ _ _ rfl
  have s1 := hb1.size
  have B1 := Lib.hid ((B0.out.trans (hb1.mono B0.out.size)).alloc (by have := B0.out.size; omega) (.cells #[.int .i64 n, .int .i64 n, .slice (some ⟨g, 0, none⟩) N cap] 26))
  have sW := B0.out.size
  clear hi hb1 B0
  obtain ⟨b7, hb7⟩ : ∃ b7, w1.heap.size = b7 := ⟨_, rfl⟩
  have n7 : b7 ≠ g := by omega
  have n3 : w.heap.size ≠ g := by omega
  have n6 : w.heap.size + 1 ≠ g := by omega
  go_wp2_with fail
  rw [hb7] at K7
  generalize w1.alloc (.cells #[.int .i64 n, .int .i64 n, .slice (some ⟨g, 0, none⟩) N cap] 26) = W1 at I1 K3 K6 K7 B1 ⊢
  clear hb7 l3 l6 s1
  go_loopw [8] (fun v8 wr => ∃ i : Nat, v8 = .int .i64 i ∧ i ≤ n ∧ Ints wr g (rcTo n xs bs j i) ∧ Blk3 wr w.heap.size 26 (.int .i64 n) (.int .i64 n) (.slice a N m) ∧ Blk3 wr (w.heap.size + 1) 26 (.int .i64 0) (.int .i64 0) (.slice none 0 0) ∧ Blk3 wr b7 26 (.int .i64 n) (.int .i64 n) (.slice (some ⟨g, 0, none⟩) N cap) ∧ Below w.heap.size w wr) (fun v8 _ => n - (intOf v8).toNat)
  case atStart => exact ⟨0, rfl, by omega, I1.out, K3.out, K6.out, K7.out, B1.out⟩
  case round =>
    clear I1 K3 K6 K7 B1
    obtain ⟨i, rfl, hi, hI, h3, h6', h7, hB⟩ := hrel
    have I := Lib.hid hI
    have K3 := Lib.hid h3
    have K6 := Lib.hid h6'
    have K7 := Lib.hid h7
    have BO := Lib.hid hB
    clear hI h3 h6' h7 hB
    obtain ⟨p0, p1, p2, -, -, -⟩ := K3.out.all
    by_cases hlt : i < n
    · obtain ⟨x1, x2, x3⟩ := IY.out i hlt
      obtain ⟨b2, o2, rfl, hc2⟩ := (RB.out.below BO.out) i (by rw [XB.out]; exact hlt)
      have SS := Lib.hid (RS.out i hlt)
      obtain ⟨x, hxx⟩ : ∃ x, bs.getD i 0 = x := ⟨_, rfl⟩
      obtain ⟨P, hP⟩ : ∃ P, i * n + j = P := ⟨_, rfl⟩
      rw [hxx] at hc2 SS
      rw [hP] at x1 x3 SS
      have X1 := Lib.hid hc2
      have P0 : (0 : Int) ≤ (P : Int) := by omega
      have P1 : (P : Int) < (N : Int) := by omega
      have i1 : (i : Int) < (n : Int) := by omega
      have j1 : (j : Int) < (n : Int) := by omega
      clear hc2 hxx hP
      go_wp2_with fail
      refine wp_region_T (S := fun w' => Below wr.heap.size wr w') (T := fun j => j == 13) (by kernel_rfl) (Below.refl _ _).drew (fun hH => ?_)
      refine wpAnyT_take (i := 0) (v := ?_) (by simp only [List.getElem?_toArray, List.getElem?_cons_zero]; rfl) (by kernel_rfl) (by kernel_rfl) (by kernel_rfl) (by kernel_rfl) (one_only 13 (by kernel_rfl)) (by exact fun _ _ _ h => h) (Or.inl ⟨by rfl, ?_⟩) hH ?_
      rotate_left
      · (intro wS hS; clear hS; go_simp; try rfl)
      try simp only [Act.put, List.setIfInBounds_toArray, List.set_cons_zero, List.set_cons_succ]
      refine wpAnyT_take (i := 1) (v := ?_) (by simp only [List.getElem?_toArray, List.getElem?_cons_succ, List.getElem?_cons_zero]; rfl) (by kernel_rfl) (by kernel_rfl) (by kernel_rfl) (by kernel_rfl) (one_only 13 (by kernel_rfl)) (by exact fun _ _ _ h => h) (Or.inl ⟨by rfl, ?_⟩) hH ?_
      rotate_left
      · (intro wS hS; (try dsimp only at hS); obtain ⟨k1, k2, k3, k4, k5, k6, k7⟩ := repF K3.out K7.out X1.out hS; go_simp; try rfl)
      try simp only [Act.put, List.setIfInBounds_toArray, List.set_cons_zero, List.set_cons_succ]
      refine wpAnyT_take (i := 2) (v := ?_) (by simp only [List.getElem?_toArray, List.getElem?_cons_succ, List.getElem?_cons_zero]; rfl) (by kernel_rfl) (by kernel_rfl) (by kernel_rfl) (by kernel_rfl) (one_only 13 (by kernel_rfl)) (by exact fun _ _ _ h => h) (Or.inl ⟨by rfl, ?_⟩) hH ?_
      rotate_left
      · (intro wS hS; clear hS; go_simp; try rfl)
      try simp only [Act.put, List.setIfInBounds_toArray, List.set_cons_zero, List.set_cons_succ]
      refine wpAnyT_take (i := 3) (v := ?_) (by simp only [List.getElem?_toArray, List.getElem?_cons_succ, List.getElem?_cons_zero]; rfl) (by kernel_rfl) (by kernel_rfl) (by kernel_rfl) (by kernel_rfl) (one_only 13 (by kernel_rfl)) (by exact fun _ _ _ h => h) (Or.inl ⟨by rfl, ?_⟩) hH ?_
      rotate_left
      · (intro wS hS; clear hS; go_simp; try rfl)
      try simp only [Act.put, List.setIfInBounds_toArray, List.set_cons_zero, List.set_cons_succ]
      refine wpAnyT_take (i := 4) (v := ?_) (by simp only [List.getElem?_toArray, List.getElem?_cons_succ, List.getElem?_cons_zero]; rfl) (by kernel_rfl) (by kernel_rfl) (by kernel_rfl) (by kernel_rfl) (one_only 13 (by kernel_rfl)) (by exact fun _ _ _ h => h) (Or.inl ⟨by rfl, ?_⟩) hH ?_
      rotate_left
      · (intro wS hS; (try dsimp only at hS); obtain ⟨k1, k2, k3, k4, k5, k6, k7⟩ := repF K3.out K7.out X1.out hS; go_simp; try rfl)
      try simp only [Act.put, List.setIfInBounds_toArray, List.set_cons_zero, List.set_cons_succ]
      refine wpAnyT_take (i := 5) (v := ?_) (by simp only [List.getElem?_toArray, List.getElem?_cons_succ, List.getElem?_cons_zero]; rfl) (by kernel_rfl) (by kernel_rfl) (by kernel_rfl) (by kernel_rfl) (one_only 13 (by kernel_rfl)) (by exact fun _ _ _ h => h) (Or.inl ⟨by rfl, ?_⟩) hH ?_
      rotate_left
      · (intro wS hS; clear hS; go_simp; try rfl)
      try simp only [Act.put, List.setIfInBounds_toArray, List.set_cons_zero, List.set_cons_succ]
      refine wpAnyT_take (i := 6) (v := ?_) (by simp only [List.getElem?_toArray, List.getElem?_cons_succ, List.getElem?_cons_zero]; rfl) (by kernel_rfl) (by kernel_rfl) (by kernel_rfl) (by kernel_rfl) (one_only 13 (by kernel_rfl)) (by exact fun _ _ _ h => h) (Or.inl ⟨by rfl, ?_⟩) hH ?_
      rotate_left
      · (intro wS hS; clear hS; go_simp; try rfl)
      try simp only [Act.put, List.setIfInBounds_toArray, List.set_cons_zero, List.set_cons_succ]
      refine wpAnyT_take (i := 7) (v := ?_) (by simp only [List.getElem?_toArray, List.getElem?_cons_succ, List.getElem?_cons_zero]; rfl) (by kernel_rfl) (by kernel_rfl) (by kernel_rfl) (by kernel_rfl) (one_only 13 (by kernel_rfl)) (by exact fun _ _ _ h => h) (Or.inl ⟨by rfl, ?_⟩) hH ?_
      rotate_left
      · (intro wS hS; clear hS; go_simp; try rfl)
      try simp only [Act.put, List.setIfInBounds_toArray, List.set_cons_zero, List.set_cons_succ]
      refine wpAnyT_take (i := 8) (v := ?_) (by simp only [List.getElem?_toArray, List.getElem?_cons_succ, List.getElem?_cons_zero]; rfl) (by kernel_rfl) (by kernel_rfl) (by kernel_rfl) (by kernel_rfl) (one_only 13 (by kernel_rfl)) (by exact fun _ _ _ h => h) (Or.inl ⟨by rfl, ?_⟩) hH ?_
      rotate_left
      · (intro wS hS; clear hS; go_simp; try rfl)
      try simp only [Act.put, List.setIfInBounds_toArray, List.set_cons_zero, List.set_cons_succ]
      refine wpAnyT_take (i := 9) (v := ?_) (by simp only [List.getElem?_toArray, List.getElem?_cons_succ, List.getElem?_cons_zero]; rfl) (by kernel_rfl) (by kernel_rfl) (by kernel_rfl) (by kernel_rfl) (one_only 13 (by kernel_rfl)) (by exact fun _ _ _ h => h) (Or.inl ⟨by rfl, ?_⟩) hH ?_
      rotate_left
      · (intro wS hS; clear hS; go_simp; try rfl)
      try simp only [Act.put, List.setIfInBounds_toArray, List.set_cons_zero, List.set_cons_succ]
      refine wpAnyT_take (i := 10) (v := ?_) (by simp only [List.getElem?_toArray, List.getElem?_cons_succ, List.getElem?_cons_zero]; rfl) (by kernel_rfl) (by kernel_rfl) (by kernel_rfl) (by kernel_rfl) (one_only 13 (by kernel_rfl)) (by exact fun _ _ _ h => h) (Or.inl ⟨by rfl, ?_⟩) hH ?_
      rotate_left
      · (intro wS hS; clear hS; go_simp; try rfl)
      try simp only [Act.put, List.setIfInBounds_toArray, List.set_cons_zero, List.set_cons_succ]
      refine wpAnyT_take (i := 11) (v := ?_) (by simp only [List.getElem?_toArray, List.getElem?_cons_succ, List.getElem?_cons_zero]; rfl) (by kernel_rfl) (by kernel_rfl) (by kernel_rfl) (by kernel_rfl) (one_only 13 (by kernel_rfl)) (by exact fun _ _ _ h => h) (Or.inl ⟨by rfl, ?_⟩) hH ?_
      rotate_left
      · (intro wS hS; (try dsimp only at hS); obtain ⟨k1, k2, k3, k4, k5, k6, k7⟩ := repF K3.out K7.out X1.out hS; go_simp; try rfl)
      try simp only [Act.put, List.setIfInBounds_toArray, List.set_cons_zero, List.set_cons_succ]
      refine wpAnyT_take (i := 12) (v := ?_) (by simp only [List.getElem?_toArray, List.getElem?_cons_succ, List.getElem?_cons_zero]; rfl) (by kernel_rfl) (by kernel_rfl) (by kernel_rfl) (by kernel_rfl) (one_only 13 (by kernel_rfl)) (by exact fun _ _ _ h => h) (Or.inl ⟨by rfl, ?_⟩) hH ?_
      rotate_left
      · (intro wS hS; clear hS; go_simp; try rfl)
      try simp only [Act.put, List.setIfInBounds_toArray, List.set_cons_zero, List.set_cons_succ]
      refine wpAnyT_ready (rs := [13]) (by kernel_rfl) (by simp) ?_
      refine AllReadyT.cons (by simp only [List.getElem?_toArray, List.getElem?_cons_succ, List.getElem?_cons_zero]; rfl) (fun K hK => ?_) AllReadyT.nil
      have GI := Lib.hid (I.out.keep hH I.out.lt)
      have gc := GI.out.cell (i := P) (by rw [RL.out]; omega)
      have gf := GI.out.free P
      go_simp
      try dsimp only
      refine hK.out _ _ (fun h => by cases h) ?_
      clear hK K
      try simp only [Act.put, List.setIfInBounds_toArray, List.set_cons_zero, List.set_cons_succ]
      refine wpAnyT_done (by kernel_rfl) ?_ _
      go_wp2_with fail
      go_roundw
      case rel =>
        refine ⟨i + 1, by go_num, by omega, ?_, K3.out.drewN 1 |>.far n3 _, K6.out.drewN 1 |>.far n6 _, K7.out.drewN 1 |>.far n7 _, ?_⟩
        · rw [← SS.out]
          exact (I.out.keep hH I.out.lt).set P x
        · exact (BO.out.trans (hH.mono BO.out.size)).setCell (by show w.heap.size ≤ g; omega) _
      case measure => simp [intOf]; omega
    · obtain rfl : i = n := by omega
      obtain ⟨q0, q1, q2, q3, q4, q5⟩ := K6.out.all
      obtain ⟨y0, y1, y2, -, -, -⟩ := K7.out.all
      go_wp2_with fail
      obtain ⟨E0, E1, E2, -, -, -⟩ := (K6.out.set3 (.int .i64 i) (.int .i64 i) (.slice (some ⟨g, 0, none⟩) N cap)).all
      refine bodyPost_ret (v := .agg #[.int .i64 i, .int .i64 i, .slice (some ⟨g, 0, none⟩) N cap]) (by simp [results, Tryz.results39, go_sem, E0, E1, E2]) rfl ⟨g, cap, rfl, by omega, ?_, ?_⟩
      · rw [← RA.out]
        exact ((I.out.far (fun e => n6 e.symm) _).far (fun e => n6 e.symm) _).far (fun e => n6 e.symm) _
      · exact ((BO.out.setCell (by show w.heap.size ≤ w.heap.size + 1; omega) _).setCell (by show w.heap.size ≤ w.heap.size + 1; omega) _).setCell (by show w.heap.size ≤ w.heap.size + 1; omega) _
end Go.Proofs.YtcapddcmnjeloaaGreatDoor
end

section
/-
  Ratios as a list, a slice that shows them, a block that holds them. Nothing of a program is used but its types.
-/
namespace Go.Proofs.YtcapddcmnjeloaaGreatDoor
open Go.RowKit
def RdQ (w : World) (a : Option Addr) (l : List (Int × Int)) : Prop :=
  ∀ q : Nat, q < l.length → ∃ b o : Nat, a = some ⟨b, o, none⟩ ∧ b < w.heap.size ∧ w.cell? ⟨b, o + q * 2, none⟩ = some (.int .i64 (l.getD q (0, 0)).1) ∧ w.cell? ⟨b, o + q * 2 + 1, none⟩ = some (.int .i64 (l.getD q (0, 0)).2)
theorem RdQ.below {w w' : World} {a : Option Addr} {l : List (Int × Int)} (h : RdQ w a l) (hb : Below w.heap.size w w') : RdQ w' a l := fun q hq => by
  obtain ⟨b, o, e, hl, h0, h1⟩ := h q hq
  have c : ∀ x : Nat, w'.cell? ⟨b, x, none⟩ = w.cell? ⟨b, x, none⟩ := fun x => (bcell hb).1 b x hl
  exact ⟨b, o, e, Nat.lt_of_lt_of_le hl hb.size, by rw [c]; exact h0, by rw [c]; exact h1⟩
theorem RdQ.nil (w : World) (a : Option Addr) : RdQ w a [] := fun q h => absurd h (by simp)
def flatQ (l : List (Int × Int)) : List Value := l.flatMap fun u => [.int .i64 u.1, .int .i64 u.2]
theorem info_rat : (Tryz.prog.info? 40).map (fun i => (i.zero, i.size, i.bytes)) = some (some (.agg #[.int .i64 0, .int .i64 0]), 2, 16) := by kernel_rfl
theorem underlying_rats : Tryz.prog.underlying 29 = some (.slice 40) := by kernel_rfl
theorem facts_rat : ∃ i, Tryz.prog.info? 40 = some i ∧ i.zero = some (.agg #[.int .i64 0, .int .i64 0]) ∧ i.size = 2 ∧ i.bytes = 16 := by
  have h := info_rat
  cases hi : Tryz.prog.info? 40 with
  | none => rw [hi] at h; simp at h
  | some i => rw [hi] at h; simp only [Option.map_some, Option.some.injEq, Prod.mk.injEq] at h; exact ⟨i, rfl, h.1, h.2.1, h.2.2⟩
theorem flatQ_length (l : List (Int × Int)) : (flatQ l).length = l.length * 2 := by
  induction l with
  | nil => rfl
  | cons u l ih => rw [show flatQ (u :: l) = [.int .i64 u.1, .int .i64 u.2] ++ flatQ l from rfl, List.length_append, ih]; simp; omega
theorem flatQ_app (l l' : List (Int × Int)) : flatQ (l ++ l') = flatQ l ++ flatQ l' := by unfold flatQ; exact List.flatMap_append
theorem cellsQ_new (w : World) (t : TypeId) (p q : Value) : ∀ j u, [p, q][j]? = some u → (w.alloc (.cells #[p, q] t)).cell? ((⟨w.heap.size, 0, none⟩ : Addr).add j) = some u := by
  intro j u hu
  obtain ⟨c0, c1, -, -⟩ := (Blk2.at_ t p q (rfl : w.heap.size = w.heap.size)).all
  match j, hu with
  | 0, h => simp only [List.getElem?_cons_zero, Option.some.injEq] at h; subst h; exact c0
  | 1, h => simp only [List.getElem?_cons_succ, List.getElem?_cons_zero, Option.some.injEq] at h; subst h; exact c1
  | j + 2, h => simp at h
def QsB (w : World) (g : Nat) (l : List (Int × Int)) : Prop := ∃ rest : List Value, w.heap[g]? = some (.cells (flatQ l ++ rest).toArray 40 (0, 0))
theorem QsB.lt {w : World} {g : Nat} {l : List (Int × Int)} (h : QsB w g l) : g < w.heap.size := by
  obtain ⟨rest, h⟩ := h
  exact lt_of_block h
theorem QsB.free {w : World} {g : Nat} {l : List (Int × Int)} (h : QsB w g l) (i : Nat) : w.frozen? ⟨g, i, none⟩ = false := by
  obtain ⟨rest, h⟩ := h
  simp [World.frozen?, h]
theorem flatQ_cons (u : Int × Int) (l : List (Int × Int)) : flatQ (u :: l) = .int .i64 u.1 :: .int .i64 u.2 :: flatQ l := rfl
theorem flatQ_at (l : List (Int × Int)) (rest : List Value) : ∀ q : Nat, q < l.length →
    (flatQ l ++ rest)[q * 2]? = some (.int .i64 (l.getD q (0, 0)).1) ∧ (flatQ l ++ rest)[q * 2 + 1]? = some (.int .i64 (l.getD q (0, 0)).2) := by
  induction l with
  | nil => intro q h; simp at h
  | cons u l ih =>
    intro q h
    rw [flatQ_cons]
    cases q with
    | zero => exact ⟨rfl, rfl⟩
    | succ q =>
      have := ih q (by simpa using h)
      rw [show (q + 1) * 2 = q * 2 + 2 by omega]
      exact this
theorem QsB.cells {w : World} {g : Nat} {l : List (Int × Int)} (h : QsB w g l) {q : Nat} (hq : q < l.length) :
    w.cell? ⟨g, q * 2, none⟩ = some (.int .i64 (l.getD q (0, 0)).1) ∧ w.cell? ⟨g, q * 2 + 1, none⟩ = some (.int .i64 (l.getD q (0, 0)).2) := by
  obtain ⟨rest, h⟩ := h
  have f := flatQ_at l rest q hq
  have c : ∀ n : Nat, w.cell? ⟨g, n, none⟩ = (flatQ l ++ rest)[n]? := fun n => by simp only [World.cell?, h]; simp
  rw [c, c]
  exact f
theorem QsB.rd {w : World} {g : Nat} {l : List (Int × Int)} (h : QsB w g l) : RdQ w (some ⟨g, 0, none⟩) l := fun q hq => by
  have c := h.cells hq
  refine ⟨g, 0, rfl, h.lt, ?_⟩
  simpa using c
theorem flatQ_set (l : List (Int × Int)) (rest : List Value) (u : Int × Int) : ∀ q : Nat, q < l.length →
    ((flatQ l ++ rest).set (q * 2) (.int .i64 u.1)).set (q * 2 + 1) (.int .i64 u.2) = flatQ (l.set q u) ++ rest := by
  induction l with
  | nil => intro q h; simp at h
  | cons v l ih =>
    intro q h
    cases q with
    | zero => rfl
    | succ q =>
      have := ih q (by simpa using h)
      rw [show (q + 1) * 2 = q * 2 + 2 by omega, List.set_cons_succ, flatQ_cons, flatQ_cons]
      exact congrArg (fun L => Value.int .i64 v.1 :: .int .i64 v.2 :: L) this
theorem setCell_blockQ {w : World} {g : Nat} {L : List Value} {t : TypeId} (h : w.heap[g]? = some (.cells L.toArray t (0, 0))) (n : Nat) (u : Value) : (w.setCell ⟨g, n, none⟩ u).heap[g]? = some (.cells (L.set n u).toArray t (0, 0)) := by
  have hlt := lt_of_block h
  have h' : w.heap[g] = .cells L.toArray t (0, 0) := by simpa [Array.getElem?_eq_getElem hlt] using h
  show (w.heap.modify g _)[g]? = _
  rw [Array.getElem?_eq_getElem (by simpa using hlt), Array.getElem_modify_self, h']
  simp
theorem flatQ_zero_mem (n : Nat) : ∀ x ∈ flatQ (List.replicate n ((0, 0) : Int × Int)), x = .int .i64 0 := by
  intro x hx
  obtain ⟨u, hu, hx⟩ := List.mem_flatMap.mp hx
  obtain rfl := List.eq_of_mem_replicate hu
  simpa using hx
theorem flatQ_zeros (n : Nat) : madeCells #[.int .i64 0, .int .i64 0] (n * 2) = (flatQ (List.replicate n ((0, 0) : Int × Int))).toArray := by
  apply Array.ext
  · simp [madeCells, flatQ_length]
  · intro i h1 h2
    have e : (flatQ (List.replicate n ((0, 0) : Int × Int))).toArray[i] = .int .i64 0 := flatQ_zero_mem n _ (by simp)
    rw [e]
    have h4 : i % 2 = 0 ∨ i % 2 = 1 := by omega
    rcases h4 with h | h <;> simp [madeCells, h]
def OwnR (B : Nat) (w : World) (v : Value) (l : List (Int × Int)) : Prop := w.ownsRow B 40 2 v l.length (flatQ l)
theorem OwnR.form {B : Nat} {w : World} {v : Value} {l : List (Int × Int)} (h : OwnR B w v l) : ∃ a c, v = .slice a l.length c := by
  obtain ⟨h1, ⟨h2, h3⟩ | ⟨g, cap, cur, e, -⟩⟩ := h
  · exact ⟨_, _, by rw [h2, h3]⟩
  · exact ⟨_, _, e⟩
theorem OwnR.empty {B : Nat} {w : World} (hB : B ≤ w.heap.size) : OwnR B (w.alloc (.cells #[] 40)) (.slice (some ⟨w.heap.size, 0, none⟩) 0 0) [] := ⟨rfl, .inr ⟨w.heap.size, 0, #[], rfl, hB, heap_alloc_new w _, Nat.le_refl _, by decide, rfl, rfl⟩⟩
theorem OwnR.nil (B : Nat) (w : World) : OwnR B w (.slice none 0 0) [] := ⟨rfl, .inl ⟨rfl, rfl⟩⟩
theorem OwnR.keep {B : Nat} {w w' : World} {v : Value} {l : List (Int × Int)} (h : OwnR B w v l) (hb : Below w.heap.size w w') : OwnR B w' v l := rows_keep h hb
theorem OwnR.le {B B' : Nat} {w : World} {v : Value} {l : List (Int × Int)} (h : OwnR B w v l) (hB : B' ≤ B) : OwnR B' w v l := by
  obtain ⟨h1, h2 | ⟨g, cap, cur, e, h3, rest⟩⟩ := h
  · exact ⟨h1, .inl h2⟩
  · exact ⟨h1, .inr ⟨g, cap, cur, e, Nat.le_trans hB h3, rest⟩⟩
theorem OwnR.old {B : Nat} {w : World} {v : Value} {l : List (Int × Int)} (h : OwnR B w v l) (o : Obj) : OwnR B (w.alloc o) v l := h.keep ((Below.refl _ _).alloc (Nat.le_refl _) o)
theorem OwnR.blk {B : Nat} {w : World} {v : Value} {l : List (Int × Int)} (h : OwnR B w v l) : (v = .slice none 0 0 ∧ l = []) ∨ ∃ g cap : Nat, v = .slice (some ⟨g, 0, none⟩) l.length cap ∧ B ≤ g ∧ QsB w g l ∧ l.length ≤ cap := by
  rcases h.2 with ⟨rfl, h0⟩ | ⟨g, cap, cur, rfl, hB, hg, hc, -, -, ht⟩
  · exact .inl ⟨rfl, List.eq_nil_of_length_eq_zero h0⟩
  · refine .inr ⟨g, cap, rfl, hB, ⟨cur.toList.drop (l.length * 2), ?_⟩, hc⟩
    rw [hg]
    congr 1
    congr 1
    rw [← ht, List.take_append_drop]
theorem OwnR.rd {B : Nat} {w : World} {a : Option Addr} {n c : Nat} {l : List (Int × Int)} (h : OwnR B w (.slice a n c) l) : RdQ w a l := by
  rcases h.blk with ⟨e, rfl⟩ | ⟨g, cap, e, -, hi, -⟩
  · exact RdQ.nil _ _
  · injection e with e1 e2 e3
    rw [e1]; exact hi.rd
def QRes (zs : List (Int × Int)) (ok : Bool) (w : World) (e : Ending) (w' : World) : Prop := ∃ v : Value, e = .returned (.tuple #[v, .bool ok]) ∧ OwnR w.heap.size w' v zs ∧ Below w.heap.size w w'
theorem flatQ_snoc (l : List (Int × Int)) (u : Int × Int) : flatQ (l ++ [u]) = flatQ l ++ [.int .i64 u.1, .int .i64 u.2] := by rw [flatQ_app]; rfl
end Go.Proofs.YtcapddcmnjeloaaGreatDoor
end

section
/-
  Chapter 2, in the model: IsRatio, the lowest terms, MakeRatio.
-/
namespace Go.Proofs.YtcapddcmnjeloaaGreatDoor
open Go.RowKit
def ratV (r : Int × Int) : Value := .agg #[.int .i64 r.1, .int .i64 r.2]
theorem sIsRat (n d : Int) (w : World) : Calls Tryz.prog 92 #[.agg #[.int .i64 n, .int .i64 d]] w (Gives (.bool (isRat n d)) w) := by
  by_cases h12 : 1 ≤ d ∧ d ≤ 400000000
  · obtain ⟨h1, h2⟩ := h12
    by_cases h3 : -400000000 ≤ n ∧ n ≤ 400000000
    · have E : Hid (isRat n d = (((Int.gcd n d : Nat) : Int) == 1)) := by
        show isRat n d = _
        unfold isRat IsRatP
        by_cases hg : Int.gcd n d = 1
        · simp [h1, h2, h3, hg]
        · have : (((Int.gcd n d : Nat) : Int) == 1) = false := by simp; omega
          simp [hg, this]
      obtain ⟨h3, h4⟩ := h3
      go_enter Tryz.func92, Tryz.ntmps92
      go_wp2_with (first | (go_at_call 55; refine (sIn_t _ _ _ _ (by omega) (by omega)).mono ?_; rintro e w' ⟨rfl, rfl⟩) | (go_at_call 56; refine (sIsNum_t _ _ (by omega) (by omega)).mono ?_; rintro e w' ⟨rfl, rfl⟩) | (go_at_call 143; refine (sGcd _ _ _ (by omega) (by omega)).mono ?_; rintro e w' ⟨rfl, k, rfl⟩))
      go_ret
      refine ⟨by rw [E.out]; rfl, ?_⟩
      exact below_drewN ((Below.refl _ _).alloc (Nat.le_refl _) _) _
    · have E : Hid (isRat n d = false) := by
        show isRat n d = _
        unfold isRat IsRatP
        exact decide_eq_false (fun k => h3 ⟨k.2.2.1, k.2.2.2.1⟩)
      have h3' : n < -400000000 ∨ 400000000 < n := by omega
      clear h3
      go_enter Tryz.func92, Tryz.ntmps92
      go_wp2_with (first | (go_at_call 55; refine (sIn_t _ _ _ _ (by omega) (by omega)).mono ?_; rintro e w' ⟨rfl, rfl⟩) | (go_at_call 56; refine (sIsNum_f _ _ h3').mono ?_; rintro e w' ⟨rfl, rfl⟩))
      go_ret
      exact ⟨by rw [E.out]; rfl, (Below.refl _ _).alloc (Nat.le_refl _) _⟩
  · have E : Hid (isRat n d = false) := by
      show isRat n d = _
      unfold isRat IsRatP
      exact decide_eq_false (fun k => h12 ⟨k.1, k.2.1⟩)
    have h' : d < 1 ∨ 400000000 < d := by omega
    clear h12
    go_enter Tryz.func92, Tryz.ntmps92
    go_wp2_with (go_at_call 55; refine (sIn_f _ _ _ _ h').mono ?_; rintro e w' ⟨rfl, rfl⟩)
    go_ret
    exact ⟨by rw [E.out]; rfl, (Below.refl _ _).alloc (Nat.le_refl _) _⟩
theorem sMake_pos (n d : Int) (w : World) (hn : -2000000000000000000 ≤ n ∧ n ≤ 2000000000000000000) (hd : 0 < d ∧ d ≤ 2000000000000000000) :
    Calls Tryz.prog 81 #[.int .i64 n, .int .i64 d] w (Gives (ratV (low n d)) w) := by
  obtain ⟨n1, n2⟩ := hn
  obtain ⟨d1, d2⟩ := hd
  have hz : (d == 0) = false := by simp; omega
  have hs : decide (d < 0) = false := by simp; omega
  go_enter Tryz.func81, Tryz.ntmps81
  go_wp2_with fail
  go_loopw [5, 6] (fun x y wr => ∃ p q : Int, x = .int .i64 p ∧ y = .int .i64 q ∧ -2000000000000000000 ≤ p ∧ p ≤ 2000000000000000000 ∧ -2000000000000000000 ≤ q ∧ q ≤ 2000000000000000000 ∧ Int.gcd p q = Int.gcd n d ∧ ∃ m, wr = (w.alloc (.cells #[.int .i64 0, .int .i64 0] 40)).drewN m) (fun _ y _ => (intOf y).natAbs)
  case atStart => exact ⟨n, d, rfl, rfl, n1, n2, by omega, d2, rfl, 0, rfl⟩
  case round =>
    obtain ⟨p, q, rfl, rfl, p1, p2, q1, q2, hg, m, rfl⟩ := hrel
    have HG := Lib.hid hg
    clear hg
    by_cases hq : q = 0
    · subst hq
      have hp := HG.out
      rw [Int.gcd_zero_right] at hp
      obtain ⟨G, hG, hG0⟩ : ∃ G : Nat, Int.gcd n d = G ∧ 0 < G := ⟨_, rfl, gcd_pos_of n d (by omega)⟩
      rw [hG] at hp
      have hg0 : ((G : Int) == 0) = false := by simp; omega
      obtain ⟨bn1, bn2⟩ := tdiv_bdw n G (by omega) (by omega)
      obtain ⟨bd1, bd2⟩ := tdiv_bdw d G (by omega) (by omega)
      have LN : Hid (lowN n d = n.tdiv G) := by show lowN n d = _; unfold lowN; rw [if_neg (by omega), hG]
      have LD : Hid (lowD n d = d.tdiv G) := by show lowD n d = _; unfold lowD; rw [if_neg (by omega), hG]
      clear hG HG
      go_wp2_with fail
      refine (sAbs p _ (by omega) (by omega)).mono ?_
      rintro e w' ⟨rfl, rfl⟩
      rw [hp]
      clear hp
      go_wp2_with fail
      go_region
      go_wp2_with fail
      refine (sIsRat _ _ _).mono ?_
      rintro e w1 ⟨rfl, hb⟩
      have K0 : Hid (Blk2 w1 w.heap.size 40 (.int .i64 0) (.int .i64 0)) := (((Blk2.at_ _ _ _ rfl).drewN _).old _).keep hb (by simp; omega)
      have K1 : Blk2 w1 (w.heap.size + 1) 40 (.int .i64 (n.tdiv G)) (.int .i64 (d.tdiv G)) := (Blk2.at_ _ _ _ (by simp)).keep hb (by simp)
      obtain ⟨C0, C1, F0, F1⟩ := K0.out.all
      obtain ⟨D0, D1, -, -⟩ := K1.all
      have B : Hid (Below w.heap.size w w1) := ((below_drewN ((Below.refl _ _).alloc (Nat.le_refl _) _) _).alloc (by simp) _).trans (hb.mono (by simp; omega))
      have R := isRat_of_fits (n := n) (d := d) (by omega)
      rw [LN.out, LD.out] at R
      rw [R]
      clear K1 hb R
      by_cases hf : Fits (n.tdiv G) (d.tdiv G)
      · have L : Hid (low n d = (n.tdiv G, d.tdiv G)) := by
          have := (low_fits (n := n) (d := d) (by omega) (by rw [LN.out, LD.out]; exact hf)).1
          rw [LN.out, LD.out] at this; exact this
        rw [decide_eq_true hf]
        clear hf
        go_wp2_with fail
        obtain ⟨E0, E1, -, -⟩ := ((K0.out.set0 (.int .i64 (n.tdiv G))).set1 (.int .i64 (d.tdiv G))).all
        refine bodyPost_ret (v := ratV (n.tdiv G, d.tdiv G)) (by simp [results, Tryz.results81, go_sem, E0, E1, ratV]) rfl ⟨by rw [L.out], ?_⟩
        exact (B.out.setCell (Nat.le_refl _) _).setCell (Nat.le_refl _) _
      · have L : Hid (low n d = (0, 0)) := low_none (by rw [LN.out, LD.out]; exact hf)
        rw [decide_eq_false hf]
        clear hf
        go_wp2_with fail
        obtain ⟨E0, E1, -, -⟩ := ((K0.out.set0 (.int .i64 0)).set1 (.int .i64 0)).all
        refine bodyPost_ret (v := ratV (0, 0)) (by simp [results, Tryz.results81, go_sem, E0, E1, ratV]) rfl ⟨by rw [L.out], ?_⟩
        exact (B.out.setCell (Nat.le_refl _) _).setCell (Nat.le_refl _) _
    · have t1 := tmod_small p q hq
      have t2 := gcd_round p q
      have b1 : -2000000000000000000 ≤ p.tmod q := by omega
      have b2 : p.tmod q ≤ 2000000000000000000 := by omega
      have T1 := Lib.hid t1
      have T2 := Lib.hid t2
      clear t1 t2
      have hq' : (q == 0) = false := by simpa using hq
      go_wp2
      go_quiet (fail)
      go_wp2
      go_roundw
      case rel => exact ⟨q, p.tmod q, rfl, rfl, q1, q2, b1, b2, T2.out.trans HG.out, _, by rw [World.drewN_drewN]⟩
      case measure => simpa [intOf] using T1.out
theorem sMake_neg (n d : Int) (w : World) (hn : -2000000000000000000 ≤ n ∧ n ≤ 2000000000000000000) (hd : 0 < d ∧ d ≤ 2000000000000000000) :
    Calls Tryz.prog 81 #[.int .i64 (-n), .int .i64 (-d)] w (Gives (ratV (low n d)) w) := by
  obtain ⟨n1, n2⟩ := hn
  obtain ⟨d1, d2⟩ := hd
  have hz : (-d == 0) = false := by simp; omega
  have hs : decide (-d < 0) = true := by simp; omega
  go_enter Tryz.func81, Tryz.ntmps81
  go_wp2_with fail
  go_loopw [5, 6] (fun x y wr => ∃ p q : Int, x = .int .i64 p ∧ y = .int .i64 q ∧ -2000000000000000000 ≤ p ∧ p ≤ 2000000000000000000 ∧ -2000000000000000000 ≤ q ∧ q ≤ 2000000000000000000 ∧ Int.gcd p q = Int.gcd n d ∧ ∃ m, wr = (w.alloc (.cells #[.int .i64 0, .int .i64 0] 40)).drewN m) (fun _ y _ => (intOf y).natAbs)
  case atStart => exact ⟨n, d, rfl, rfl, n1, n2, by omega, d2, rfl, 0, rfl⟩
  case round =>
    obtain ⟨p, q, rfl, rfl, p1, p2, q1, q2, hg, m, rfl⟩ := hrel
    have HG := Lib.hid hg
    clear hg
    by_cases hq : q = 0
    · subst hq
      have hp := HG.out
      rw [Int.gcd_zero_right] at hp
      obtain ⟨G, hG, hG0⟩ : ∃ G : Nat, Int.gcd n d = G ∧ 0 < G := ⟨_, rfl, gcd_pos_of n d (by omega)⟩
      rw [hG] at hp
      have hg0 : ((G : Int) == 0) = false := by simp; omega
      obtain ⟨bn1, bn2⟩ := tdiv_bdw n G (by omega) (by omega)
      obtain ⟨bd1, bd2⟩ := tdiv_bdw d G (by omega) (by omega)
      have LN : Hid (lowN n d = n.tdiv G) := by show lowN n d = _; unfold lowN; rw [if_neg (by omega), hG]
      have LD : Hid (lowD n d = d.tdiv G) := by show lowD n d = _; unfold lowD; rw [if_neg (by omega), hG]
      clear hG HG
      go_wp2_with fail
      refine (sAbs p _ (by omega) (by omega)).mono ?_
      rintro e w' ⟨rfl, rfl⟩
      rw [hp]
      clear hp
      go_wp2_with fail
      go_region
      go_wp2_with fail
      refine (sIsRat _ _ _).mono ?_
      rintro e w1 ⟨rfl, hb⟩
      have K0 : Hid (Blk2 w1 w.heap.size 40 (.int .i64 0) (.int .i64 0)) := (((Blk2.at_ _ _ _ rfl).drewN _).old _).keep hb (by simp; omega)
      have K1 : Blk2 w1 (w.heap.size + 1) 40 (.int .i64 (n.tdiv G)) (.int .i64 (d.tdiv G)) := (Blk2.at_ _ _ _ (by simp)).keep hb (by simp)
      obtain ⟨C0, C1, F0, F1⟩ := K0.out.all
      obtain ⟨D0, D1, -, -⟩ := K1.all
      have B : Hid (Below w.heap.size w w1) := ((below_drewN ((Below.refl _ _).alloc (Nat.le_refl _) _) _).alloc (by simp) _).trans (hb.mono (by simp; omega))
      have R := isRat_of_fits (n := n) (d := d) (by omega)
      rw [LN.out, LD.out] at R
      rw [R]
      clear K1 hb R
      by_cases hf : Fits (n.tdiv G) (d.tdiv G)
      · have L : Hid (low n d = (n.tdiv G, d.tdiv G)) := by
          have := (low_fits (n := n) (d := d) (by omega) (by rw [LN.out, LD.out]; exact hf)).1
          rw [LN.out, LD.out] at this; exact this
        rw [decide_eq_true hf]
        clear hf
        go_wp2_with fail
        obtain ⟨E0, E1, -, -⟩ := ((K0.out.set0 (.int .i64 (n.tdiv G))).set1 (.int .i64 (d.tdiv G))).all
        refine bodyPost_ret (v := ratV (n.tdiv G, d.tdiv G)) (by simp [results, Tryz.results81, go_sem, E0, E1, ratV]) rfl ⟨by rw [L.out], ?_⟩
        exact (B.out.setCell (Nat.le_refl _) _).setCell (Nat.le_refl _) _
      · have L : Hid (low n d = (0, 0)) := low_none (by rw [LN.out, LD.out]; exact hf)
        rw [decide_eq_false hf]
        clear hf
        go_wp2_with fail
        obtain ⟨E0, E1, -, -⟩ := ((K0.out.set0 (.int .i64 0)).set1 (.int .i64 0)).all
        refine bodyPost_ret (v := ratV (0, 0)) (by simp [results, Tryz.results81, go_sem, E0, E1, ratV]) rfl ⟨by rw [L.out], ?_⟩
        exact (B.out.setCell (Nat.le_refl _) _).setCell (Nat.le_refl _) _
    · have t1 := tmod_small p q hq
      have t2 := gcd_round p q
      have b1 : -2000000000000000000 ≤ p.tmod q := by omega
      have b2 : p.tmod q ≤ 2000000000000000000 := by omega
      have T1 := Lib.hid t1
      have T2 := Lib.hid t2
      clear t1 t2
      have hq' : (q == 0) = false := by simpa using hq
      go_wp2
      go_quiet (fail)
      go_wp2
      go_roundw
      case rel => exact ⟨q, p.tmod q, rfl, rfl, q1, q2, b1, b2, T2.out.trans HG.out, _, by rw [World.drewN_drewN]⟩
      case measure => simpa [intOf] using T1.out
theorem low_neg (n d : Int) (hd : 0 < d) : low (-n) (-d) = low n d := by
  have e1 : lowN (-n) (-d) = lowN n d := by
    unfold lowN; rw [if_pos (by omega), if_neg (by omega), Int.neg_gcd, Int.gcd_neg, Int.neg_tdiv, Int.neg_neg]
  have e2 : lowD (-n) (-d) = lowD n d := by
    unfold lowD; rw [if_pos (by omega), if_neg (by omega), Int.neg_gcd, Int.gcd_neg, Int.neg_tdiv, Int.neg_neg]
  unfold low
  rw [e1, e2, if_neg (show ¬ (-d = 0) by omega), if_neg (show ¬ (d = 0) by omega)]
theorem sMake (n d : Int) (w : World) (hn : -2000000000000000000 ≤ n ∧ n ≤ 2000000000000000000) (hd : -2000000000000000000 ≤ d ∧ d ≤ 2000000000000000000) :
    Calls Tryz.prog 81 #[.int .i64 n, .int .i64 d] w (Gives (ratV (low n d)) w) := by
  rcases Int.lt_trichotomy d 0 with h | h | h
  · obtain ⟨m, rfl⟩ : ∃ m, n = -m := ⟨-n, by omega⟩
    obtain ⟨e, rfl⟩ : ∃ e, d = -e := ⟨-d, by omega⟩
    rw [low_neg m e (by omega)]
    exact sMake_neg m e w (by omega) (by omega)
  · subst h
    go_enter Tryz.func81, Tryz.ntmps81
    go_wp2_with fail
    refine bodyPost_ret (v := ratV (0, 0)) (by simp [results, Tryz.results81, go_sem, ratV]) rfl ⟨by rw [low_zero], ?_⟩
    exact (Below.refl _ _).alloc (Nat.le_refl _) _
  · exact sMake_pos n d w hn (by omega)
theorem sMk (n d : Int) (w : World) : Calls Tryz.prog 40 #[.int .i64 n, .int .i64 d] w (Gives (ratV (mkRat n d)) w) := by
  by_cases hn : -400000000 ≤ n ∧ n ≤ 400000000
  · by_cases hd : -400000000 ≤ d ∧ d ≤ 400000000
    · rw [mkRat_in ⟨hn, hd⟩]
      go_enter Tryz.func40, Tryz.ntmps40
      go_wp2_with fail
      refine (sIsNum_t _ _ hn.1 hn.2).mono ?_
      rintro e w' ⟨rfl, rfl⟩
      go_wp2_with fail
      refine (sIsNum_t _ _ hd.1 hd.2).mono ?_
      rintro e w' ⟨rfl, rfl⟩
      go_wp2_with fail
      refine (sMake n d _ (by omega) (by omega)).mono ?_
      rintro e w1 ⟨rfl, hb⟩
      have K0 : Hid (Blk2 w1 w.heap.size 40 (.int .i64 0) (.int .i64 0)) := (Blk2.at_ _ _ _ rfl).keep hb (by simp)
      obtain ⟨C0, C1, F0, F1⟩ := K0.out.all
      have B : Hid (Below w.heap.size w w1) := ((Below.refl _ _).alloc (Nat.le_refl _) _).trans (hb.mono (by simp))
      clear hb
      unfold ratV
      go_wp2_with fail
      obtain ⟨E0, E1, -, -⟩ := ((K0.out.set0 (.int .i64 (low n d).1)).set1 (.int .i64 (low n d).2)).all
      refine bodyPost_ret (v := ratV (low n d)) (by simp [results, Tryz.results40, go_sem, E0, E1, ratV]) rfl ⟨rfl, ?_⟩
      exact (B.out.setCell (Nat.le_refl _) _).setCell (Nat.le_refl _) _
    · rw [mkRat_out (fun k => hd k.2)]
      have hd' : d < -400000000 ∨ 400000000 < d := by omega
      clear hd
      go_enter Tryz.func40, Tryz.ntmps40
      go_wp2_with fail
      refine (sIsNum_t _ _ hn.1 hn.2).mono ?_
      rintro e w' ⟨rfl, rfl⟩
      go_wp2_with fail
      refine (sIsNum_f _ _ hd').mono ?_
      rintro e w' ⟨rfl, rfl⟩
      go_wp2_with fail
      refine bodyPost_ret (v := ratV (0, 0)) (by simp [results, Tryz.results40, go_sem, ratV]) rfl ⟨rfl, ?_⟩
      exact (Below.refl _ _).alloc (Nat.le_refl _) _
  · rw [mkRat_out (fun k => hn k.1)]
    have hn' : n < -400000000 ∨ 400000000 < n := by omega
    clear hn
    go_enter Tryz.func40, Tryz.ntmps40
    go_wp2_with fail
    refine (sIsNum_f _ _ hn').mono ?_
    rintro e w' ⟨rfl, rfl⟩
    go_wp2_with fail
    refine bodyPost_ret (v := ratV (0, 0)) (by simp [results, Tryz.results40, go_sem, ratV]) rfl ⟨rfl, ?_⟩
    exact (Below.refl _ _).alloc (Nat.le_refl _) _
end Go.Proofs.YtcapddcmnjeloaaGreatDoor
end

section
/-
  Chapter 11, in the model: SolveByDeterminants.
-/
namespace Go.Proofs.YtcapddcmnjeloaaGreatDoor
set_option maxRecDepth 100000
open Go.RowKit
set_option maxHeartbeats 4000000 in
theorem sSd (r c : Int) (a : Option Addr) (m : Nat) (xs : List Int) (ab : Option Addr) (mb : Nat) (bs : List Int) (w : World) (h : Rd w a xs) (ha : Spot a) (hn : xs.length ≤ 16777216) (hb : Rd w ab bs) (hbn : bs.length ≤ 16777216) :
    Calls Tryz.prog 9 #[.agg #[.int .i64 r, .int .i64 c, .slice a xs.length m], .slice ab bs.length mb] w (QRes (sdX r c xs bs).1 (sdX r c xs bs).2 w) := by
  have DT : Hid (∀ w', Below w.heap.size w w' → Calls Tryz.prog 37 #[.agg #[.int .i64 r, .int .i64 c, .slice a xs.length m]] w' (Gives (.tuple #[.int .i64 (detOf r c xs).1, .bool (detOf r c xs).2]) w')) := fun w' hb => sDetOf r c a m xs w' (h.below hb) hn
  have RI : Hid (∀ w', Below w.heap.size w w' → Calls Tryz.prog 38 #[.agg #[.int .i64 r, .int .i64 c, .slice a xs.length m], .slice ab bs.length mb] w' (Gives (.bool (sysB r c xs bs)) w')) := fun w' hb2 => sRight r c a m xs ab mb bs w' (h.below hb2) hn (hb.below hb2) hbn
  have K0 : Hid (Blk3 (w.alloc (.cells #[.int .i64 r, .int .i64 c, .slice a xs.length m] 26)) w.heap.size 26 (.int .i64 r) (.int .i64 c) (.slice a xs.length m)) := Blk3.at_ _ _ _ _ rfl
  have B0 : Hid (Below w.heap.size w (w.alloc (.cells #[.int .i64 r, .int .i64 c, .slice a xs.length m] 26))) := (Below.refl _ _).alloc (Nat.le_refl _) _
  have N1 : Hid ((detOf r c xs).2 = false → sdX r c xs bs = ([], false)) := fun h => sdX_no (.inr (.inl h))
  have N2 : Hid ((detOf r c xs).1 = 0 → sdX r c xs bs = ([], false)) := fun h => sdX_no (.inr (.inr h))
  have N3 : Hid (sysB r c xs bs = false → sdX r c xs bs = ([], false)) := fun h => sdX_no (.inl h)
  have ND := detOf_num r c xs
  obtain ⟨d, hd⟩ : ∃ d, (detOf r c xs).1 = d := ⟨_, rfl⟩
  obtain ⟨f, hf⟩ : ∃ f, (detOf r c xs).2 = f := ⟨_, rfl⟩
  rw [hd] at N2 DT ND
  rw [hf] at N1 DT
  obtain ⟨nd1, nd2⟩ := ND
  cases f with
  | false =>
    have V := Lib.hid (N1.out rfl)
    clear h hb
    go_enter Tryz.func9, Tryz.ntmps9
    go_wp2_with fail
    refine (DT.out _ B0.out).mono ?_
    rintro e w1 ⟨rfl, hb1⟩
    have K1 := Lib.hid (K0.out.step hb1)
    have B1 := Lib.hid (B0.out.trans (hb1.mono B0.out.size))
    clear hb1
    go_wp2_with fail
    rw [V.out]
    exact bodyPost_ret (v := .tuple #[.slice (some ⟨w1.heap.size, 0, none⟩) 0 0, .bool false]) (by simp [results, Tryz.results9, go_sem]) rfl ⟨_, rfl, OwnR.empty B1.out.size, B1.out.alloc B1.out.size _⟩
  | true =>
    by_cases h0 : d = 0
    · have V := Lib.hid (N2.out h0)
      have n0 : (d == 0) = true := by simpa using h0
      clear h hb
      go_enter Tryz.func9, Tryz.ntmps9
      go_wp2_with fail
      refine (DT.out _ B0.out).mono ?_
      rintro e w1 ⟨rfl, hb1⟩
      have K1 := Lib.hid (K0.out.step hb1)
      have B1 := Lib.hid (B0.out.trans (hb1.mono B0.out.size))
      clear hb1
      go_wp2_with fail
      rw [V.out]
      exact bodyPost_ret (v := .tuple #[.slice (some ⟨w1.heap.size, 0, none⟩) 0 0, .bool false]) (by simp [results, Tryz.results9, go_sem]) rfl ⟨_, rfl, OwnR.empty B1.out.size, B1.out.alloc B1.out.size _⟩
    · have n0 : (d == 0) = false := by simpa using h0
      cases hs : sysB r c xs bs with
      | false =>
        have V := Lib.hid (N3.out hs)
        clear h hb
        go_enter Tryz.func9, Tryz.ntmps9
        go_wp2_with fail
        refine (DT.out _ B0.out).mono ?_
        rintro e w1 ⟨rfl, hb1⟩
        have K1 := Lib.hid (K0.out.step hb1)
        have B1 := Lib.hid (B0.out.trans (hb1.mono B0.out.size))
        clear hb1
        obtain ⟨p0, p1, p2, -, -, -⟩ := K1.out.all
        go_wp2_with fail
        refine (RI.out _ B1.out).mono ?_
        rintro e w2 ⟨rfl, hb2⟩
        rw [hs]
        have B2 := Lib.hid (B1.out.trans (hb2.mono B1.out.size))
        clear hb2
        go_wp2_with fail
        rw [V.out]
        exact bodyPost_ret (v := .tuple #[.slice (some ⟨w2.heap.size, 0, none⟩) 0 0, .bool false]) (by simp [results, Tryz.results9, go_sem]) rfl ⟨_, rfl, OwnR.empty B2.out.size, B2.out.alloc B2.out.size _⟩
      | true =>
        obtain ⟨n, rfl, rfl, h6, hl, hnx, hbl, hnb⟩ := sysB_says hs
        have VB : Hid (∀ j, j < n → (detOf n n (rcL n xs bs j)).2 = false → sdX n n xs bs = ([], false)) := fun j hj h => sdX_bad hj h
        have VY : Hid ((∀ j, j < n → (detOf n n (rcL n xs bs j)).2 = true) → sdX n n xs bs = (sdUp n xs bs d n, true)) := fun h => by rw [sdX_yes hs hf (by rw [hd]; exact h0) h, hd]
        have UP : Hid (∀ j, sdUp n xs bs d (j + 1) = sdUp n xs bs d j ++ [mkRat (detOf n n (rcL n xs bs j)).1 d]) := fun j => sdUp_succ n xs bs d j
        have UL : Hid (∀ j, (sdUp n xs bs d j).length = j) := fun j => by simp [sdUp]
        have U0 : Hid (sdUp n xs bs d 0 = []) := rfl
        have NN : Hid (∀ j, NumP (detOf n n (rcL n xs bs j)).1) := fun j => detOf_num _ _ _
        have RL : Hid (∀ j, (rcL n xs bs j).length = n * n) := fun j => rcL_length n xs bs j
        have RP : Hid (∀ j, j < n → ∀ w', Below w.heap.size w w' → Calls Tryz.prog 39 #[.agg #[.int .i64 n, .int .i64 n, .slice a (n * n) m], .int .i64 j, .slice ab n mb] w' fun e w2 => ∃ g cap : Nat, e = .returned (.agg #[.int .i64 n, .int .i64 n, .slice (some ⟨g, 0, none⟩) (n * n) cap]) ∧ w'.heap.size ≤ g ∧ Ints w2 g (rcL n xs bs j) ∧ Below w'.heap.size w' w2) := fun j hj w' hb2 => sRepl n j a m xs ab mb bs w' (h.below hb2) ha hl (hb.below hb2) hbl hj h6
        have DJ : Hid (∀ j g cap w', Ints w' g (rcL n xs bs j) → Calls Tryz.prog 37 #[.agg #[.int .i64 n, .int .i64 n, .slice (some ⟨g, 0, none⟩) (n * n) cap]] w' (Gives (.tuple #[.int .i64 (detOf n n (rcL n xs bs j)).1, .bool (detOf n n (rcL n xs bs j)).2]) w')) := fun j g cap w' hi => by
          have := sDetOf n n (some ⟨g, 0, none⟩) cap (rcL n xs bs j) w' hi.rd (by rw [rcL_length]; have := Nat.mul_le_mul h6 h6; omega)
          rw [rcL_length] at this
          exact this
        have N36 : n * n ≤ 36 := Nat.mul_le_mul h6 h6
        rw [hl, hbl] at RI
        rw [hl] at DT K0 B0 ⊢
        rw [hbl]
        generalize sdX n n xs bs = RES at VB VY ⊢
        obtain ⟨N, hN⟩ : ∃ N, n * n = N := ⟨_, rfl⟩
        rw [hN] at RI DT K0 B0 RP DJ N36 ⊢
        obtain ⟨fi, hfi, hz0, hz1, hz2⟩ := facts_rat
        clear h hb hl hnx hbl hnb hd hf N1 N2 N3 hn hbn hN RL
        go_enter Tryz.func9, Tryz.ntmps9
        go_wp2_with fail
        refine (DT.out _ B0.out).mono ?_
        rintro e w1 ⟨rfl, hb1⟩
        have K1 := Lib.hid (K0.out.step hb1)
        have B1 := Lib.hid (B0.out.trans (hb1.mono B0.out.size))
        clear hb1 K0 B0
        obtain ⟨p0, p1, p2, -, -, -⟩ := K1.out.all
        go_wp2_with fail
        refine (RI.out _ B1.out).mono ?_
        rintro e w2 ⟨rfl, hb2⟩
        rw [hs]
        have K2 := Lib.hid ((K1.out.step hb2).old (.cells #[] 40))
        have B2 := B1.out.trans (hb2.mono B1.out.size)
        have l1 := (K1.out.step hb2).lt
        have O2 : Hid (OwnR (w.heap.size + 1) (w2.alloc (.cells #[] 40)) (.slice (some ⟨w2.heap.size, 0, none⟩) 0 0) (sdUp n xs bs d 0)) := by refine Lib.hid ?_; rw [U0.out]; exact OwnR.empty l1
        have B2 := Lib.hid (B2.alloc B2.size (.cells #[] 40))
        clear hb2 K1 B1 p0 p1 p2
        go_wp2_with fail
        go_loopw [8, 9] (fun v8 v9 wr => ∃ j : Nat, v9 = .int .i64 j ∧ j ≤ n ∧ (∀ k, k < j → (detOf n n (rcL n xs bs k)).2 = true) ∧ OwnR (w.heap.size + 1) wr v8 (sdUp n xs bs d j) ∧ Blk3 wr w.heap.size 26 (.int .i64 n) (.int .i64 n) (.slice a N m) ∧ Below w.heap.size w wr) (fun _ v9 _ => n - (intOf v9).toNat)
        case atStart => exact ⟨0, rfl, by omega, fun k hk => by omega, O2.out, K2.out, B2.out⟩
        case round =>
          clear O2 K2 B2
          obtain ⟨j, rfl, hj, hk, ho, hK, hB⟩ := hrel
          obtain ⟨q8, c8, rfl⟩ := ho.form
          rw [UL.out j]
          have HK := Lib.hid hk
          have O := Lib.hid ho
          have K := Lib.hid hK
          have B := Lib.hid hB
          clear hk ho hK hB
          obtain ⟨p0, p1, p2, -, -, -⟩ := K.out.all
          by_cases hlt : j < n
          · go_wp2_with fail
            refine (RP.out j hlt _ B.out).mono ?_
            rintro e w3 ⟨g, cap, rfl, hg, hi, hb3⟩
            have I3 := Lib.hid hi
            have O3 := Lib.hid (O.out.keep hb3)
            have K3 := Lib.hid (K.out.step hb3)
            have B3 := Lib.hid (B.out.trans (hb3.mono B.out.size))
            clear hi hb3 O K B p0 p1 p2
            go_wp2_with fail
            refine (DJ.out j g cap _ I3.out).mono ?_
            rintro e w4 ⟨rfl, hb4⟩
            have O4 := Lib.hid (O3.out.keep hb4)
            have K4 := Lib.hid (K3.out.step hb4)
            have B4 := Lib.hid (B3.out.trans (hb4.mono B3.out.size))
            clear hb4 O3 K3 B3 I3
            have UJ := Lib.hid (UP.out j)
            obtain ⟨nd3, nd4⟩ := NN.out j
            have VJ := Lib.hid (VB.out j hlt)
            obtain ⟨z, hz⟩ : ∃ z, (detOf n n (rcL n xs bs j)).1 = z := ⟨_, rfl⟩
            obtain ⟨f, hf⟩ : ∃ f, (detOf n n (rcL n xs bs j)).2 = f := ⟨_, rfl⟩
            have HF := Lib.hid hf
            rw [hz] at UJ nd3 nd4 ⊢
            rw [hf] at VJ ⊢
            clear hz hf
            cases f with
            | false =>
              have V := Lib.hid (VJ.out rfl)
              go_wp2_with fail
              rw [V.out]
              exact bodyPost_ret (v := .tuple #[.slice (some ⟨w4.heap.size, 0, none⟩) 0 0, .bool false]) (by simp [results, Tryz.results9, go_sem]) rfl ⟨_, rfl, OwnR.empty B4.out.size, B4.out.alloc B4.out.size _⟩
            | true =>
              have HK2 : Hid (∀ k, k < j + 1 → (detOf n n (rcL n xs bs k)).2 = true) := fun k hk => by
                rcases Nat.lt_or_ge k j with h3 | h3
                · exact HK.out k h3
                · obtain rfl : k = j := by omega
                  exact HF.out
              go_wp2_with fail
              refine (sMk z d _).mono ?_
              rintro e w5 ⟨rfl, hb5⟩
              unfold ratV
              obtain ⟨y1, hy1⟩ : ∃ y, (mkRat z d).1 = y := ⟨_, rfl⟩
              obtain ⟨y2, hy2⟩ : ∃ y, (mkRat z d).2 = y := ⟨_, rfl⟩
              have FS : Hid (flatQ (sdUp n xs bs d (j + 1)) = flatQ (sdUp n xs bs d j) ++ [.int .i64 y1, .int .i64 y2]) := by
                refine Lib.hid ?_
                rw [UJ.out, flatQ_snoc, hy1, hy2]
              rw [hy1, hy2]
              have s4 := B4.out.size
              have s5 := hb5.size
              have O5 := (O4.out.keep hb5).old (.cells #[.int .i64 y1, .int .i64 y2] 40)
              unfold OwnR at O5
              rw [UL.out j] at O5
              have O5 := Lib.hid O5
              have K5 := Lib.hid ((K4.out.step hb5).old (.cells #[.int .i64 y1, .int .i64 y2] 40))
              have B5 := Lib.hid ((B4.out.trans (hb5.mono B4.out.size)).alloc (by omega) (.cells #[.int .i64 y1, .int .i64 y2] 40))
              clear hb5 O4 K4 B4 hy1 hy2 UJ
              go_wp2_with (at_builtin; refine wpList_append_own_at _ rfl _ _ 29 rfl (w.heap.size + 1) 40 fi (.agg #[.int .i64 0, .int .i64 0]) 2 16 underlying_rats hfi hz0 hz1 hz2 rfl (by decide) _ _ _ rfl O5.out ⟨w5.heap.size, 0, none⟩ 1 1 [.int .i64 y1, .int .i64 y2] ?hx ?hl ?hnews ?h1 ?h63 ?hbytes ?hbase ?hnext)
              case hx => rfl
              case hl => rfl
              case hnews => exact cellsQ_new _ _ _ _
              case h1 => intro v hv; simp only [List.mem_cons, List.not_mem_nil, or_false] at hv; rcases hv with rfl | rfl <;> rfl
              case h63 => unfold maxLen; omega
              case hbytes => omega
              case hbase => exact K5.out.lt
              case hnext =>
                rintro v2 w6 ho2 hg2 - -
                rw [← FS.out] at ho2
                have O6 : Hid (OwnR (w.heap.size + 1) w6 v2 (sdUp n xs bs d (j + 1))) := by
                  refine Lib.hid ?_
                  unfold OwnR
                  rw [UL.out (j + 1)]
                  exact ho2
                have B6 := Lib.hid (B5.out.grown hg2 B5.out.size (fun k hk => by have := ownB_ge2 O5.out hk; omega))
                have K6 : Hid (Blk3 w6 w.heap.size 26 (.int .i64 n) (.int .i64 n) (.slice a N m)) := (hg2.block _ K5.out.lt (fun h => by have := (O5.out.lt _ h.symm).1; omega)).trans K5.out
                obtain ⟨ua, uc, rfl⟩ := O6.out.form
                clear ho2 hg2
                go_wp2_with fail
                go_roundw
                case rel => exact ⟨j + 1, by go_num, by omega, HK2.out, O6.out, K6.out, B6.out⟩
                case measure => simp [intOf]; omega
          · obtain rfl : j = n := by omega
            have V := Lib.hid (VY.out HK.out)
            have OQ : Hid (OwnR w.heap.size wr (.slice q8 j c8) (sdUp j xs bs d j)) := by
              have := O.out
              rw [UL.out j] at this
              exact this.le (Nat.le_succ _)
            go_wp2_with fail
            rw [V.out]
            exact bodyPost_ret (v := .tuple #[.slice q8 j c8, .bool true]) (by simp [results, Tryz.results9, go_sem]) rfl ⟨_, rfl, OQ.out, B.out⟩
end Go.Proofs.YtcapddcmnjeloaaGreatDoor
end

section
/-
  Chapter 11, in the model: SolveByEchelon.
-/
namespace Go.Proofs.YtcapddcmnjeloaaGreatDoor
set_option maxRecDepth 100000
open Go.RowKit
def wsF (n : Nat) (xs bs : List Int) (p q : Nat) : Int := if q < n then xs.getD (p * n + q) 0 else bs.getD p 0
theorem ech_wide {n : Nat} {xs bs : List Int} (h6 : n ≤ 6) (hx : xs.length = n * n) (hn : nums xs = true) (hb : bs.length = n) (hm : nums bs = true) : echR (n : Int) ((n : Int) + 1) (wdL n xs bs) = ER.of (n : Int) ((n : Int) + 1) (echM n (n + 1) (wdL n xs bs)) := by
  have hi : isMat (n : Int) ((n : Int) + 1) (wdL n xs bs) = true := by
    unfold isMat
    rw [decide_eq_true (show SizeP (n : Int) from ⟨by omega, by omega⟩), decide_eq_true (show SizeP ((n : Int) + 1) from ⟨by omega, by omega⟩), wdL_nums hx hn hb hm, decide_eq_true]
    · rfl
    · rw [wdL_length, Int.natCast_mul]; rfl
  unfold echR
  rw [if_pos hi]; rfl
end Go.Proofs.YtcapddcmnjeloaaGreatDoor
end

section
/-
  A ratio is appended to a list of the call's own.
-/
namespace Go.Proofs.YtcapddcmnjeloaaGreatDoor
open Go.RowKit
end Go.Proofs.YtcapddcmnjeloaaGreatDoor
end

section
/-
  Chapter 11, in the model: SolveByEchelon.
-/
namespace Go.Proofs.YtcapddcmnjeloaaGreatDoor
set_option maxRecDepth 100000
open Go.RowKit
end Go.Proofs.YtcapddcmnjeloaaGreatDoor
end

section
/-
  Plain mathematics of chapter 10: ratios and their residues, the ratio with small parts that has a residue. Nothing of a program is used.
-/
namespace Go.Proofs.YtcapddcmnjeloaaGreatDoor
def ImgP (n d y m : Int) : Prop := Cg m (y * d) n
theorem img_iff {n d y m : Int} (hm : 0 < m) : (y % m * (d % m) - n) % m = 0 ↔ ImgP n d y m := by
  have e : Cg m (y % m * (d % m) - n) (y * d - n) := ((Cg.emod m y).mul (Cg.emod m d)).sub (Cg.refl m n)
  rw [Cg.emod_eq hm e]
  unfold ImgP Cg
  exact ⟨fun h => Int.dvd_of_emod_eq_zero h, fun h => Int.emod_eq_zero_of_dvd h⟩
structure RInv (m a g x h u : Int) : Prop where
  low : 0 ≤ h
  less : h < g
  gx : Cg m g (x * a)
  hu : Cg m h (u * a)
  sg : (0 < u ∧ x ≤ 0 ∧ g * u - h * x = m) ∨ (u < 0 ∧ 0 ≤ x ∧ g * u - h * x = -m)
theorem RInv.start {m a : Int} (hm : 0 < m) : RInv m a m 0 (a % m) 1 where
  low := Int.emod_nonneg _ (by omega)
  less := Int.emod_lt_of_pos _ hm
  gx := by rw [Int.zero_mul]; exact Cg.zero.mpr (Int.dvd_refl m)
  hu := by rw [Int.one_mul]; exact Cg.emod m a
  sg := .inl ⟨by decide, by decide, by omega⟩
theorem RInv.step {m a g x h u : Int} (I : RInv m a g x h u) (hp : 0 < h) : RInv m a h u (g - g / h * h) (x - g / h * u) := by
  have hq : 1 ≤ g / h := by
    have := Int.ediv_mul_le g (show h ≠ 0 by omega)
    rw [Int.le_ediv_iff_mul_le hp]
    have := I.less
    omega
  have e : g - g / h * h = g % h := by rw [Int.emod_def, Int.mul_comm h]
  have e2 : h * (x - g / h * u) - (g - g / h * h) * u = -(g * u - h * x) := by generalize g / h = q; grind
  refine ⟨?_, ?_, I.hu, ?_, ?_⟩
  · rw [e]; exact Int.emod_nonneg _ (by omega)
  · rw [e]; exact Int.emod_lt_of_pos _ hp
  · have := I.gx.sub (Cg.mul_left (g / h) I.hu)
    refine this.trans (Cg.of_eq ?_)
    rw [Int.sub_mul, Int.mul_assoc]
  · rw [e2]
    generalize g / h = q at hq ⊢
    rcases I.sg with ⟨h1, h2, h3⟩ | ⟨h1, h2, h3⟩
    · right
      have := Int.mul_le_mul_of_nonneg_right hq (show 0 ≤ u by omega)
      refine ⟨by omega, by omega, by omega⟩
    · left
      have := Int.mul_le_mul_of_nonneg_right hq (show 0 ≤ -u by omega)
      simp only [Int.mul_neg, Int.one_mul] at this
      refine ⟨by omega, by omega, by omega⟩
theorem mul_abs {a b A B : Int} (ha : -A ≤ a ∧ a ≤ A) (hb : -B ≤ b ∧ b ≤ B) : -(A * B) ≤ a * b ∧ a * b ≤ A * B := by
  have h : (a * b).natAbs ≤ A.natAbs * B.natAbs := by
    rw [Int.natAbs_mul]
    exact Nat.mul_le_mul (by omega) (by omega)
  have e : ((A.natAbs * B.natAbs : Nat) : Int) = A * B := by
    rw [Int.natCast_mul, Int.natAbs_of_nonneg (by omega), Int.natAbs_of_nonneg (by omega)]
  omega
theorem pos_of_mul {u b : Int} (h : 0 < u * b) (hu : 0 < u) : 0 < b := by
  rcases Int.lt_or_le 0 b with h1 | h1
  · exact h1
  · have := Int.mul_nonneg (show 0 ≤ u by omega) (show 0 ≤ -b by omega)
    rw [Int.mul_neg] at this
    omega
theorem ratio_pos {m a g x h u B n d : Int} (hh : 0 ≤ h) (gx : Cg m g (x * a)) (hu : Cg m h (u * a)) (up : 0 < u) (xn : x ≤ 0) (dt : g * u - h * x = m) (hB : h ≤ B) (gB : B < g) (hm : 2 * (B * B) < m) (hn : -B ≤ n ∧ n ≤ B) (hd : 0 < d ∧ d ≤ B) (hg : n.gcd d = 1) (hi : Cg m (a * d) n) : h = n ∧ u = d := by
  have hmp : 0 < m := by have := Int.mul_nonneg (show 0 ≤ B by omega) (show 0 ≤ B by omega); omega
  obtain ⟨k, hk⟩ : m ∣ n * u - d * h := by
    have e1 : Cg m (n * u) (a * d * u) := hi.symm.mul (Cg.refl m u)
    have e2 : Cg m (d * h) (d * (u * a)) := Cg.mul_left d hu
    exact e1.trans ((Cg.of_eq (by grind)).trans e2.symm)
  obtain ⟨l, hl⟩ : m ∣ g * d - x * n := by
    have e1 : Cg m (g * d) (x * a * d) := gx.mul (Cg.refl m d)
    have e2 : Cg m (x * n) (x * (a * d)) := Cg.mul_left x hi.symm
    exact e1.trans ((Cg.of_eq (by grind)).trans e2.symm)
  have en : n = g * k + h * l := by
    refine Int.eq_of_mul_eq_mul_left (show m ≠ 0 by omega) ?_
    have e1 : (g * u - h * x) * n = g * (n * u - d * h) + h * (g * d - x * n) := by grind
    rw [dt, hk, hl] at e1
    rw [e1]
    grind
  have ed : d = x * k + u * l := by
    refine Int.eq_of_mul_eq_mul_left (show m ≠ 0 by omega) ?_
    have e1 : (g * u - h * x) * d = x * (n * u - d * h) + u * (g * d - x * n) := by grind
    rw [dt, hk, hl] at e1
    rw [e1]
    grind
  have hk0 : k = 0 := by
    rcases Int.lt_trichotomy k 0 with h1 | h1 | h1
    · exfalso
      have b1 := Int.mul_le_mul_of_nonneg_left (show 1 ≤ -k by omega) (show 0 ≤ g by omega)
      have b3 := Int.mul_le_mul_of_nonneg_left (show 1 ≤ -k by omega) (show 0 ≤ m by omega)
      have b2 := Int.mul_nonneg (show 0 ≤ -x by omega) (show 0 ≤ -k by omega)
      simp only [Int.mul_neg, Int.neg_mul, Int.mul_one] at b1 b2 b3
      rcases Int.lt_or_le 0 l with h2 | h2
      · have c1 := Int.mul_le_mul_of_nonneg_left (show 1 ≤ l from h2) (show 0 ≤ u by omega)
        have c2 := mul_abs (a := n) (b := u) (A := B) (B := B) (by omega) (by omega)
        have c3 := mul_abs (a := d) (b := h) (A := B) (B := B) (by omega) (by omega)
        omega
      · have c1 := Int.mul_nonneg hh (show 0 ≤ -l by omega)
        simp only [Int.mul_neg] at c1
        omega
    · exact h1
    · exfalso
      have b1 := Int.mul_le_mul_of_nonneg_left (show 1 ≤ k from h1) (show 0 ≤ g by omega)
      have b2 := Int.mul_nonneg (show 0 ≤ -x by omega) (show 0 ≤ k by omega)
      simp only [Int.neg_mul, Int.mul_one] at b1 b2
      rcases Int.lt_or_le l 0 with h2 | h2
      · have c1 := Int.mul_le_mul_of_nonneg_left (show 1 ≤ -l by omega) (show 0 ≤ u by omega)
        simp only [Int.mul_neg, Int.mul_one] at c1
        omega
      · have c1 := Int.mul_nonneg hh h2
        omega
  subst hk0
  rw [Int.mul_zero, Int.zero_add] at en ed
  have hl0 : 0 < l := pos_of_mul (by omega) up
  have hl1 : l = 1 := by
    have g1 : l ∣ n := ⟨h, by rw [en, Int.mul_comm]⟩
    have g2 : l ∣ d := ⟨u, by rw [ed, Int.mul_comm]⟩
    have := Int.dvd_coe_gcd g1 g2
    rw [hg] at this
    have := Int.le_of_dvd (by decide) this
    omega
  rw [hl1, Int.mul_one] at en ed
  exact ⟨en.symm, ed.symm⟩
theorem RInv.found {m a g x h u B n d : Int} (I : RInv m a g x h u) (hB : h ≤ B) (gB : B < g) (hm : 2 * (B * B) < m) (hn : -B ≤ n ∧ n ≤ B) (hd : 0 < d ∧ d ≤ B) (hg : n.gcd d = 1) (hi : Cg m (a * d) n) : (0 < u ∧ h = n ∧ u = d) ∨ (u < 0 ∧ -h = n ∧ -u = d) := by
  rcases I.sg with ⟨h1, h2, h3⟩ | ⟨h1, h2, h3⟩
  · exact .inl ⟨h1, ratio_pos I.low I.gx I.hu h1 h2 h3 hB gB hm hn hd hg hi⟩
  · have := ratio_pos (a := -a) (x := -x) (u := -u) (n := -n) I.low (by rw [Int.neg_mul_neg]; exact I.gx) (by rw [Int.neg_mul_neg]; exact I.hu) (by omega) (by omega) (by rw [Int.mul_neg, Int.mul_neg]; omega) hB gB hm (by omega) hd (by rw [Int.neg_gcd]; exact hg) (by rw [Int.neg_mul]; exact hi.neg)
    exact .inr ⟨h1, by omega, this.2⟩
def RatP (a m B n d : Int) : Prop := (-B ≤ n ∧ n ≤ B) ∧ (0 < d ∧ d ≤ B) ∧ n.gcd d = 1 ∧ d.gcd m = 1 ∧ Cg m (a * d) n
open Classical in
noncomputable def ratM (a m B : Int) : Int × Int × Bool := if h : ∃ z : Int × Int, RatP a m B z.1 z.2 then (h.choose.1, h.choose.2, true) else (0, 0, false)
theorem RInv.end_ {m a g x h u B n d : Int} (I : RInv m a g x h u) (hB : h ≤ B) (gB : B < g) (hm : 2 * (B * B) < m) (hr : RatP a m B n d) : (if u < 0 then -h else h) = n ∧ (if u < 0 then -u else u) = d := by
  rcases I.found hB gB hm hr.1 hr.2.1 hr.2.2.1 hr.2.2.2.2 with ⟨h1, h2, h3⟩ | ⟨h1, h2, h3⟩
  · rw [if_neg (by omega), if_neg (by omega)]; exact ⟨h2, h3⟩
  · rw [if_pos h1, if_pos h1]; exact ⟨h2, h3⟩
theorem RInv.yes {m a g x h u B s t : Int} (I : RInv m a g x h u) (hB : h ≤ B) (gB : B < g) (hm : 2 * (B * B) < m) (hs : (if u < 0 then -h else h) = s) (ht : (if u < 0 then -u else u) = t) (hr : RatP a m B s t) : ratM a m B = (s, t, true) := by
  have hx : ∃ z : Int × Int, RatP a m B z.1 z.2 := ⟨(s, t), hr⟩
  unfold ratM
  rw [dif_pos hx]
  have := I.end_ hB gB hm hx.choose_spec
  rw [hs, ht] at this
  rw [← this.1, ← this.2]
theorem RInv.no {m a g x h u B s t : Int} (I : RInv m a g x h u) (hB : h ≤ B) (gB : B < g) (hm : 2 * (B * B) < m) (hs : (if u < 0 then -h else h) = s) (ht : (if u < 0 then -u else u) = t) (hr : ¬ RatP a m B s t) : ratM a m B = (0, 0, false) := by
  unfold ratM
  rw [dif_neg]
  rintro ⟨z, hz⟩
  have := I.end_ hB gB hm hz
  rw [hs, ht] at this
  rw [← this.1, ← this.2] at hz
  exact hr hz
end Go.Proofs.YtcapddcmnjeloaaGreatDoor
end

section
/-
  Plain mathematics of chapter 10: what its functions answer. Nothing of a program is used.
-/
namespace Go.Proofs.YtcapddcmnjeloaaGreatDoor
def imA (n d m : Int) : Bool := isRat n d && decide (1 ≤ m ∧ m ≤ 400000000) && decide (d.gcd m = 1)
theorem imA_says {n d m : Int} (h : imA n d m = true) : IsRatP n d ∧ (1 ≤ m ∧ m ≤ 400000000) ∧ d.gcd m = 1 := by
  unfold imA isRat at h
  simp only [Bool.and_eq_true, decide_eq_true_eq] at h
  exact ⟨h.1.1, h.1.2, h.2⟩
theorem imA_true {n d m : Int} (h1 : isRat n d = true) (h2 : 1 ≤ m ∧ m ≤ 400000000) (h3 : d.gcd m = 1) : imA n d m = true := by
  unfold imA; rw [h1, decide_eq_true h2, decide_eq_true h3]; rfl
theorem imA_rat {n d m : Int} (h : isRat n d = false) : imA n d m = false := by unfold imA; rw [h]; rfl
theorem imA_mod {n d m : Int} (h : ¬ (1 ≤ m ∧ m ≤ 400000000)) : imA n d m = false := by unfold imA; rw [decide_eq_false h, Bool.and_false]; rfl
theorem imA_gcd {n d m : Int} (h : d.gcd m ≠ 1) : imA n d m = false := by unfold imA; rw [decide_eq_false h, Bool.and_false]
def imB (n d a m : Int) : Bool := imA n d m && decide (NumP a) && decide ((a * d - n) % m = 0)
theorem imB_iff {n d a m : Int} : imB n d a m = true ↔ imA n d m = true ∧ NumP a ∧ ImgP n d a m := by
  unfold imB
  simp only [Bool.and_eq_true, decide_eq_true_eq, and_assoc]
  refine and_congr_right fun h => and_congr_right fun _ => ?_
  unfold ImgP Cg
  exact ⟨fun h => Int.dvd_of_emod_eq_zero h, fun h => Int.emod_eq_zero_of_dvd h⟩
theorem imB_no {n d a m : Int} (h : imA n d m = false ∨ ¬ NumP a) : imB n d a m = false := by
  unfold imB
  rcases h with h | h
  · rw [h]; rfl
  · rw [decide_eq_false h, Bool.and_false]; rfl
theorem imB_eq {n d a m : Int} (h : imA n d m = true) (ha : NumP a) {b : Bool} (hb : b = decide ((a % m * (d % m) - n) % m = 0)) : imB n d a m = b := by
  have hm : 0 < m := by have := (imA_says h).2.1.1; omega
  cases hB : imB n d a m with
  | true => rw [hb, decide_eq_true ((img_iff hm).mpr (imB_iff.mp hB).2.2)]
  | false =>
    rw [hb, decide_eq_false]
    intro hz
    rw [imB_iff.mpr ⟨h, ha, (img_iff hm).mp hz⟩] at hB; cases hB
theorem imB_eq2 {n d a m : Int} (h : imA n d m = true) (ha : NumP a) {b : Bool} (hb : b = decide ((a * d - n) % m = 0)) : imB n d a m = b := by
  unfold imB; rw [h, decide_eq_true ha, hb]; rfl
def RtA (a m B : Int) : Prop := NumP a ∧ (1 ≤ m ∧ m ≤ 400000000) ∧ (1 ≤ B ∧ B ≤ 20000) ∧ 2 * B * B < m
instance (a m B : Int) : Decidable (RtA a m B) := by unfold RtA; exact inferInstance
theorem RtA.sq {a m B : Int} (h : RtA a m B) : 2 * (B * B) < m := by rw [← Int.mul_assoc]; exact h.2.2.2
noncomputable def rtX (a m B : Int) : Int × Int × Bool := if RtA a m B then ratM a m B else (0, 0, false)
theorem rtX_no {a m B : Int} (h : ¬ RtA a m B) : rtX a m B = (0, 0, false) := if_neg h
theorem RtA.start {a m B : Int} (h : RtA a m B) : RInv m a m 0 (a % m) 1 ∧ B < m := by
  refine ⟨RInv.start (by have := h.2.1.1; omega), ?_⟩
  have h1 := h.sq
  have h2 := Int.mul_le_mul_of_nonneg_right h.2.2.1.1 (show 0 ≤ B by have := h.2.2.1.1; omega)
  have := h.2.2.1.1
  omega
theorem RatP_iff {a m B n d : Int} (h : RtA a m B) (hn : -B ≤ n ∧ n ≤ B) : RatP a m B n d ↔ d ≤ B ∧ imB n d a m = true := by
  rw [imB_iff]
  have hB := h.2.2.1.2
  constructor
  · rintro ⟨-, h2, h3, h4, h5⟩
    exact ⟨h2.2, imA_true (decide_eq_true ⟨by omega, by omega, by omega, by omega, h3⟩) h.2.1 h4, h.1, h5⟩
  · rintro ⟨h1, h2, -, h4⟩
    obtain ⟨r1, -, r3⟩ := imA_says h2
    exact ⟨hn, ⟨by have := r1.1; omega, h1⟩, r1.2.2.2.2, r3, h4⟩
theorem RInv.ans {m a g x h u B s t : Int} (A : RtA a m B) (I : RInv m a g x h u) (hB : h ≤ B) (gB : B < g) (hs : (if u < 0 then -h else h) = s) (ht : (if u < 0 then -u else u) = t) : rtX a m B = if t ≤ B ∧ imB s t a m = true then (s, t, true) else (0, 0, false) := by
  have hl := I.low
  have hb : -B ≤ s ∧ s ≤ B := by rw [← hs]; split <;> omega
  unfold rtX
  rw [if_pos A]
  split
  · next h1 => exact I.yes hB gB A.sq hs ht ((RatP_iff A hb).mpr h1)
  · next h1 => exact I.no hB gB A.sq hs ht fun h2 => h1 ((RatP_iff A hb).mp h2)
theorem RInv.ans_yes {m a g x h u B s t : Int} (A : RtA a m B) (I : RInv m a g x h u) (hB : h ≤ B) (gB : B < g) (hs : (if u < 0 then -h else h) = s) (ht : (if u < 0 then -u else u) = t) (h1 : t ≤ B) (h2 : imB s t a m = true) : rtX a m B = (s, t, true) := by
  rw [I.ans A hB gB hs ht, if_pos ⟨h1, h2⟩]
theorem RInv.ans_no {m a g x h u B s t : Int} (A : RtA a m B) (I : RInv m a g x h u) (hB : h ≤ B) (gB : B < g) (hs : (if u < 0 then -h else h) = s) (ht : (if u < 0 then -u else u) = t) (h1 : B < t ∨ imB s t a m = false) : rtX a m B = (0, 0, false) := by
  rw [I.ans A hB gB hs ht, if_neg]
  rintro ⟨h2, h3⟩
  rcases h1 with h1 | h1
  · omega
  · rw [h1] at h3; cases h3
end Go.Proofs.YtcapddcmnjeloaaGreatDoor
end
