/-
  Texts of this seat, joined: PrimS · EchS · ElS · ModV · EchT · RkS · IvI · DmI · CmI · PvR · MatDone · DoneI · FoldM · SwR
-/
import Derived.StillTailTactics
import Derived.Deep.DeepCutAuto
import Derived.IntWalk
import Derived.Deep.RegionHeld3
import Derived.BigQuiet
import Derived.Test.YtncplikadacjnaaPk1
import Derived.Test.YtncplikadacjnaaPk2
import Derived.Test.YtncplikadacjnaaPk3
import Derived.Test.YtncplikadacjnaaPk4
import Derived.Test.YtncplikadacjnaaPk5

section
/-
  Chapter 7, in the model: a row made primitive.
-/
namespace Go.Proofs.Ytncplikadacjnaa
set_option maxRecDepth 100000
open Go.RowKit

/-- The worlds of the walk: the argument's block, the row's block, nothing else is touched. -/
structure PrSt (w : World) (r c : Nat) (g N cap : Nat) (ys : List Int) (wr : World) : Prop where
  blk : Blk3 wr w.heap.size 26 (.int .i64 r) (.int .i64 c) (.slice (some ⟨g, 0, none⟩) N cap)
  ints : Ints wr g ys
  grw : w.grownBy wr (some g)
theorem PrSt.put {w : World} {r c g N cap : Nat} {ys : List Int} {wr : World} (h : PrSt w r c g N cap ys wr) (hne : w.heap.size ≠ g) (P : Nat) (z : Int) : PrSt w r c g N cap (ys.set P z) (wr.setCell ⟨g, P, none⟩ (.int .i64 z)) := ⟨h.blk.far hne _, h.ints.set P z, grown_set_one h.grw rfl _⟩
theorem PrSt.drewN {w : World} {r c g N cap : Nat} {ys : List Int} {wr : World} (h : PrSt w r c g N cap ys wr) (n : Nat) : PrSt w r c g N cap ys (wr.drewN n) := ⟨h.blk.drewN n, h.ints.drewN n, grown_drewN_one h.grw n⟩
theorem prV_one {c : Nat} {v : Nat → Int} {k : Nat} (h : gcdN c v ≠ 0) : prV c v k = (sgnN c v * v k).tdiv (gcdN c v) := if_neg h
theorem prV_nil {c : Nat} {v : Nat → Int} {k : Nat} (h : gcdN c v = 0) : prV c v k = v k := if_pos h
theorem sgn_step {n : Nat} {f : Nat → Int} : sgnN (n + 1) f = if sgnN n f = 0 ∧ f n ≠ 0 then (if f n < 0 then -1 else 1) else sgnN n f := rfl
end Go.Proofs.Ytncplikadacjnaa
end

section
/-
  Chapter 7, in the model: the elimination.
-/
namespace Go.Proofs.Ytncplikadacjnaa
set_option maxRecDepth 100000
open Go.RowKit

def pvI (pv : List Nat) : List Int := pv.map fun (k : Nat) => (k : Int)
/-- The worlds of the walk: the copy, the result's block, the pivots. -/
structure EcSt (w : World) (B b rb r c g N cap : Nat) (ys : List Int) (v : Value) (pv : List Nat) (wr : World) : Prop where
  blk : Blk3 wr b 26 (.int .i64 r) (.int .i64 c) (.slice (some ⟨g, 0, none⟩) N cap)
  ret : Blk3 wr rb 26 (.int .i64 0) (.int .i64 0) (.slice none 0 0)
  ints : Ints wr g ys
  own : OwnQ B wr v (pvI pv)
  bel : Below w.heap.size w wr
  le : B ≤ wr.heap.size
theorem EcSt.one {w : World} {B b rb r c g N cap : Nat} {ys ys' : List Int} {v : Value} {pv : List Nat} {wr w' : World} (h : EcSt w B b rb r c g N cap ys v pv wr) (hi : Ints w' g ys') (hg : wr.grownBy w' (some g)) (hb : b ≠ g) (hr : rb ≠ g) (hB : g < B) (hw : w.heap.size ≤ g) : EcSt w B b rb r c g N cap ys' v pv w' :=
  ⟨h.blk.keepOne hg hb, h.ret.keepOne hg hr, hi, h.own.one hg hB, h.bel.trans (below_of_one hg hw h.bel.size), Nat.le_trans h.le hg.size⟩
theorem EcSt.put {w : World} {B b rb r c g N cap : Nat} {ys : List Int} {v : Value} {pv : List Nat} {wr : World} (h : EcSt w B b rb r c g N cap ys v pv wr) (hb : b ≠ g) (hr : rb ≠ g) (hB : g < B) (hw : w.heap.size ≤ g) (P : Nat) (z : Int) : EcSt w B b rb r c g N cap (ys.set P z) v pv (wr.setCell ⟨g, P, none⟩ (.int .i64 z)) :=
  h.one (h.ints.set P z) (grown_set_one (World.grownBy.refl _ _) rfl _) hb hr hB hw
theorem EcSt.drewN {w : World} {B b rb r c g N cap : Nat} {ys : List Int} {v : Value} {pv : List Nat} {wr : World} (h : EcSt w B b rb r c g N cap ys v pv wr) (n : Nat) : EcSt w B b rb r c g N cap ys v pv (wr.drewN n) :=
  ⟨h.blk.drewN n, h.ret.drewN n, h.ints.drewN n, h.own.drewN n, below_drewN h.bel n, h.le⟩
theorem prL_self {r c i : Nat} {xs : List Int} (hx : xs.length = r * c) (h : i < r → Norm c (mxC c xs i)) : prL r c i xs = xs := by
  rw [prL_row]
  exact rowL_self hx fun hi q hq => prV_id (h hi) hq
theorem EcSt.drew {w : World} {B b rb r c g N cap : Nat} {ys : List Int} {v : Value} {pv : List Nat} {wr : World} (h : EcSt w B b rb r c g N cap ys v pv wr) : EcSt w B b rb r c g N cap ys v pv wr.drew := h.drewN 1
/-- What the elimination gives. -/
def EchP (w : World) (r c : Nat) (o : Option (List Int × List Nat)) (e : Ending) (w' : World) : Prop :=
  (∃ (va vb : Value) (ys : List Int) (pv : List Nat), o = some (ys, pv) ∧ e = .returned (.tuple #[.agg #[.int .i64 r, .int .i64 c, va], vb, .bool true]) ∧ Own w.heap.size w' va ys ∧ Own w.heap.size w' vb (pvI pv) ∧ (∀ k, va.ownBlock = some k → vb.ownBlock ≠ some k) ∧ Below w.heap.size w w')
  ∨ (∃ vb : Value, o = none ∧ e = .returned (.tuple #[.agg #[.int .i64 0, .int .i64 0, .slice none 0 0], vb, .bool false]) ∧ Own w.heap.size w' vb [] ∧ Below w.heap.size w w')
theorem OwnQ.far {B : Nat} {w : World} {v : Value} {zs : List Int} (h : OwnQ B w v zs) {a : Addr} (ha : a.block < B) (u : Value) : OwnQ B (w.setCell a u) v zs :=
  h.move fun k hk => Below.heap_setCell w a u k (by have := h.le hk; omega)
theorem pvI_length (pv : List Nat) : (pvI pv).length = pv.length := List.length_map ..
theorem EcSt.end_ {w : World} {B b rb r c g N cap : Nat} {ys : List Int} {q : Option Addr} {n qc : Nat} {pv : List Nat} {wr : World} (h : EcSt w B b rb r c g N cap ys (.slice q n qc) pv wr) (hl : ys.length = N) (hcap : N ≤ cap) (hN : N ≤ 576) (hpv : pv.length ≤ 24) (hgB : g < B) (hw : w.heap.size ≤ g) (hrw : w.heap.size ≤ rb) (hrg : rb ≠ g) (hrB : rb < B) (x y z : Value) :
    EchP w r c (some (ys, pv)) (.returned (.tuple #[.agg #[.int .i64 r, .int .i64 c, .slice (some ⟨g, 0, none⟩) N cap], .slice q n qc, .bool true])) (((wr.setCell ⟨rb, 0, none⟩ x).setCell ⟨rb, 1, none⟩ y).setCell ⟨rb, 2, none⟩ z) := by
  refine .inl ⟨_, _, ys, pv, rfl, rfl, .inr ⟨g, cap, by rw [hl], hw, ?_, by omega, by omega⟩, ?_, fun k hk e => ?_, ?_⟩
  · exact ((h.ints.far (a := ⟨rb, 0, none⟩) hrg.symm x).far (a := ⟨rb, 1, none⟩) hrg.symm y).far (a := ⟨rb, 2, none⟩) hrg.symm z
  · exact ((((h.own.far (a := ⟨rb, 0, none⟩) hrB x).far (a := ⟨rb, 1, none⟩) hrB y).far (a := ⟨rb, 2, none⟩) hrB z).lower (by omega)).own (by rw [pvI_length]; omega)
  · simp only [Value.ownBlock, Option.some.injEq] at hk
    have := h.own.le e
    omega
  · exact ((h.bel.setCell hrw x).setCell hrw y).setCell hrw z
theorem EcSt.bad {w : World} {B b rb r c g N cap : Nat} {ys : List Int} {v : Value} {pv : List Nat} {wr : World} (h : EcSt w B b rb r c g N cap ys v pv wr) (hw : w.heap.size ≤ B) (hrw : w.heap.size ≤ rb) (hrB : rb < B) (x y z : Value) :
    EchP w r c none (.returned (.tuple #[.agg #[.int .i64 0, .int .i64 0, .slice none 0 0], .slice (some ⟨wr.heap.size, 0, none⟩) 0 0, .bool false])) ((((wr.alloc (.cells #[] 3)).setCell ⟨rb, 0, none⟩ x).setCell ⟨rb, 1, none⟩ y).setCell ⟨rb, 2, none⟩ z) := by
  have hl := h.le
  have o : OwnQ B (wr.alloc (.cells #[] 3)) (.slice (some ⟨wr.heap.size, 0, none⟩) 0 0) [] := OwnQ.none_ h.le ⟨Nat.zero_le _, [], rfl, heap_alloc_new wr _⟩
  refine .inr ⟨_, rfl, rfl, ?_, ?_⟩
  · exact ((((o.far (a := ⟨rb, 0, none⟩) hrB x).far (a := ⟨rb, 1, none⟩) hrB y).far (a := ⟨rb, 2, none⟩) hrB z).lower hw).own (by simp)
  · exact (((h.bel.alloc h.bel.size _).setCell hrw x).setCell hrw y).setCell hrw z
theorem tdiv_bb {x y b : Int} (h1 : -b ≤ x) (h2 : x ≤ b) : -b ≤ x.tdiv y ∧ x.tdiv y ≤ b := by
  have h := Int.natAbs_tdiv_le_natAbs x y
  omega
theorem swC_nums {r c p t : Nat} {xs : List Int} (hx : xs.length = r * c) (hn : nums xs = true) (hp : p < r) (ht : t < r) : nums (swC p t c xs) = true := nums_true fun k hk => by
  rw [swC_length, hx] at hk
  have hc : 0 < c := by
    rcases Nat.eq_zero_or_pos c with e | e
    · subst e; omega
    · exact e
  have e : k = k / c * c + k % c := by rw [Nat.mul_comm]; exact (Nat.div_add_mod k c).symm
  have h1 : k / c < r := Nat.div_lt_of_lt_mul (by rw [Nat.mul_comm]; exact hk)
  have := swC_at (p := p) (t := t) hx h1 (Nat.mod_lt k hc)
  unfold mxC at this
  rw [e, this]
  refine mx_nums hx hn ?_ (Nat.mod_lt k hc)
  split
  · exact ht
  · split <;> omega
theorem EcSt.app {w : World} {B b rb r c g N cap : Nat} {ys : List Int} {v v' : Value} {pv pv' : List Nat} {wr w' : World} (h : EcSt w B b rb r c g N cap ys v pv wr) {o : Obj} (hg : (wr.alloc o).grownBy w' v.ownBlock) (ho : OwnQ B w' v' (pvI pv')) (hb : b < B) (hr : rb < B) (hgB : g < B) (hw : w.heap.size ≤ B) : EcSt w B b rb r c g N cap ys v' pv' w' := by
  have keep : ∀ k, k < B → k < wr.heap.size → w'.heap[k]? = wr.heap[k]? := fun k hk hl => (hg.block k (by simp; omega) (fun e => by have := h.own.le e.symm; omega)).trans (Below.heap_alloc wr o k hl)
  have hs := hg.size
  simp at hs
  have hl := h.le
  exact ⟨(keep b hb h.blk.lt).trans h.blk, (keep rb hr h.ret.lt).trans h.ret, h.ints.move (keep g hgB h.ints.lt), ho, h.bel.trans ⟨hg.os, hg.tape, hg.output, by omega, fun k hk => keep k (by omega) (by omega)⟩, by omega⟩
end Go.Proofs.Ytncplikadacjnaa
end

section
/-
  Chapter 8, in the model: the elimination over residues.
-/
namespace Go.Proofs.Ytncplikadacjnaa
set_option maxRecDepth 100000
open Go.RowKit

theorem ivM_can {p x : Int} (h : prmB p = true) (h0 : 0 ≤ x) (h1 : x < p) (hx : x ≠ 0) : ivM p x = (invF p x, true) := by
  obtain ⟨hp, hp2⟩ := prmB_says h
  have e : x % p = x := Int.emod_eq_of_lt h0 h1
  exact ivM_yes h (by unfold NumP; omega) e hx
theorem CanL.at_ {p : Int} {xs : List Int} (h : CanL p xs) {k : Nat} (hk : k < xs.length) : 0 ≤ xs.getD k 0 ∧ xs.getD k 0 < p := h k hk
/-- What the elimination gives. -/
def ElP (w : World) (r c : Nat) (R : List Int × List Nat × Int) (e : Ending) (w' : World) : Prop :=
  ∃ (va vb : Value), e = .returned (.tuple #[.agg #[.int .i64 r, .int .i64 c, va], vb, .int .i64 R.2.2]) ∧ Own w.heap.size w' va R.1 ∧ Own w.heap.size w' vb (pvI R.2.1) ∧ (∀ k, va.ownBlock = some k → vb.ownBlock ≠ some k) ∧ Below w.heap.size w w'
theorem EcSt.endM {w : World} {B b rb r c g N cap : Nat} {ys : List Int} {q : Option Addr} {n qc : Nat} {pv : List Nat} {wr : World} (h : EcSt w B b rb r c g N cap ys (.slice q n qc) pv wr) (hl : ys.length = N) (hcap : N ≤ cap) (hN : N ≤ 576) (hpv : pv.length ≤ 24) (hgB : g < B) (hw : w.heap.size ≤ g) (hrw : w.heap.size ≤ rb) (hrg : rb ≠ g) (hrB : rb < B) (d : Int) (x y z : Value) :
    ElP w r c (ys, pv, d) (.returned (.tuple #[.agg #[.int .i64 r, .int .i64 c, .slice (some ⟨g, 0, none⟩) N cap], .slice q n qc, .int .i64 d])) (((wr.setCell ⟨rb, 0, none⟩ x).setCell ⟨rb, 1, none⟩ y).setCell ⟨rb, 2, none⟩ z) := by
  refine ⟨_, _, rfl, .inr ⟨g, cap, by rw [hl], hw, ?_, by rw [hl]; exact hcap, by rw [hl]; omega⟩, ?_, fun k hk e => ?_, ?_⟩
  · exact ((h.ints.far (a := ⟨rb, 0, none⟩) hrg.symm x).far (a := ⟨rb, 1, none⟩) hrg.symm y).far (a := ⟨rb, 2, none⟩) hrg.symm z
  · exact ((((h.own.far (a := ⟨rb, 0, none⟩) hrB x).far (a := ⟨rb, 1, none⟩) hrB y).far (a := ⟨rb, 2, none⟩) hrB z).lower (by omega)).own (by rw [pvI_length]; omega)
  · simp only [Value.ownBlock, Option.some.injEq] at hk
    have := h.own.le e
    omega
  · exact ((h.bel.setCell hrw x).setCell hrw y).setCell hrw z
theorem mul_bd {a b p : Int} (ha : 0 ≤ a) (ha2 : a < p) (hb : 0 ≤ b) (hb2 : b < p) (hp : p ≤ 10000) : 0 ≤ a * b ∧ a * b ≤ 100000000 := by
  refine ⟨Int.mul_nonneg ha hb, ?_⟩
  have : a * b ≤ 10000 * 10000 := Int.mul_le_mul (by omega) (by omega) hb (by omega)
  omega
set_option maxHeartbeats 4000000 in
theorem sEl (r c n N : Nat) (p : Int) (a : Option Addr) (m : Nat) (xs : List Int) (w : World) (h : Rd w a xs) (ha : Spot a) (hx : xs.length = N) (hN : N = r * c) (hr : r ≤ 24) (hc : c ≤ 24) (hnc : n ≤ c) (hp : prmB p = true) (hcan : CanL p xs) :
    Calls Try.prog 45 #[.agg #[.int .i64 r, .int .i64 c, .slice a N m], .int .i64 p, .int .i64 n] w (ElP w r c (elP p r c n 0 xs [] 1)) := by
  have hle : r * c ≤ 24 * 24 := Nat.mul_le_mul hr hc
  rw [← hN] at hle
  obtain ⟨pp, hp2⟩ := prmB_says hp
  have hp1 := pp.1
  have np : ¬ p = 0 := by omega
  have PP := Lib.hid pp
  have PB := Lib.hid hp
  have CP : Hid (∀ w', Below w.heap.size w w' → Calls Try.prog 69 #[.agg #[.int .i64 r, .int .i64 c, .slice a N m]] w' (fun e w2 => ∃ g cap : Nat, e = .returned (.agg #[.int .i64 r, .int .i64 c, .slice (some ⟨g, 0, none⟩) N cap]) ∧ w'.heap.size ≤ g ∧ IntsC w2 g cap xs ∧ Below w'.heap.size w' w2)) := fun w' hb => sCopyA r c a m N xs w' (h.below hb) ha hx (by omega)
  have IX : Hid (∀ i j, i < r → j < c → ∃ P : Nat, i * c + j = P ∧ P < N ∧ IntKind.i64.wrap ((i : Int) * (c : Int)) = (i : Int) * (c : Int) ∧ IntKind.i64.wrap ((i : Int) * (c : Int) + (j : Int)) = (P : Int)) := fun i j hi hj => by
    have h1 : i * c + j < r * c := idx_lt hi hj
    have c1 : (i : Int) * (c : Int) = ((i * c : Nat) : Int) := (Int.natCast_mul _ _).symm
    refine ⟨i * c + j, rfl, by omega, IntWalk.i64_in _ (by rw [c1]; omega), ?_⟩
    rw [show (i : Int) * (c : Int) + (j : Int) = ((i * c + j : Nat) : Int) by rw [c1]; omega]
    exact IntWalk.i64_in _ (by omega)
  have HR : Hid (elP p r c n 0 xs [] 1 = elP p r c n 0 xs [] 1) := rfl
  obtain ⟨RES, hRES⟩ : ∃ RES, elP p r c n 0 xs [] 1 = RES := ⟨_, rfl⟩
  rw [hRES] at HR ⊢
  clear HR
  have HR : Hid (elP p r c n 0 xs [] 1 = RES) := hRES
  have HN := Lib.hid hN
  have HX := Lib.hid hx
  have CX := Lib.hid hcan
  clear hN hx hcan h ha pp hRES hp
  go_enter Try.func45, Try.ntmps45
  go_upto_region 1 with fail
  have K0 : Hid (Blk3 ((w.alloc (.cells #[.int .i64 r, .int .i64 c, .slice a N m] 26)).alloc (.cells #[.int .i64 0, .int .i64 0, .slice none 0 0] 26)) w.heap.size 26 (.int .i64 r) (.int .i64 c) (.slice a N m)) := (Blk3.at_ _ _ _ _ rfl).old _
  have R0 : Hid (Blk3 ((w.alloc (.cells #[.int .i64 r, .int .i64 c, .slice a N m] 26)).alloc (.cells #[.int .i64 0, .int .i64 0, .slice none 0 0] 26)) (w.heap.size + 1) 26 (.int .i64 0) (.int .i64 0) (.slice none 0 0)) := Blk3.at_ _ _ _ _ (by simp)
  have B0 : Hid (Below w.heap.size w ((w.alloc (.cells #[.int .i64 r, .int .i64 c, .slice a N m] 26)).alloc (.cells #[.int .i64 0, .int .i64 0, .slice none 0 0] 26))) := ((Below.refl _ _).alloc (Nat.le_refl _) _).alloc (by simp) _
  have S0 : Hid (((w.alloc (.cells #[.int .i64 r, .int .i64 c, .slice a N m] 26)).alloc (.cells #[.int .i64 0, .int .i64 0, .slice none 0 0] 26)).heap.size = w.heap.size + 2) := by show _ = _; simp
  generalize (w.alloc (.cells #[.int .i64 r, .int .i64 c, .slice a N m] 26)).alloc (.cells #[.int .i64 0, .int .i64 0, .slice none 0 0] 26) = W0 at K0 R0 B0 S0 ⊢
  obtain ⟨p0, p1, p2, -, -, -⟩ := K0.out.all
  go_wp2_with fail
  refine (CP.out _ B0.out).mono ?_
  rintro e w1 ⟨g, cap, rfl, hg, hi, hb⟩
  have gl := hi.lt
  have hcap := hi.le
  have s0 := S0.out
  have I0 := Lib.hid (hi.ints.old (.cells #[.int .i64 r, .int .i64 c, .slice (some ⟨g, 0, none⟩) N cap] 26))
  have R1 := Lib.hid ((R0.out.step hb).old (.cells #[.int .i64 r, .int .i64 c, .slice (some ⟨g, 0, none⟩) N cap] 26))
  have K1 : Hid (Blk3 (w1.alloc (.cells #[.int .i64 r, .int .i64 c, .slice (some ⟨g, 0, none⟩) N cap] 26)) w1.heap.size 26 (.int .i64 r) (.int .i64 c) (.slice (some ⟨g, 0, none⟩) N cap)) := Blk3.at_ _ _ _ _ rfl
  have Bx := B0.out.trans (hb.mono (by omega))
  have B1 := Lib.hid (Bx.alloc Bx.size (.cells #[.int .i64 r, .int .i64 c, .slice (some ⟨g, 0, none⟩) N cap] 26))
  have S1 : Hid ((w1.alloc (.cells #[.int .i64 r, .int .i64 c, .slice (some ⟨g, 0, none⟩) N cap] 26)).heap.size = w1.heap.size + 1) := by show _ = _; simp
  rw [HX.out] at hcap
  have sb := hb.size
  clear hb hi Bx K0 R0 B0 S0 p0 p1 p2
  go_upto_region 2 with fail
  generalize w1.alloc (.cells #[.int .i64 r, .int .i64 c, .slice (some ⟨g, 0, none⟩) N cap] 26) = W at I0 R1 K1 B1 S1 ⊢
  obtain ⟨b, hbb⟩ : ∃ b, w1.heap.size = b := ⟨_, rfl⟩
  rw [hbb] at K1 S1 gl sb ⊢
  have lgb : g < b := gl
  have lrb : w.heap.size + 1 < g := by omega
  have lwg : w.heap.size < g := by omega
  have s1 := S1.out
  clear hbb S1 s0 gl sb hg
  obtain ⟨rb, hrb⟩ : ∃ rb, w.heap.size + 1 = rb := ⟨_, rfl⟩
  rw [hrb] at R1 lrb ⊢
  clear w1
  have lwr : w.heap.size < rb := by omega
  clear hrb
  go_upto_region 3 with fail
  have ST : Hid (EcSt w (b + 1) b rb r c g N cap xs (.slice (some ⟨b + 1, 0, none⟩) 0 0) [] (W.alloc (.cells #[] 3))) := ⟨K1.out.old _, R1.out.old _, I0.out.old _, OwnQ.none_ (Nat.le_refl _) ⟨Nat.zero_le _, [], rfl, by rw [← s1]; exact heap_alloc_new W _⟩, B1.out.alloc B1.out.size _, by simp; omega⟩
  generalize W.alloc (.cells #[] 3) = W2 at ST ⊢
  clear K1 R1 I0 B1 s1
  go_wp2_with fail
  go_loopw [10, 11, 12, 13, 14, 15, 16, 17, 18, 19, 20] (fun v10 v11 v12 _ _ _ _ _ _ _ _ wr => ∃ (j k : Nat) (ys : List Int) (q : Option Addr) (qc : Nat) (pv : List Nat) (d : Int), v10 = .slice q pv.length qc ∧ v11 = .int .i64 d ∧ v12 = .int .i64 j ∧ j + k = n ∧ ys.length = N ∧ CanL p ys ∧ pv.length ≤ r ∧ 0 ≤ d ∧ d < p ∧ elP p r c k j ys pv d = RES ∧ EcSt w (b + 1) b rb r c g N cap ys (.slice q pv.length qc) pv wr) (fun _ _ v12 _ _ _ _ _ _ _ _ _ => n - (intOf v12).toNat)
  case atStart => exact ⟨0, n, xs, _, _, [], 1, rfl, rfl, rfl, by omega, HX.out, CX.out, by simp, by decide, by omega, HR.out, ST.out⟩
  case round =>
    clear ST HR CX
    obtain ⟨j, k, ys, q, qc, pv, d, rfl, rfl, rfl, hjk, hl, hn, hpv, hd0, hd1, hR, hst⟩ := hrel
    have ST := Lib.hid hst
    have HL := Lib.hid hl
    have HY := Lib.hid hn
    have HR := Lib.hid hR
    clear hst hl hn hR
    obtain ⟨t, ht⟩ : ∃ t, pv.length = t := ⟨_, rfl⟩
    have PT := Lib.hid ht
    rw [ht] at ST hpv ⊢
    clear ht
    obtain ⟨p0, p1, p2, -, -, -⟩ := ST.out.blk.all
    by_cases hjn : j < n
    · have hjc : j < c := by omega
      by_cases htr : t < r
      · obtain ⟨k, rfl⟩ : ∃ k', k = k' + 1 := ⟨k - 1, by omega⟩
        go_wp2_with fail
        go_loopw [14] (fun v14 wq => ∃ s : Nat, v14 = .int .i64 s ∧ t ≤ s ∧ s ≤ r ∧ (∀ i, t ≤ i → i < s → mxC c ys i j = 0) ∧ wq = wr) (fun v14 _ => r - (intOf v14).toNat)
        case atStart => exact ⟨t, rfl, Nat.le_refl _, by omega, fun i h1 h2 => by omega, rfl⟩
        case round =>
          obtain ⟨s, rfl, hs1, hs2, hs0, rfl⟩ := hrel
          have P0 := Lib.hid hs0
          clear hs0
          by_cases hsr : s < r
          · obtain ⟨P, hP, hPN, u1, u2⟩ := IX.out s j hsr hjc
            have Pa : (0 : Int) ≤ (P : Int) := by omega
            have Pb : (P : Int) < (N : Int) := by omega
            have hcell := ST.out.ints.cell (i := P) (by rw [HL.out]; exact hPN)
            rw [← hP, show ys.getD (s * c + j) 0 = mxC c ys s j from rfl, hP] at hcell
            obtain ⟨x, hxx⟩ : ∃ x, mxC c ys s j = x := ⟨_, rfl⟩
            have X := Lib.hid hxx
            rw [hxx] at hcell
            clear hxx hP
            by_cases h0 : x = 0
            · have n1 : (x == 0) = true := by simp [h0]
              have P1 : Hid (∀ i, t ≤ i → i < s + 1 → mxC c ys i j = 0) := fun i h1 h2 => by
                rcases Nat.lt_or_ge i s with h3 | h3
                · exact P0.out i h1 h3
                · obtain rfl : i = s := by omega
                  rw [X.out, h0]
              clear h0
              go_wp2_with fail
              go_roundw
              case rel => exact ⟨s + 1, by go_num, by omega, by omega, P1.out, trivial⟩
              case measure => simp [intOf]; omega
            · have n1 : (x == 0) = false := by simpa using h0
              have FS : Hid (fstR c j ys (r - pv.length) pv.length = s) := fstR_eq (by rw [PT.out]; omega) (by rw [PT.out]; omega) (fun i h1 h2 => P0.out i (by rw [← PT.out]; exact h1) h2) (fun _ => by rw [X.out]; exact h0)
              have ZL : Hid ((swC s t c ys).length = N) := by show _ = _; rw [swC_length, HL.out]
              have ZC : Hid (CanL p (swC s t c ys)) := HY.out.sw (by rw [HL.out, HN.out]) hsr htr
              have ZX : Hid (mxC c (swC s t c ys) t j = x) := by
                show _ = _
                rw [swC_at (by rw [HL.out, HN.out]) htr hjc, ← X.out]
                by_cases e : t = s
                · rw [if_pos e, e]
                · rw [if_neg e, if_pos rfl]
              have hx0 : 0 ≤ x ∧ x < p := by rw [← X.out]; exact HY.out.mx (by rw [HL.out, HN.out]) hsr hjc
              have EO : Hid (elP p r c k (j + 1) (clP p r c t j r 0 (rowL r c t (scV p (invF p x) (mxC c (swC s t c ys) t)) (swC s t c ys))) (pv ++ [j]) (((if s = t then d else (-d) % p) * x) % p) = RES) := by
                have h1 := HR.out
                rw [elP_on (s := s) (by rw [PT.out]; exact htr) FS.out (by omega), PT.out, ZX.out] at h1
                exact h1
              have SW : Hid (s ≠ t → opL 0 s t 0 c ys = swC s t c ys) := fun h => by unfold swC; rw [if_neg h]
              have SN : Hid (s = t → ys = swC s t c ys) := fun h => by unfold swC; rw [if_pos h]
              obtain ⟨IV1, IV2, IV3⟩ := PP.out.hasInv.inv PP.out (can_nd hx0 h0)
              have IM := Lib.hid (ivM_can PB.out hx0.1 hx0.2 h0)
              have IVp := Lib.hid IV1
              clear IV1
              generalize swC s t c ys = zs at ZL ZC ZX EO SW SN
              have n3 : ((s : Int) == (r : Int)) = false := by simp; omega
              have hcx := hx0.1
              have hcx2 := hx0.2
              clear hx0
              obtain ⟨d2, hd2⟩ : ∃ d2, (if s = t then d else (-d) % p) = d2 := ⟨_, rfl⟩
              have D2 := Lib.hid hd2
              rw [hd2] at EO
              have d20 : 0 ≤ d2 ∧ d2 < p := by
                rw [← hd2]
                split
                · exact ⟨hd0, hd1⟩
                · exact ⟨Int.emod_nonneg _ (by omega), Int.emod_lt_of_pos _ (by omega)⟩
              obtain ⟨d21, d22⟩ := d20
              clear hd2
              go_upto_if 64 with fail
              go_cut [11] (fun v11 wx => v11 = .int .i64 d2 ∧ EcSt w (b + 1) b rb r c g N cap zs (.slice q t qc) pv wx)
              case first =>
                by_cases hst : s = t
                · have n2 : ((s : Int) != (t : Int)) = false := by simp [hst]
                  have hs := ST.out
                  rw [SN.out hst] at hs
                  have S2 := Lib.hid hs
                  have DD : Hid (d = d2) := by show _ = _; rw [← D2.out, if_pos hst]
                  clear hs hst
                  go_wp2_with fail
                  go_meet
                  exact ⟨by rw [DD.out], S2.out⟩
                · have n2 : ((s : Int) != (t : Int)) = true := by simp; omega
                  have DD : Hid ((-d) % p = d2) := by show _ = _; rw [← D2.out, if_neg hst]
                  have w9 : IntKind.i64.wrap (-d) = -d := IntWalk.i64_in _ (by omega)
                  go_wp2_with fail
                  refine (sDo r c s t g N cap 0 0 ys _ ST.out.ints HL.out HN.out hr hc hsr htr (.inl rfl) (fun _ => hst)).mono ?_
                  rintro e w4 ⟨rfl, hi4, hg4⟩
                  have hs := ST.out.one hi4 hg4 (by omega) (by omega) (by omega) (by omega)
                  rw [SW.out hst] at hs
                  have S2 := Lib.hid hs
                  clear hs hi4 hg4
                  go_wp2_with fail
                  refine (sMod (-d) p _ (by omega) (by omega)).mono ?_
                  rintro e w5 ⟨rfl, rfl⟩
                  go_wp2_with fail
                  go_meet
                  exact ⟨by rw [DD.out], S2.out⟩
              case rest =>
                clear ST SW SN HR FS P0 X HY HL
                obtain ⟨rfl, hst⟩ := hcut
                have ST := Lib.hid hst
                clear hst hcell p0 p1 p2
                obtain ⟨p0, p1, p2, -, -, -⟩ := ST.out.blk.all
                obtain ⟨P', hP', hPN', u1', u2'⟩ := IX.out t j htr hjc
                have Pa' : (0 : Int) ≤ (P' : Int) := by omega
                have Pb' : (P' : Int) < (N : Int) := by omega
                have hcell := ST.out.ints.cell (i := P') (by rw [ZL.out]; exact hPN')
                rw [← hP', show zs.getD (t * c + j) 0 = mxC c zs t j from rfl, ZX.out, hP'] at hcell
                obtain ⟨m1, m2⟩ := mul_bd d21 d22 hcx hcx2 hp2
                obtain ⟨y, hy⟩ : ∃ y, d2 * x = y := ⟨_, rfl⟩
                have w1 : IntKind.i64.wrap (d2 * x) = y := by rw [← hy]; exact IntWalk.i64_in _ (by omega)
                rw [hy] at m1 m2 EO
                clear hP' hy
                go_upto_region 16 with fail
                go_wp2_with fail
                refine (sInvM x p _).mono ?_
                rintro e w4 ⟨rfl, nq, rfl⟩
                rw [IM.out]
                have ST := Lib.hid (ST.out.drewN nq)
                generalize wc.drewN nq = wz at ST ⊢
                have HV : Hid (invF p x = invF p x) := rfl
                obtain ⟨v, hv⟩ : ∃ v, invF p x = v := ⟨_, rfl⟩
                rw [hv] at EO IV2 IV3 ⊢
                clear IM IVp HV hv hcell p0 p1 p2
                obtain ⟨p0, p1, p2, -, -, -⟩ := ST.out.blk.all
                have ZT : Hid (∀ q, q < c → 0 ≤ mxC c zs t q ∧ mxC c zs t q < p) := fun q hq => ZC.out.mx (by rw [ZL.out, HN.out]) htr hq
                have UL : Hid ((rowL r c t (scV p v (mxC c zs t)) zs).length = N) := by show _ = _; rw [rowL_length, HN.out]
                have UC : Hid (CanL p (rowL r c t (scV p v (mxC c zs t)) zs)) := ZC.out.row (by rw [ZL.out, HN.out]) fun q _ => ⟨Int.emod_nonneg _ (by omega), Int.emod_lt_of_pos _ (by omega)⟩
                have RT : Hid (∀ k, k < c → (rowTo r c t (scV p v (mxC c zs t)) zs k).set (t * c + k) ((mxC c zs t k * v) % p) = rowTo r c t (scV p v (mxC c zs t)) zs (k + 1)) := fun k hk => rowTo_step htr hk
                have RX : Hid (∀ k, k < c → (rowTo r c t (scV p v (mxC c zs t)) zs k).getD (t * c + k) 0 = mxC c zs t k) := fun k hk => rowTo_old htr hk (.inr (Nat.le_refl _))
                have RL : Hid (∀ k, (rowTo r c t (scV p v (mxC c zs t)) zs k).length = N) := fun k => by rw [rowTo_length, HN.out]
                have RA : Hid (rowTo r c t (scV p v (mxC c zs t)) zs c = rowL r c t (scV p v (mxC c zs t)) zs) := rowTo_all
                rw [← rowTo_zero (r := r) (c := c) (i := t) (v := scV p v (mxC c zs t)) (xs := zs) (by rw [ZL.out, HN.out])] at ST
                go_wp2_with fail
                clear p0 p1 p2
                go_loopw [17] (fun v17 wv => ∃ h : Nat, v17 = .int .i64 h ∧ h ≤ c ∧ EcSt w (b + 1) b rb r c g N cap (rowTo r c t (scV p v (mxC c zs t)) zs h) (.slice q t qc) pv wv) (fun v17 _ => c - (intOf v17).toNat)
                case atStart => exact ⟨0, rfl, by omega, by first | exact ST.out | (have h := ST.out; rw [rowTo_zero (by rw [rowTo_length])] at h; exact h)⟩
                case round =>
                  clear ST
                  obtain ⟨h, rfl, hh, hst⟩ := hrel
                  have ST := Lib.hid hst
                  clear hst
                  obtain ⟨p0, p1, p2, -, -, -⟩ := ST.out.blk.all
                  by_cases hhc : h < c
                  · obtain ⟨P, hP, hPN, u1, u2⟩ := IX.out t h htr hhc
                    have Pa : (0 : Int) ≤ (P : Int) := by omega
                    have Pb : (P : Int) < (N : Int) := by omega
                    have hcell := ST.out.ints.cell (i := P) (by rw [RL.out]; exact hPN)
                    have hfr := ST.out.ints.free P
                    rw [← hP, RX.out h hhc, hP] at hcell
                    obtain ⟨z1, z2⟩ := ZT.out h hhc
                    have RS := Lib.hid (RT.out h hhc)
                    rw [hP] at RS
                    generalize mxC c zs t h = ea at hcell z1 z2 RS
                    obtain ⟨m3, m4⟩ := mul_bd z1 z2 IV2 IV3 hp2
                    obtain ⟨y2, hy2⟩ : ∃ y2, ea * v = y2 := ⟨_, rfl⟩
                    have w2 : IntKind.i64.wrap (ea * v) = y2 := by rw [← hy2]; exact IntWalk.i64_in _ (by omega)
                    rw [hy2] at m3 m4 RS
                    have e2 : Int.tmod y2 p = y2 % p := Int.tmod_eq_emod_of_nonneg m3
                    clear hy2 hP
                    go_wp2_with fail
                    go_still_tail 23, (by kernel_rfl)
                    go_wp2_with fail
                    go_roundw
                    case rel => exact ⟨h + 1, by go_num, by omega, by rw [← RS.out]; exact (ST.out.drew).put (by omega) (by omega) (by omega) (by omega) P (y2 % p)⟩
                    case measure => simp [intOf]; omega
                  · obtain rfl : c = h := by omega
                    clear hhc
                    rw [RA.out] at ST
                    generalize rowL r c t (scV p v (mxC c zs t)) zs = vs at ST EO UL UC
                    clear RT RX RL RA ZT ZL ZC ZX
                    obtain ⟨E, hE⟩ : ∃ E, clP p r c t j r 0 vs = E := ⟨_, rfl⟩
                    rw [hE] at EO
                    have EE := Lib.hid hE
                    clear hE
                    go_wp2_with fail
                    clear p0 p1 p2
                    go_loopw [18, 19, 20] (fun v18 _ _ wu => ∃ (i l : Nat) (us : List Int), v18 = .int .i64 i ∧ i + l = r ∧ us.length = N ∧ CanL p us ∧ clP p r c t j l i us = E ∧ EcSt w (b + 1) b rb r c g N cap us (.slice q t qc) pv wu) (fun v18 _ _ _ => r - (intOf v18).toNat)
                    case atStart => exact ⟨0, r, vs, rfl, by omega, UL.out, UC.out, EE.out, ST.out⟩
                    case round =>
                      clear ST UL UC EE
                      obtain ⟨i, l, us, rfl, hil, hul, hun, hue, hst⟩ := hrel
                      have ST := Lib.hid hst
                      have UL := Lib.hid hul
                      have UN := Lib.hid hun
                      have UE := Lib.hid hue
                      clear hst hul hun hue
                      obtain ⟨p0, p1, p2, -, -, -⟩ := ST.out.blk.all
                      by_cases hir : i < r
                      · obtain ⟨l, rfl⟩ : ∃ l', l = l' + 1 := ⟨l - 1, by omega⟩
                        obtain ⟨P, hP, hPN, u1, u2⟩ := IX.out i j hir hjc
                        have Pa : (0 : Int) ≤ (P : Int) := by omega
                        have Pb : (P : Int) < (N : Int) := by omega
                        have hcell := ST.out.ints.cell (i := P) (by rw [UL.out]; exact hPN)
                        rw [← hP, show us.getD (i * c + j) 0 = mxC c us i j from rfl, hP] at hcell
                        obtain ⟨x0, x1⟩ := UN.out.mx (by rw [UL.out, HN.out]) hir hjc
                        obtain ⟨z, hxx⟩ : ∃ x, mxC c us i j = x := ⟨_, rfl⟩
                        have X := Lib.hid hxx
                        rw [hxx] at hcell x0 x1
                        clear hxx hP
                        by_cases hs : i = t ∨ z = 0
                        · have UE2 : Hid (clP p r c t j l (i + 1) us = E) := by
                            have h1 := UE.out
                            rw [clP_skip (by rw [X.out]; exact hs)] at h1
                            exact h1
                          by_cases hit : i = t
                          · have n2 : ((i : Int) != (t : Int)) = false := by simp [hit]
                            clear hs hit
                            go_wp2_with fail
                            go_loopw [20] (fun v20 wv => v20 = .int .i64 0 ∧ wv = wr) (fun _ _ => 0)
                            case atStart => exact ⟨rfl, rfl⟩
                            case round =>
                              obtain ⟨rfl, rfl⟩ := hrel
                              go_wp2_with fail
                              all_goals
                                go_roundw
                                case rel => exact ⟨i + 1, l, us, by go_num, by omega, UL.out, UN.out, UE2.out, ST.out⟩
                                case measure => simp [intOf]; omega
                          · have n2 : ((i : Int) != (t : Int)) = true := by simp; omega
                            have n3 : (z != 0) = false := by simp [hs.resolve_left hit]
                            clear hs hit
                            go_wp2_with fail
                            go_loopw [20] (fun v20 wv => v20 = .int .i64 0 ∧ wv = wr) (fun _ _ => 0)
                            case atStart => exact ⟨rfl, rfl⟩
                            case round =>
                              obtain ⟨rfl, rfl⟩ := hrel
                              go_wp2_with fail
                              all_goals
                                go_roundw
                                case rel => exact ⟨i + 1, l, us, by go_num, by omega, UL.out, UN.out, UE2.out, ST.out⟩
                                case measure => simp [intOf]; omega
                        · have hit : i ≠ t := fun e => hs (.inl e)
                          have hx0 : z ≠ 0 := fun e => hs (.inr e)
                          have n2 : ((i : Int) != (t : Int)) = true := by simp; omega
                          have n3 : (z != 0) = true := by simpa using hx0
                          have UO : Hid (clP p r c t j l (i + 1) (rowL r c i (lsV p z (mxC c us i) (mxC c us t)) us) = E) := by
                            have h1 := UE.out
                            rw [clP_on (by rw [X.out]; exact hs), X.out] at h1
                            exact h1
                          have RT : Hid (∀ k, k < c → (rowTo r c i (lsV p z (mxC c us i) (mxC c us t)) us k).set (i * c + k) ((mxC c us i k - z * mxC c us t k) % p) = rowTo r c i (lsV p z (mxC c us i) (mxC c us t)) us (k + 1)) := fun k hk => rowTo_step hir hk
                          have RX : Hid (∀ k, k < c → (rowTo r c i (lsV p z (mxC c us i) (mxC c us t)) us k).getD (i * c + k) 0 = mxC c us i k) := fun k hk => rowTo_old hir hk (.inr (Nat.le_refl _))
                          have RY : Hid (∀ k, k < c → (rowTo r c i (lsV p z (mxC c us i) (mxC c us t)) us k).getD (t * c + k) 0 = mxC c us t k) := fun k hk => rowTo_old htr hk (.inl (fun e => hit e.symm))
                          have RL : Hid (∀ k, (rowTo r c i (lsV p z (mxC c us i) (mxC c us t)) us k).length = N) := fun k => by rw [rowTo_length, HN.out]
                          have RA : Hid (rowTo r c i (lsV p z (mxC c us i) (mxC c us t)) us c = rowL r c i (lsV p z (mxC c us i) (mxC c us t)) us) := rowTo_all
                          have VC : Hid (CanL p (rowL r c i (lsV p z (mxC c us i) (mxC c us t)) us)) := UN.out.row (by rw [UL.out, HN.out]) fun q _ => ⟨Int.emod_nonneg _ (by omega), Int.emod_lt_of_pos _ (by omega)⟩
                          have VL : Hid ((rowL r c i (lsV p z (mxC c us i) (mxC c us t)) us).length = N) := by show _ = _; rw [rowL_length, HN.out]
                          have NI : Hid (∀ k, k < c → 0 ≤ mxC c us i k ∧ mxC c us i k < p) := fun k hk => UN.out.mx (by rw [UL.out, HN.out]) hir hk
                          have NT : Hid (∀ k, k < c → 0 ≤ mxC c us t k ∧ mxC c us t k < p) := fun k hk => UN.out.mx (by rw [UL.out, HN.out]) htr hk
                          rw [← rowTo_zero (r := r) (c := c) (i := i) (v := lsV p z (mxC c us i) (mxC c us t)) (xs := us) (by rw [UL.out, HN.out])] at ST
                          clear hs
                          go_wp2_with fail
                          clear p0 p1 p2 hcell
                          go_loopw [20] (fun v20 wv => ∃ h : Nat, v20 = .int .i64 h ∧ h ≤ c ∧ EcSt w (b + 1) b rb r c g N cap (rowTo r c i (lsV p z (mxC c us i) (mxC c us t)) us h) (.slice q t qc) pv wv) (fun v20 _ => c - (intOf v20).toNat)
                          case atStart => exact ⟨0, rfl, by omega, by first | exact ST.out | (have h := ST.out; rw [rowTo_zero (by rw [rowTo_length])] at h; exact h)⟩
                          case round =>
                            clear ST
                            obtain ⟨h, rfl, hh, hst⟩ := hrel
                            have ST := Lib.hid hst
                            clear hst
                            obtain ⟨p0, p1, p2, -, -, -⟩ := ST.out.blk.all
                            by_cases hhc : h < c
                            · obtain ⟨P, hP, hPN, u1, u2⟩ := IX.out i h hir hhc
                              have Pa : (0 : Int) ≤ (P : Int) := by omega
                              have Pb : (P : Int) < (N : Int) := by omega
                              have hcell := ST.out.ints.cell (i := P) (by rw [RL.out]; exact hPN)
                              have hfr := ST.out.ints.free P
                              rw [← hP, RX.out h hhc, hP] at hcell
                              obtain ⟨Q, hQ, hQN, y1, y2⟩ := IX.out t h htr hhc
                              have Qa : (0 : Int) ≤ (Q : Int) := by omega
                              have Qb : (Q : Int) < (N : Int) := by omega
                              have hcell2 := ST.out.ints.cell (i := Q) (by rw [RL.out]; exact hQN)
                              rw [← hQ, RY.out h hhc, hQ] at hcell2
                              have na := NI.out h hhc
                              have nb := NT.out h hhc
                              have RS := Lib.hid (RT.out h hhc)
                              rw [hP] at RS
                              generalize mxC c us i h = ea at hcell na RS
                              generalize mxC c us t h = eb at hcell2 nb RS
                              obtain ⟨m3, m4⟩ := mul_bd x0 x1 nb.1 nb.2 hp2
                              obtain ⟨o, ho⟩ : ∃ o, z * eb = o := ⟨_, rfl⟩
                              have v2 : IntKind.i64.wrap (z * eb) = o := by rw [← ho]; exact IntWalk.i64_in _ (by omega)
                              rw [ho] at RS m3 m4
                              obtain ⟨f, hf⟩ : ∃ f, ea - o = f := ⟨_, rfl⟩
                              have v3 : IntKind.i64.wrap (ea - o) = f := by rw [← hf]; exact IntWalk.i64_in _ (by omega)
                              rw [hf] at RS
                              have f0 : -200000000 ≤ f ∧ f ≤ 200000000 := by omega
                              obtain ⟨f1, f2⟩ := f0
                              clear na nb hP hQ ho hf
                              go_wp2_with fail
                              refine wp_region_still_tail 34 (by kernel_rfl) (by kernel_rfl) ?_
                              simp only [List.take_succ_cons, List.take_zero, List.drop_succ_cons, List.drop_zero]
                              repeat still_step
                              still_call ((sMod f p _ (by omega) (by omega)).mono fun _ _ h => ⟨h.1, h.2.symm⟩)
                              repeat still_step
                              try refine wpStill_nil ?_
                              go_wp2_with fail
                              go_roundw
                              case rel => exact ⟨h + 1, by go_num, by omega, by rw [← RS.out]; exact (ST.out.drew).put (by omega) (by omega) (by omega) (by omega) P (f % p)⟩
                              case measure => simp [intOf]; omega
                            · obtain rfl : c = h := by omega
                              clear hhc
                              rw [RA.out] at ST
                              go_wp2_with fail
                              go_roundw
                              case rel => exact ⟨i + 1, l, _, by go_num, by omega, VL.out, VC.out, UO.out, ST.out⟩
                              case measure => simp [intOf]; omega
                      · obtain rfl : l = 0 := by omega
                        have UF : Hid (us = E) := UE.out
                        have UR : Hid (elP p r c k (j + 1) us (pv ++ [j]) (y % p) = RES) := by
                          have h1 := EO.out
                          rw [← UF.out] at h1
                          exact h1
                        have y0 : 0 ≤ y % p ∧ y % p < p := ⟨Int.emod_nonneg _ (by omega), Int.emod_lt_of_pos _ (by omega)⟩
                        obtain ⟨fi, hfi, hz0, hz1, hz2⟩ := facts_int
                        have HO : Hid ((wr.alloc (.cells #[.int .i64 j] 3)).ownsRow (b + 1) 3 1 (.slice q t qc) t ((pvI pv).map (Value.int .i64))) := by
                          have h1 := ST.out.own.keep ((Below.refl _ _).alloc (Nat.le_refl _) (.cells #[.int .i64 j] 3))
                          unfold OwnQ at h1
                          rw [pvI_length, PT.out] at h1
                          exact h1
                        have le := ST.out.le
                        go_wp2_with (at_builtin; refine wpList_append_own_at _ rfl _ _ 24 rfl (b + 1) 3 fi (.int .i64 0) 1 8 underlying_ints hfi hz0 hz1 hz2 rfl (by decide) _ _ _ rfl HO.out ⟨wr.heap.size, 0, none⟩ 1 1 [.int .i64 j] ?hx ?hl ?hnews ?h1 ?h63 ?hbytes ?hbase ?hnext)
                        case hx => rfl
                        case hl => rfl
                        case hnews => exact cell_one_new _ _ _
                        case h1 => intro v hv; simp at hv; subst hv; rfl
                        case h63 => unfold maxLen; omega
                        case hbytes => omega
                        case hbase => simp; omega
                        case hnext =>
                          rintro v' w7 ho hg7 - -
                          have O7 : OwnQ (b + 1) w7 v' (pvI (pv ++ [j])) := by
                            unfold OwnQ pvI
                            rw [List.map_append, List.length_append, List.map_append, List.length_map, PT.out]
                            exact ho
                          have hs := ST.out.app hg7 O7 (by omega) (by omega) (by omega) (by omega)
                          obtain ⟨q', qc', rfl⟩ := O7.form
                          rw [pvI_length] at hs ⊢
                          have S7 := Lib.hid hs
                          clear hs O7 ho hg7
                          go_wp2_with fail
                          go_roundw
                          case rel => exact ⟨j + 1, k, us, q', qc', pv ++ [j], y % p, rfl, rfl, by go_num, by omega, UL.out, UN.out, by rw [List.length_append, PT.out]; simp; omega, y0.1, y0.2, UR.out, S7.out⟩
                          case measure => simp [intOf]; omega
          · have hpe : s = r := by omega
            have FS : Hid (fstR c j ys (r - pv.length) pv.length = r) := fstR_eq (by rw [PT.out]; omega) (by rw [PT.out]; omega) (fun i h1 h2 => P0.out i (by rw [← PT.out]; exact h1) (by omega)) (fun h => by rw [PT.out] at h; omega)
            have RN : Hid (elP p r c k (j + 1) ys pv d = RES) := by
              have h1 := HR.out
              rw [elP_skip (by rw [PT.out]; exact htr) FS.out] at h1
              exact h1
            have n1 : decide ((s : Int) < (r : Int)) = false := by simpa using hsr
            have n2 : ((s : Int) == (r : Int)) = true := by simp [hpe]
            clear hpe
            go_wp2_with fail
            go_roundw
            case rel => exact ⟨j + 1, k, ys, q, qc, pv, d, by rw [PT.out], rfl, by go_num, by omega, HL.out, HY.out, by rw [PT.out]; exact hpv, hd0, hd1, RN.out, by rw [PT.out]; exact ST.out⟩
            case measure => simp [intOf]; omega
      · have RF : Hid ((ys, pv, d) = RES) := by
          have h1 := HR.out
          rw [elP_end (by rw [PT.out]; exact htr)] at h1
          exact h1
        obtain ⟨r0, r1, r2, h0, h1, h2⟩ := ST.out.ret.all
        go_wp2_with fail
        obtain ⟨E0, E1, E2, -, -, -⟩ := (((ST.out.ret.set0 (.int .i64 r)).set1 (.int .i64 c)).set2 (.slice (some ⟨g, 0, none⟩) N cap)).all
        exact bodyPost_ret (v := .tuple #[.agg #[.int .i64 r, .int .i64 c, .slice (some ⟨g, 0, none⟩) N cap], .slice q t qc, .int .i64 d]) (by simp [results, Try.results45, go_sem, E0, E1, E2]) rfl (by rw [← RF.out]; exact ST.out.endM HL.out hcap (by omega) (by rw [PT.out]; omega) (by omega) (by omega) (by omega) (by omega) (by omega) d _ _ _)
    · obtain rfl : k = 0 := by omega
      have RF : Hid ((ys, pv, d) = RES) := HR.out
      obtain ⟨r0, r1, r2, h0, h1, h2⟩ := ST.out.ret.all
      go_wp2_with fail
      obtain ⟨E0, E1, E2, -, -, -⟩ := (((ST.out.ret.set0 (.int .i64 r)).set1 (.int .i64 c)).set2 (.slice (some ⟨g, 0, none⟩) N cap)).all
      exact bodyPost_ret (v := .tuple #[.agg #[.int .i64 r, .int .i64 c, .slice (some ⟨g, 0, none⟩) N cap], .slice q t qc, .int .i64 d]) (by simp [results, Try.results45, go_sem, E0, E1, E2]) rfl (by rw [← RF.out]; exact ST.out.endM HL.out hcap (by omega) (by rw [PT.out]; omega) (by omega) (by omega) (by omega) (by omega) (by omega) d _ _ _)
end Go.Proofs.Ytncplikadacjnaa
end

section
/-
  Plain mathematics of chapter 8: what ranks, determinants and inverses over residues are. Nothing of a program is used.
-/
namespace Go.Proofs.Ytncplikadacjnaa

/-- A reduced form with as many pivots as columns, and as many rows, is the unit matrix. -/
theorem inc_id {n : Nat} {q : Nat → Nat} (hc : ∀ k, k < n → q k < n) (hi : ∀ k l, k < l → l < n → q k < q l) : ∀ k, k < n → q k = k := by
  have low : ∀ k, k < n → k ≤ q k := by
    intro k
    induction k with
    | zero => intro _; exact Nat.zero_le _
    | succ k ih =>
      intro hk
      have h1 := ih (by omega)
      have h2 := hi k (k + 1) (by omega) hk
      omega
  have up : ∀ m k, k + m + 1 = n → q k ≤ k := by
    intro m
    induction m with
    | zero => intro k hk; have := hc k (by omega); omega
    | succ m ih =>
      intro k hk
      have h1 := ih (k + 1) (by omega)
      have h2 := hi k (k + 1) (by omega) (by omega)
      omega
  intro k hk
  have h1 := low k hk
  have h2 := up (n - k - 1) k (by omega)
  omega
theorem RefP.unit {n : Nat} {A : Mx} {q : Nat → Nat} (h : RefP n n A q n) {i j : Nat} (hi : i < n) (hj : j < n) : A i j = idX i j := by
  have e := inc_id h.col h.inc
  unfold idX
  by_cases hij : i = j
  · rw [if_pos hij]
    have := h.one j hj
    rw [e j hj] at this
    rw [hij]; exact this
  · rw [if_neg hij]
    have := h.only j i hj hi hij
    rw [e j hj] at this
    exact this
/-- The elimination of a matrix over the residues of p. -/
def elM (p : Int) (r c : Nat) (xs : List Int) : List Int × List Nat × Int := elP p r c c 0 (resL p xs) [] 1
theorem resL_length (p : Int) (xs : List Int) : (resL p xs).length = xs.length := List.length_map ..
theorem resL_cg {p : Int} {c : Nat} {xs : List Int} (i j : Nat) : Cg p (mxC c (resL p xs) i j) (mxC c xs i j) := by
  unfold mxC
  rw [resL_at]
  exact Cg.emod p _
/-- What it ends in. -/
theorem elM_says {p : Int} (hp : Prm p) {r c : Nat} {xs : List Int} (hx : xs.length = r * c) :
    RefP r c (mxC c (elM p r c xs).1) (fun k => (elM p r c xs).2.1.getD k 0) (elM p r c xs).2.1.length ∧ SubP p r r c (mxC c (elM p r c xs).1) (mxC c xs) ∧ SubP p r r c (mxC c xs) (mxC c (elM p r c xs).1) ∧ (0 ≤ (elM p r c xs).2.2 ∧ (elM p r c xs).2.2 < p) ∧ (r = c → Cg p (det r (mxC c xs)) ((elM p r c xs).2.2 * det r (mxC c (elM p r c xs).1))) := by
  have hp0 : 0 < p := by have := hp.1; omega
  have hr : (resL p xs).length = r * c := by rw [resL_length, hx]
  have st := PInv.start (p := p) (M := mxC c xs) hr (Nat.le_refl c) (fun i q hi hq => (resL_can hp0 xs).mx hr hi hq) (fun i q _ _ => resL_cg i q)
  obtain ⟨⟨j', h1, h2⟩, h3, h4⟩ := PInv.all hp hp.hasInv c 0 (resL p xs) [] 1 (by omega) st ⟨by decide, by have := hp.1; omega⟩
  refine ⟨h1.ref h2, h1.toM, h1.ofM, h3, fun hrc => ?_⟩
  subst hrc
  refine h4 rfl ?_
  unfold DInv
  rw [Int.one_mul]
  exact det_cg fun i j _ _ => (resL_cg i j).symm
/-- The determinant over the residues, and whether the rank is full. -/
theorem elM_det {p : Int} (hp : Prm p) {n : Nat} {xs : List Int} (hx : xs.length = n * n) :
    ((elM p n n xs).2.1.length < n ↔ det n (mxC n xs) % p = 0) ∧ (if (elM p n n xs).2.1.length < n then 0 else (elM p n n xs).2.2) = det n (mxC n xs) % p := by
  have hp0 : 0 < p := by have := hp.1; omega
  obtain ⟨h1, h2, h3, h4, h5⟩ := elM_says hp hx
  have h5 := h5 rfl
  generalize elM p n n xs = E at h1 h2 h3 h4 h5 ⊢
  by_cases hl : E.2.1.length < n
  · have e0 : Cg p (det n (mxC n E.1)) 0 := det_zero_row (i := E.2.1.length) hl fun j hj => Cg.of_eq (h1.rest _ j (Nat.le_refl _) hl hj)
    have e1 : Cg p (det n (mxC n xs)) 0 := h5.trans ((Cg.mul_left _ e0).trans (Cg.of_eq (Int.mul_zero _)))
    have e2 : det n (mxC n xs) % p = 0 := by rw [Cg.emod_eq hp0 e1]; exact Int.zero_emod p
    exact ⟨⟨fun _ => e2, fun _ => hl⟩, by rw [if_pos hl, e2]⟩
  · have hle := h1.le
    have en : E.2.1.length = n := by omega
    rw [en] at h1
    have eu : ∀ i j, i < n → j < n → mxC n E.1 i j = idX i j := fun i j hi hj => h1.unit hi hj
    have ed : det n (mxC n E.1) = 1 := by rw [det_congr (B := idX) eu, det_id]
    rw [ed, Int.mul_one] at h5
    have e1 : det n (mxC n xs) % p = E.2.2 := by
      rw [Cg.emod_eq hp0 h5]
      exact Int.emod_eq_of_lt h4.1 h4.2
    -- the unit matrix is a combination of the rows: the determinant is not 0
    have hK : ∀ i, ∃ k : Nat → Int, i < n → ∀ j, j < n → Cg p (mxC n E.1 i j) (sumN n fun a => k a * mxC n xs a j) := fun i => by
      by_cases hi : i < n
      · obtain ⟨k, hk⟩ := h2 i hi
        exact ⟨k, fun _ => hk⟩
      · exact ⟨fun _ => 0, fun h => absurd h hi⟩
    obtain ⟨K, hKK⟩ := Classical.skolem.mp hK
    have hI : InvX p n (mxC n xs) K := fun i j hi hj => (hKK i hi j hj).symm.trans (Cg.of_eq (eu i j hi hj))
    have hne := hI.ne hp
    refine ⟨⟨fun h => absurd h hl, fun h => absurd ?_ hne⟩, by rw [if_neg hl, e1]⟩
    exact Int.dvd_of_emod_eq_zero h
/-- The matrix with the unit matrix beside it. -/
def wideL (p : Int) (n : Nat) (xs : List Int) : List Int := tab n (2 * n) fun i j => if j < n then (resL p xs).getD (i * n + j) 0 else if j = n + i then 1 else 0
/-- The same, over the numbers. -/
def wideX (n : Nat) (M : Mx) : Mx := fun i j => if j < n then M i j else if j = n + i then 1 else 0
def elW (p : Int) (n : Nat) (xs : List Int) : List Int × List Nat × Int := elP p n (2 * n) n 0 (wideL p n xs) [] 1
def ivL (p : Int) (n : Nat) (xs : List Int) : List Int := tab n n fun i j => (elW p n xs).1.getD (i * (2 * n) + (n + j)) 0
theorem wideL_can {p : Int} (hp : Prm p) {n : Nat} {xs : List Int} (hx : xs.length = n * n) : CanL p (wideL p n xs) := CanL.of (tab_length _ _ _) fun i j hi hj => by
  have hp0 := hp.1
  show 0 ≤ (wideL p n xs).getD (i * (2 * n) + j) 0 ∧ (wideL p n xs).getD (i * (2 * n) + j) 0 < p
  unfold wideL
  rw [tab_at n (2 * n) _ hi hj]
  by_cases h1 : j < n
  · rw [if_pos h1]
    exact resL_can (by omega) xs _ (by rw [resL_length, hx]; exact idx_lt hi h1)
  · rw [if_neg h1]
    split <;> omega
theorem elW_says {p : Int} (hp : Prm p) {n : Nat} {xs : List Int} (hx : xs.length = n * n) :
    RefP n n (mxC (2 * n) (elW p n xs).1) (fun k => (elW p n xs).2.1.getD k 0) (elW p n xs).2.1.length ∧ SubP p n n (2 * n) (mxC (2 * n) (elW p n xs).1) (wideX n (mxC n xs)) ∧ SubP p n n (2 * n) (wideX n (mxC n xs)) (mxC (2 * n) (elW p n xs).1) ∧ (∀ i j, i < n → j < 2 * n → 0 ≤ mxC (2 * n) (elW p n xs).1 i j ∧ mxC (2 * n) (elW p n xs).1 i j < p) := by
  have hp0 : 0 < p := by have := hp.1; omega
  have hl : (wideL p n xs).length = n * (2 * n) := tab_length _ _ _
  have hM : ∀ i q, i < n → q < 2 * n → Cg p (mxC (2 * n) (wideL p n xs) i q) (wideX n (mxC n xs) i q) := fun i q hi hq => by
    have e : mxC (2 * n) (wideL p n xs) i q = if q < n then (resL p xs).getD (i * n + q) 0 else if q = n + i then 1 else 0 := tab_at n (2 * n) _ hi hq
    rw [e]
    unfold wideX
    split
    · exact resL_cg i q
    · exact Cg.refl _ _
  have st := PInv.start (p := p) (M := wideX n (mxC n xs)) hl (by omega : n ≤ 2 * n) (fun i q hi hq => (wideL_can hp hx).mx hl hi hq) hM
  obtain ⟨⟨j', h1, h2⟩, -, -⟩ := PInv.all hp hp.hasInv n 0 (wideL p n xs) [] 1 (by omega) st ⟨by decide, by have := hp.1; omega⟩
  exact ⟨h1.ref h2, h1.toM, h1.ofM, h1.can⟩
/-- There is an inverse exactly if the determinant is not 0, and it is what stands behind. -/
theorem elW_inv {p : Int} (hp : Prm p) {n : Nat} {xs : List Int} (hx : xs.length = n * n) :
    ((elW p n xs).2.1.length < n ↔ det n (mxC n xs) % p = 0) ∧ (¬ (elW p n xs).2.1.length < n → InvX p n (mxC n xs) (mxC n (ivL p n xs))) ∧ CanL p (ivL p n xs) ∧ (ivL p n xs).length = n * n := by
  have hp0 : 0 < p := by have := hp.1; omega
  obtain ⟨h1, h2, h3, h4⟩ := elW_says hp hx
  have at_ : ∀ i j, i < n → j < n → mxC n (ivL p n xs) i j = mxC (2 * n) (elW p n xs).1 i (n + j) := fun i j hi hj => tab_at n n _ hi hj
  have can : CanL p (ivL p n xs) := CanL.of (tab_length _ _ _) fun i j hi hj => by rw [at_ i j hi hj]; exact h4 i (n + j) hi (by omega)
  have inv : ¬ (elW p n xs).2.1.length < n → InvX p n (mxC n xs) (mxC n (ivL p n xs)) := fun hl i j hi hj => by
    have hle := h1.le
    have en : (elW p n xs).2.1.length = n := by omega
    rw [en] at h1
    obtain ⟨k, hk⟩ := h2 i hi
    have e1 : ∀ b, b < n → Cg p (mxC n (ivL p n xs) i b) (k b) := fun b hb => by
      rw [at_ i b hi hb]
      refine (hk (n + b) (by omega)).trans (Cg.of_eq ?_)
      rw [sumN_one (a := b) hb (fun a ha hne => by unfold wideX; rw [if_neg (by omega), if_neg (by omega), Int.mul_zero])]
      unfold wideX
      rw [if_neg (by omega), if_pos rfl, Int.mul_one]
    have e2 : Cg p (mxC (2 * n) (elW p n xs).1 i j) (sumN n fun a => k a * mxC n xs a j) := (hk j (by omega)).trans (Cg.of_eq (sumN_congr fun a _ => by unfold wideX; rw [if_pos hj]))
    rw [h1.unit hi hj] at e2
    exact (Cg.trans (Cg.sum fun a ha => (e1 a ha).mul (Cg.refl p _)) e2.symm)
  refine ⟨?_, inv, can, tab_length _ _ _⟩
  by_cases hl : (elW p n xs).2.1.length < n
  · refine ⟨fun _ => ?_, fun _ => hl⟩
    have hK : ∀ i, ∃ k : Nat → Int, i < n → ∀ j, j < 2 * n → Cg p (wideX n (mxC n xs) i j) (sumN n fun a => k a * mxC (2 * n) (elW p n xs).1 a j) := fun i => by
      by_cases hi : i < n
      · obtain ⟨k, hk⟩ := h3 i hi
        exact ⟨k, fun _ => hk⟩
      · exact ⟨fun _ => 0, fun h => absurd h hi⟩
    obtain ⟨K, hKK⟩ := Classical.skolem.mp hK
    have e1 : Cg p (det n (mxC n xs)) (det n (mulX n K (mxC (2 * n) (elW p n xs).1))) := det_cg fun i j hi hj => by
      have := hKK i hi j (by omega)
      unfold wideX at this
      rw [if_pos hj] at this
      exact this
    rw [det_mul] at e1
    have e0 : Cg p (det n (mxC (2 * n) (elW p n xs).1)) 0 := det_zero_row (i := (elW p n xs).2.1.length) hl fun j hj => Cg.of_eq (h1.rest _ j (Nat.le_refl _) hl hj)
    have e2 : Cg p (det n (mxC n xs)) 0 := e1.trans ((Cg.mul_left _ e0).trans (Cg.of_eq (Int.mul_zero _)))
    rw [Cg.emod_eq hp0 e2]
    exact Int.zero_emod p
  · exact ⟨fun h => absurd h hl, fun h => absurd (Int.dvd_of_emod_eq_zero h) ((inv hl).ne hp)⟩
/-- No other list of residues is an inverse. -/
theorem ivL_uniq {p : Int} {n : Nat} {xs us vs : List Int} (hu : us.length = n * n) (hv : vs.length = n * n) (cu : CanL p us) (cv : CanL p vs) (h : InvX p n (mxC n xs) (mxC n us)) (h' : InvX p n (mxC n xs) (mxC n vs)) : us = vs :=
  mx_ext hu hv fun i j hi hj => Cg.eq (cu.mx hu hi hj) (cv.mx hv hi hj) (h.uniq h' i j hi hj)
end Go.Proofs.Ytncplikadacjnaa
end

section
/-
  Chapter 7, in the model: EchelonOf, RankOf.
-/
namespace Go.Proofs.Ytncplikadacjnaa
set_option maxRecDepth 100000
open Go.RowKit

/-- What EchelonOf gives: a matrix, its pivots, whether there is such a form in range. -/
structure ER where
  r : Int
  c : Int
  zs : List Int
  pv : List Int
  ok : Bool
def ER.no : ER := ⟨0, 0, [], [], false⟩
def ER.of (r c : Int) : Option (List Int × List Nat) → ER
  | some (ys, pv) => ⟨r, c, ys, pvI pv, true⟩
  | none => ER.no
def echR (r c : Int) (xs : List Int) : ER := if isMat r c xs = true then ER.of r c (echM r.toNat c.toNat xs) else ER.no
def EchG (w : World) (R : ER) (e : Ending) (w' : World) : Prop :=
  ∃ (va vb : Value), e = .returned (.tuple #[.agg #[.int .i64 R.r, .int .i64 R.c, va], vb, .bool R.ok]) ∧ Own w.heap.size w' va R.zs ∧ Own w.heap.size w' vb R.pv ∧ (∀ k, va.ownBlock = some k → vb.ownBlock ≠ some k) ∧ Below w.heap.size w w'
theorem EchP.g {w : World} {r c : Nat} {o : Option (List Int × List Nat)} {e : Ending} {w' : World} (h : EchP w r c o e w') : EchG w (ER.of r c o) e w' := by
  rcases h with ⟨va, vb, ys, pv, rfl, rfl, h1, h2, h3, h4⟩ | ⟨vb, rfl, rfl, h2, h4⟩
  · exact ⟨va, vb, rfl, h1, h2, h3, h4⟩
  · exact ⟨_, vb, rfl, .inl ⟨rfl, rfl⟩, h2, fun k hk => by simp [Value.ownBlock] at hk, h4⟩
theorem Own.far' {B : Nat} {w : World} {v : Value} {zs : List Int} (h : Own B w v zs) {a : Addr} (ha : a.block < B) (u : Value) : Own B (w.setCell a u) v zs := by
  rcases h with h | ⟨g, cap, hv, hB, hi, hl, hc⟩
  · exact .inl h
  · exact .inr ⟨g, cap, hv, hB, hi.far (by omega) u, hl, hc⟩
theorem Own.far3' {B b : Nat} {w : World} {v : Value} {zs : List Int} (h : Own B w v zs) (hb : b < B) (x y z : Value) : Own B (((w.setCell ⟨b, 0, none⟩ x).setCell ⟨b, 1, none⟩ y).setCell ⟨b, 2, none⟩ z) v zs :=
  ((h.far' (a := ⟨b, 0, none⟩) hb x).far' (a := ⟨b, 1, none⟩) hb y).far' (a := ⟨b, 2, none⟩) hb z
end Go.Proofs.Ytncplikadacjnaa
end

section
/-
  Chapter 8, in the model: RankMod, DeterminantMod.
-/
namespace Go.Proofs.Ytncplikadacjnaa
set_option maxRecDepth 100000
open Go.RowKit

/-- What RankMod gives. -/
def rkM (r c p : Int) (xs : List Int) : Int × Bool := if (isMat r c xs && prmB p) = true then (((elM p r.toNat c.toNat xs).2.1.length : Int), true) else (0, false)
/-- What DeterminantMod gives. -/
def dtM (r c p : Int) (xs : List Int) : Int × Bool := if (isMat r c xs && prmB p && decide (r = c)) = true then (if (elM p r.toNat c.toNat xs).2.1.length < r.toNat then 0 else (elM p r.toNat c.toNat xs).2.2, true) else (0, false)
theorem rkM_no {r c p : Int} {xs : List Int} (h : (isMat r c xs && prmB p) = false) : rkM r c p xs = (0, false) ∧ redM r c p xs = MR.no ∧ dtM r c p xs = (0, false) := by
  unfold rkM redM dtM
  rw [h]
  exact ⟨rfl, rfl, rfl⟩
theorem rkM_yes {r c p : Int} {xs : List Int} (h : (isMat r c xs && prmB p) = true) : ∃ (R C N : Nat), r = R ∧ c = C ∧ N = R * C ∧ R ≤ 24 ∧ C ≤ 24 ∧ xs.length = N ∧ (resL p xs).length = N ∧ prmB p = true ∧ CanL p (resL p xs) ∧ redM r c p xs = ⟨true, R, C, resL p xs⟩ ∧ rkM r c p xs = (((elM p R C xs).2.1.length : Int), true) ∧ dtM r c p xs = (if R = C then (if (elM p R C xs).2.1.length < R then 0 else (elM p R C xs).2.2, true) else (0, false)) := by
  have h0 := h
  rw [Bool.and_eq_true] at h
  obtain ⟨hm, hp⟩ := h
  obtain ⟨⟨r0, r1⟩, ⟨c0, c1⟩, hl, nx⟩ := isMat_says hm
  obtain ⟨R, rfl⟩ := Int.eq_ofNat_of_zero_le r0
  obtain ⟨C, rfl⟩ := Int.eq_ofNat_of_zero_le c0
  have hx : xs.length = R * C := by rw [← Int.natCast_mul] at hl; omega
  refine ⟨R, C, R * C, rfl, rfl, rfl, by omega, by omega, hx, by rw [resL_length, hx], hp, resL_can (by have := (prmB_says hp).1.1; omega) xs, ?_, ?_, ?_⟩
  · unfold redM; rw [if_pos h0]
  · unfold rkM; rw [if_pos h0]; rfl
  · unfold dtM
    rw [h0, Bool.true_and]
    by_cases e : R = C
    · rw [if_pos e, if_pos (by simp [e])]; rfl
    · rw [if_neg e, if_neg (by simp; omega)]
/-- Own cells as the elimination wants them. -/
theorem Own.elim {B N cap : Nat} {w : World} {q : Option Addr} {zs : List Int} (h : Own B w (.slice q N cap) zs) : Rd w q zs ∧ Spot q := by
  rcases h with ⟨hv, rfl⟩ | ⟨g, cap, hv, _, hi, _⟩
  · injection hv with e
    exact ⟨Rd.nil _ _, .inl e⟩
  · injection hv with e
    exact ⟨by rw [e]; exact hi.rd, .inr ⟨g, 0, e⟩⟩
set_option maxHeartbeats 1000000 in
theorem sRank (r c p : Int) (a : Option Addr) (m : Nat) (xs : List Int) (w : World) (h : Rd w a xs) (hn : xs.length ≤ 16777216) (ha : Spot a) :
    Calls Try.prog 37 #[.agg #[.int .i64 r, .int .i64 c, .slice a xs.length m], .int .i64 p] w (Gives (.tuple #[.int .i64 (rkM r c p xs).1, .bool (rkM r c p xs).2]) w) := by
  have RD : Hid (∀ w', Below w.heap.size w w' → Calls Try.prog 30 #[.agg #[.int .i64 r, .int .i64 c, .slice a xs.length m], .int .i64 p] w' (MatRes (redM r c p xs) w')) := fun w' hb => sRed r c p a m xs w' (h.below hb) hn ha
  have B0 : Hid (Below w.heap.size w (w.alloc (.cells #[.int .i64 r, .int .i64 c, .slice a xs.length m] 26))) := (Below.refl _ _).alloc (Nat.le_refl _) _
  rcases Bool.eq_false_or_eq_true (isMat r c xs && prmB p) with hh | hh
  · obtain ⟨R, C, N, rfl, rfl, hN, hR, hC, hx, hl, hp, hcan, e1, e2, -⟩ := rkM_yes hh
    rw [e1] at RD
    rw [e2]
    have EL : Hid (∀ (q : Option Addr) (cap : Nat) (w' : World), Rd w' q (resL p xs) → Spot q → Calls Try.prog 45 #[.agg #[.int .i64 R, .int .i64 C, .slice q N cap], .int .i64 p, .int .i64 C] w' (ElP w' R C (elM p R C xs))) := fun q cap w' h1 h2 => sEl R C C N p q cap (resL p xs) w' h1 h2 hl hN hR hC (Nat.le_refl _) hp hcan
    generalize elM p R C xs = RES at EL ⊢
    generalize resL p xs = zs at RD EL hl
    rw [hx] at RD B0 ⊢
    clear h hn ha hx hN hcan e1 e2 hh hp
    go_enter Try.func37, Try.ntmps37
    go_wp2_with fail
    refine (RD.out _ B0.out).mono ?_
    rintro e w1 ⟨v, rfl, own, hb⟩
    obtain ⟨q, cap, rfl, -, -⟩ := own.form
    dsimp only
    rw [hl]
    rw [hl] at own
    have B1 := B0.out.trans (hb.mono (by simp))
    have B2 := Lib.hid (B1.alloc B1.size (.cells #[.int .i64 R, .int .i64 C, .slice q N cap] 26))
    have O2 := Lib.hid (own.keep ((Below.refl _ _).alloc (Nat.le_refl _) (.cells #[.int .i64 R, .int .i64 C, .slice q N cap] 26)))
    have K2 : Hid (Blk3 (w1.alloc (.cells #[.int .i64 R, .int .i64 C, .slice q N cap] 26)) w1.heap.size 26 (.int .i64 R) (.int .i64 C) (.slice q N cap)) := Blk3.at_ _ _ _ _ rfl
    clear hb own B1 B0
    go_upto_region 2 with fail
    generalize w1.alloc (.cells #[.int .i64 R, .int .i64 C, .slice q N cap] 26) = W at B2 O2 K2 ⊢
    obtain ⟨p0, p1, p2, -, -, -⟩ := K2.out.all
    go_wp2_with fail
    refine (EL.out q cap _ O2.out.elim.1 O2.out.elim.2).mono ?_
    rintro e w2 ⟨va, vb, rfl, oa, ob, -, hb⟩
    obtain ⟨qa, ca, rfl, -, -⟩ := oa.form
    obtain ⟨qb, cb, rfl, -, -⟩ := ob.form
    have B3 := B2.out.trans (hb.mono B2.out.size)
    have B4 := Lib.hid (B3.alloc B3.size (.cells #[.int .i64 R, .int .i64 C, .slice qa RES.1.length ca] 26))
    rw [pvI_length]
    clear hb oa ob B3 p0 p1 p2
    go_wp2_with fail
    exact bodyPost_ret (v := .tuple #[.int .i64 (RES.2.1.length : Int), .bool true]) (by simp [results, Try.results37, go_sem]) rfl ⟨rfl, B4.out⟩
  · obtain ⟨e1, e2, -⟩ := rkM_no hh
    rw [e2] at RD
    rw [e1]
    generalize xs.length = L at RD B0 ⊢
    clear h hn ha e1 e2 hh
    go_enter Try.func37, Try.ntmps37
    go_wp2_with fail
    refine (RD.out _ B0.out).mono ?_
    rintro e w1 ⟨v, rfl, own, hb⟩
    obtain ⟨q, cap, rfl, -, -⟩ := own.form
    have B1 := B0.out.trans (hb.mono (by simp))
    have B2 := Lib.hid (B1.alloc B1.size (.cells #[.int .i64 MR.no.r, .int .i64 MR.no.c, .slice q MR.no.zs.length cap] 26))
    clear hb own B1 B0
    have ok : MR.no.ok = false := rfl
    rw [ok]
    go_wp2_with fail
    exact bodyPost_ret (v := .tuple #[.int .i64 0, .bool false]) (by simp [results, Try.results37, go_sem]) rfl ⟨rfl, B2.out⟩
end Go.Proofs.Ytncplikadacjnaa
end

section
/-
  Chapter 8, in the program: InverseModulo; a row divided by a pivot; a row without its cell in the pivot's column.
-/
namespace Go.Proofs.Ytncplikadacjnaa
set_option maxRecDepth 100000
open Go.RowKit

/-- The combination that ExtendedGcd makes of any number and a prime. -/
theorem ext_any {p a : Int} (hp : Prm p) (hp2 : p ≤ 10000) (ha : NumP a) (hn : a % p ≠ 0) : ∃ x z : Int, egAns a p = (1, x, z) ∧ invF p (a % p) = x % p ∧ -400000000 ≤ x ∧ x ≤ 400000000 := by
  have hp1 := hp.1
  obtain ⟨x, z, e, hxz, b1, b2, -, -⟩ := egAns_is a p ha ⟨by omega, by omega⟩
  have hnd : ¬ p ∣ a := fun h => hn (Int.emod_eq_zero_of_dvd h)
  have hg : (Int.gcd a p : Int) = 1 := by have := hp.gcd hnd; omega
  rw [hg] at e hxz
  refine ⟨x, z, e, invF_ext (y := z + a / p * x) (g := 1) hp ?_ rfl, b1, b2⟩
  rw [Int.emod_def]
  grind
/-- .. of a multiple of the prime: its divisor is not 1. -/
theorem ext_mult {p a : Int} (hp : Prm p) (hp2 : p ≤ 10000) (ha : NumP a) (hn : a % p = 0) : ∃ g x z : Int, egAns a p = (g, x, z) ∧ g ≠ 1 := by
  have hp1 := hp.1
  obtain ⟨x, z, e, hxz, -, -, -, -⟩ := egAns_is a p ha ⟨by omega, by omega⟩
  refine ⟨_, x, z, e, fun h1 => ?_⟩
  have hdv : p ∣ (Int.gcd a p : Int) := by
    rw [← hxz]
    exact Int.dvd_add (Int.dvd_trans (Int.dvd_of_emod_eq_zero hn) (Int.dvd_mul_right a x)) (Int.dvd_mul_right p z)
  rw [h1] at hdv
  have := Int.le_of_dvd (by omega) hdv
  omega
theorem iInvM (a p : Int) (w : World) : Calls Try.prog 36 #[.int .i64 a, .int .i64 p] w fun e w' => e = .returned (.tuple #[.int .i64 (ivM p a).1, .bool (ivM p a).2]) ∧ Below w.heap.size w w' := by
  rcases Bool.eq_false_or_eq_true (prmB p) with h1 | h1
  · obtain ⟨hp, hp2⟩ := prmB_says h1
    have hp1 := hp.1
    have np : p ≠ 0 := by omega
    have P1 := Lib.hid h1
    by_cases h2 : NumP a
    · by_cases h3 : a % p = 0
      · have V := Lib.hid (ivM_no3 h3)
        obtain ⟨g, x, z, hx, hg⟩ := ext_mult hp hp2 h2 h3
        have HX : Hid (egVal (egAns a p) = .tuple #[.int .i64 g, .int .i64 x, .int .i64 z, .bool true]) := by show _ = _; rw [hx]; rfl
        have n1 : (g != 1) = true := by simpa using hg
        clear h1 h3 hp hx hg
        go_enter Try.func36, Try.ntmps36
        go_wp2_with fail
        refine (iPrime p _).mono ?_
        rintro e w1 ⟨rfl, hb1⟩
        rw [P1.out]
        go_wp2_with fail
        refine (iExt a p _ h2 ⟨by omega, by omega⟩).mono ?_
        rintro e w2 ⟨rfl, hb2⟩
        have B := Lib.hid (hb1.trans (hb2.mono hb1.size))
        clear hb1 hb2
        rw [HX.out]
        go_wp2_with fail
        exact bodyPost_ret (v := .tuple #[.int .i64 0, .bool false]) (by simp [results, Try.results36, go_sem]) rfl ⟨by rw [V.out], B.out⟩
      · have V := Lib.hid (ivM_yes h1 h2 rfl h3)
        obtain ⟨x, z, hx, hi, b1, b2⟩ := ext_any hp hp2 h2 h3
        have HI := Lib.hid hi
        have HX : Hid (egVal (egAns a p) = .tuple #[.int .i64 1, .int .i64 x, .int .i64 z, .bool true]) := by show _ = _; rw [hx]; rfl
        clear h1 h3 hp hi hx
        go_enter Try.func36, Try.ntmps36
        go_wp2_with fail
        refine (iPrime p _).mono ?_
        rintro e w1 ⟨rfl, hb1⟩
        rw [P1.out]
        go_wp2_with fail
        refine (iExt a p _ h2 ⟨by omega, by omega⟩).mono ?_
        rintro e w2 ⟨rfl, hb2⟩
        have B := Lib.hid (hb1.trans (hb2.mono hb1.size))
        clear hb1 hb2
        rw [HX.out]
        go_wp2_with fail
        refine (iDiv x p _ b1 b2 (by omega) (by omega) np).mono ?_
        rintro e w3 ⟨rfl, n, rfl⟩
        have B2 := Lib.hid (below_drewN B.out n)
        go_wp2_with fail
        exact bodyPost_ret (v := .tuple #[.int .i64 (x % p), .bool true]) (by simp [results, Try.results36, go_sem]) rfl ⟨by rw [V.out, ← HI.out], B2.out⟩
    · have V := Lib.hid (ivM_no2 (p := p) h2)
      have h2' : ¬ ((-400000000 ≤ a ∧ a ≤ 400000000) ∧ (-400000000 ≤ p ∧ p ≤ 400000000)) := fun h => h2 h.1
      clear h1 h2 hp
      go_enter Try.func36, Try.ntmps36
      go_wp2_with fail
      refine (iPrime p _).mono ?_
      rintro e w1 ⟨rfl, hb1⟩
      rw [P1.out]
      go_wp2_with fail
      refine (iExt_f a p _ h2').mono ?_
      rintro e w2 ⟨rfl, rfl⟩
      go_wp2_with fail
      exact bodyPost_ret (v := .tuple #[.int .i64 0, .bool false]) (by simp [results, Try.results36, go_sem]) rfl ⟨by rw [V.out], hb1⟩
  · have V := Lib.hid (ivM_no1 (a := a) h1)
    have P1 := Lib.hid h1
    clear h1
    go_enter Try.func36, Try.ntmps36
    go_wp2_with fail
    refine (iPrime p _).mono ?_
    rintro e w1 ⟨rfl, hb1⟩
    rw [P1.out]
    go_wp2_with fail
    exact bodyPost_ret (v := .tuple #[.int .i64 0, .bool false]) (by simp [results, Try.results36, go_sem]) rfl ⟨by rw [V.out], hb1⟩
end Go.Proofs.Ytncplikadacjnaa
end

section
/-
  Chapter 8, in the program: a row divided by a pivot; a row without its cell in the pivot's column.
-/
namespace Go.Proofs.Ytncplikadacjnaa
set_option maxRecDepth 100000
open Go.RowKit

set_option maxHeartbeats 2000000 in
theorem iDivide (r c t N g m : Nat) (x p : Int) (xs : List Int) (w : World) (hN : N = r * c) (hx : xs.length = N) (hc : c ≤ 24) (htr : t < r) (hp : prmB p = true) (hcan : CanL p xs) (h0 : 0 ≤ x) (h1 : x < p) (hn : x ≠ 0) (hi : Ints w g xs) :
    Calls Try.prog 76 #[.slice (some ⟨g, t * c, none⟩) c m, .int .i64 x, .int .i64 p] w (fun e w' => Void e ∧ Ints w' g (rowL r c t (scV p (invF p x) (mxC c xs t)) xs) ∧ w.grownBy w' (some g)) := by
  have hl : xs.length = r * c := by rw [hx, hN]
  obtain ⟨pp, hp2⟩ := prmB_says hp
  have hp1 := pp.1
  obtain ⟨-, i0, i1⟩ := pp.hasInv.inv pp (can_nd ⟨h0, h1⟩ hn)
  have IV := Lib.hid (ivM_can hp h0 h1 hn)
  have LI : Hid (∀ q, q < c → t * c + q < N) := fun q hq => by rw [hN]; exact idx_lt htr hq
  have RX : Hid (∀ k, k < c → (rowTo r c t (scV p (invF p x) (mxC c xs t)) xs k).getD (t * c + k) 0 = mxC c xs t k) := fun k hk => rowTo_old htr hk (.inr (Nat.le_refl _))
  have RS : Hid (∀ k, k < c → (rowTo r c t (scV p (invF p x) (mxC c xs t)) xs k).set (t * c + k) ((mxC c xs t k * invF p x) % p) = rowTo r c t (scV p (invF p x) (mxC c xs t)) xs (k + 1)) := fun k hk => rowTo_step htr hk
  have RL : Hid (∀ k, (rowTo r c t (scV p (invF p x) (mxC c xs t)) xs k).length = N) := fun k => by rw [rowTo_length, hN]
  have RZ : Hid (rowTo r c t (scV p (invF p x) (mxC c xs t)) xs 0 = xs) := rowTo_zero hl
  have RA : Hid (rowTo r c t (scV p (invF p x) (mxC c xs t)) xs c = rowL r c t (scV p (invF p x) (mxC c xs t)) xs) := rowTo_all
  have ZT : Hid (∀ q, q < c → 0 ≤ mxC c xs t q ∧ mxC c xs t q < p) := fun q hq => hcan.mx hl htr hq
  have I := Lib.hid hi

  have lg := hi.lt
  obtain ⟨v, hv⟩ : ∃ v, invF p x = v := ⟨_, rfl⟩
  rw [hv] at IV i0 i1 RX RS RL RZ RA ⊢
  obtain ⟨D, hD⟩ : ∃ D, t * c = D := ⟨_, rfl⟩
  rw [hD] at LI RX RS ⊢
  have np : ¬ p = 0 := by omega
  clear hl hx hN hD hi hv pp hp hcan
  go_enter Try.func76, Try.ntmps76
  go_wp2_with fail
  refine (iInvM x p _).mono ?_
  rintro e w1 ⟨rfl, hb⟩
  rw [IV.out]
  have I := Lib.hid (I.out.keep hb lg)
  have G := Lib.hid (grown_of_below hb (some g))
  clear hb
  go_wp2_with fail
  go_loopw [8, 17] (fun _ v17 wr => ∃ h : Nat, v17 = .int .i64 h ∧ h ≤ c ∧ Ints wr g (rowTo r c t (scV p v (mxC c xs t)) xs h) ∧ w.grownBy wr (some g)) (fun _ v17 _ => c - (intOf v17).toNat)
  case atStart => exact ⟨0, rfl, by omega, by rw [RZ.out]; exact I.out, G.out⟩
  case round =>
    clear I G
    obtain ⟨h, rfl, hh, hi, hgr⟩ := hrel
    have I := Lib.hid hi
    have G := Lib.hid hgr
    clear hi hgr
    by_cases hlt : h < c
    · have hca := I.out.cell (i := D + h) (by rw [RL.out]; exact LI.out h hlt)
      have hfr := I.out.free (D + h)
      rw [RX.out h hlt] at hca
      obtain ⟨z1, z2⟩ := ZT.out h hlt
      have RS := Lib.hid (RS.out h hlt)
      generalize mxC c xs t h = ea at hca z1 z2 RS
      obtain ⟨m3, m4⟩ := mul_bd z1 z2 i0 i1 hp2
      obtain ⟨y, hy⟩ : ∃ y, ea * v = y := ⟨_, rfl⟩
      have w2 : IntKind.i64.wrap (ea * v) = y := by rw [← hy]; exact IntWalk.i64_in _ (by omega)
      rw [hy] at m3 m4 RS
      have e2 : Int.tmod y p = y % p := Int.tmod_eq_emod_of_nonneg m3
      have IS := Lib.hid (I.out.set (D + h) (y % p))
      have GS := Lib.hid (grown_set_one (a := ⟨g, D + h, none⟩) G.out rfl (.int .i64 (y % p)))
      clear hy
      go_wp2_with fail
      go_roundw
      case rel => exact ⟨h + 1, by go_num, by omega, by rw [← RS.out]; exact IS.out, GS.out⟩
      case measure => simp [intOf]; omega
    · obtain rfl : c = h := by omega
      go_wp2_with fail
      go_end0
      exact ⟨rfl, by rw [← RA.out]; exact I.out, G.out⟩
end Go.Proofs.Ytncplikadacjnaa
end

section
/-
  Chapter 8, in the program: a row without its cell in the pivot's column.
-/
namespace Go.Proofs.Ytncplikadacjnaa
set_option maxRecDepth 100000
open Go.RowKit

theorem less_mod {p a x b : Int} : (a + (p - x) * b) % p = (a - x * b) % p := by
  rw [show a + (p - x) * b = (a - x * b) + p * b by grind, Int.add_mul_emod_self_left]
set_option maxHeartbeats 2000000 in
theorem iClearM (r c i t j N g mi mt : Nat) (p : Int) (xs : List Int) (w : World) (hN : N = r * c) (hx : xs.length = N) (hc : c ≤ 24) (hir : i < r) (htr : t < r) (hit : i ≠ t) (hj : j < c) (hp : prmB p = true) (hcan : CanL p xs) (hi : Ints w g xs) :
    Calls Try.prog 77 #[.slice (some ⟨g, i * c, none⟩) c mi, .slice (some ⟨g, t * c, none⟩) c mt, .int .i64 j, .int .i64 p] w (fun e w' => Void e ∧ Ints w' g (rowL r c i (lsV p (mxC c xs i j) (mxC c xs i) (mxC c xs t)) xs) ∧ w.grownBy w' (some g)) := by
  have hl : xs.length = r * c := by rw [hx, hN]
  obtain ⟨pp, hp2⟩ := prmB_says hp
  have hp1 := pp.1
  have IL : Hid (∀ i q, i < r → q < c → i * c + q < N) := fun i q hi hq => by rw [hN]; exact idx_lt hi hq
  have NI : Hid (∀ k, k < c → 0 ≤ mxC c xs i k ∧ mxC c xs i k < p) := fun k hk => hcan.mx hl hir hk
  have NT : Hid (∀ k, k < c → 0 ≤ mxC c xs t k ∧ mxC c xs t k < p) := fun k hk => hcan.mx hl htr hk
  have hcx : w.cell? ⟨g, i * c + j, none⟩ = some (.int .i64 (mxC c xs i j)) := hi.cell (by rw [hl]; exact idx_lt hir hj)
  obtain ⟨x0, x1⟩ := NI.out j hj
  obtain ⟨x, hxx⟩ : ∃ x, mxC c xs i j = x := ⟨_, rfl⟩
  rw [hxx] at x0 x1 hcx ⊢
  have RT : Hid (∀ k, k < c → (rowTo r c i (lsV p x (mxC c xs i) (mxC c xs t)) xs k).set (i * c + k) ((mxC c xs i k + (p - x) * mxC c xs t k) % p) = rowTo r c i (lsV p x (mxC c xs i) (mxC c xs t)) xs (k + 1)) := fun k hk => by rw [less_mod]; exact rowTo_step hir hk
  have RX : Hid (∀ k, k < c → (rowTo r c i (lsV p x (mxC c xs i) (mxC c xs t)) xs k).getD (i * c + k) 0 = mxC c xs i k) := fun k hk => rowTo_old hir hk (.inr (Nat.le_refl _))
  have RY : Hid (∀ k, k < c → (rowTo r c i (lsV p x (mxC c xs i) (mxC c xs t)) xs k).getD (t * c + k) 0 = mxC c xs t k) := fun k hk => rowTo_old htr hk (.inl (fun e => hit e.symm))
  have RL : Hid (∀ k, (rowTo r c i (lsV p x (mxC c xs i) (mxC c xs t)) xs k).length = N) := fun k => by rw [rowTo_length, hN]
  have RZ : Hid (rowTo r c i (lsV p x (mxC c xs i) (mxC c xs t)) xs 0 = xs) := rowTo_zero hl
  have RA : Hid (rowTo r c i (lsV p x (mxC c xs i) (mxC c xs t)) xs c = rowL r c i (lsV p x (mxC c xs i) (mxC c xs t)) xs) := rowTo_all
  have I := Lib.hid hi
  have lg := hi.lt
  generalize lsV p x (mxC c xs i) (mxC c xs t) = u at RT RX RY RL RZ RA ⊢
  obtain ⟨Di, hDi⟩ : ∃ D, i * c = D := ⟨_, rfl⟩
  obtain ⟨Dt, hDt⟩ : ∃ D, t * c = D := ⟨_, rfl⟩
  have LI : Hid (∀ q, q < c → Di + q < N) := fun q hq => by rw [← hDi]; exact IL.out i q hir hq
  have LT : Hid (∀ q, q < c → Dt + q < N) := fun q hq => by rw [← hDt]; exact IL.out t q htr hq
  rw [hDi] at RT RX hcx ⊢
  rw [hDt] at RY ⊢
  have np : ¬ p = 0 := by omega
  obtain ⟨v, hv⟩ : ∃ v, p - x = v := ⟨_, rfl⟩
  have w0 : IntKind.i64.wrap (p - x) = v := by rw [← hv]; exact IntWalk.i64_in _ (by omega)
  have v0 : 0 ≤ v ∧ v ≤ 10000 := by omega
  rw [hv] at RT
  clear hl hx hN hDi hDt hi IL hv hxx pp hp hcan
  go_enter Try.func77, Try.ntmps77
  go_wp2_with fail
  go_loopw [9, 18] (fun _ v18 wr => ∃ h : Nat, v18 = .int .i64 h ∧ h ≤ c ∧ Ints wr g (rowTo r c i u xs h) ∧ w.grownBy wr (some g)) (fun _ v18 _ => c - (intOf v18).toNat)
  case atStart => exact ⟨0, rfl, by omega, by rw [RZ.out]; exact I.out, World.grownBy.refl _ _⟩
  case round =>
    clear I hcx
    obtain ⟨h, rfl, hh, hi, hgr⟩ := hrel
    have I := Lib.hid hi
    have G := Lib.hid hgr
    clear hi hgr
    by_cases hlt : h < c
    · have hca := I.out.cell (i := Di + h) (by rw [RL.out]; exact LI.out h hlt)
      have hcb := I.out.cell (i := Dt + h) (by rw [RL.out]; exact LT.out h hlt)
      have hfr := I.out.free (Di + h)
      rw [RX.out h hlt] at hca
      rw [RY.out h hlt] at hcb
      obtain ⟨na1, na2⟩ := NI.out h hlt
      obtain ⟨nb1, nb2⟩ := NT.out h hlt
      have RS := Lib.hid (RT.out h hlt)
      generalize mxC c xs i h = ea at hca na1 na2 RS
      generalize mxC c xs t h = eb at hcb nb1 nb2 RS
      have m1 : 0 ≤ v * eb := Int.mul_nonneg v0.1 nb1
      have m2 : v * eb ≤ 10000 * 10000 := Int.mul_le_mul v0.2 (by omega) nb1 (by omega)
      obtain ⟨o, ho⟩ : ∃ o, v * eb = o := ⟨_, rfl⟩
      have v2 : IntKind.i64.wrap (v * eb) = o := by rw [← ho]; exact IntWalk.i64_in _ (by omega)
      rw [ho] at RS m1 m2
      obtain ⟨f, hf⟩ : ∃ f, ea + o = f := ⟨_, rfl⟩
      have v3 : IntKind.i64.wrap (ea + o) = f := by rw [← hf]; exact IntWalk.i64_in _ (by omega)
      rw [hf] at RS
      have e2 : Int.tmod f p = f % p := Int.tmod_eq_emod_of_nonneg (by omega)
      have IS := Lib.hid ((I.out.drew).set (Di + h) (f % p))
      have GS := Lib.hid (grown_set_one (a := ⟨g, Di + h, none⟩) (grown_drew_one G.out) rfl (.int .i64 (f % p)))
      clear ho hf
      go_wp2_with fail
      go_still_tail 16, (by kernel_rfl)
      go_wp2_with fail
      go_roundw
      case rel => exact ⟨h + 1, by go_num, by omega, by rw [← RS.out]; exact IS.out, GS.out⟩
      case measure => simp [intOf]; omega
    · obtain rfl : c = h := by omega
      go_wp2_with fail
      go_end0
      exact ⟨rfl, by rw [← RA.out]; exact I.out, G.out⟩
end Go.Proofs.Ytncplikadacjnaa
end

section
/-
  Chapter 7, in the program: the pivot's row of any matrix.
-/
namespace Go.Proofs.Ytncplikadacjnaa
set_option maxRecDepth 100000
open Go.RowKit

/-- What pivotRow answers. -/
def pvR (r c j t : Nat) (xs : List Int) : Int := if fstR c j xs (r - t) t = r then -1 else (fstR c j xs (r - t) t : Int)
set_option maxHeartbeats 1000000 in
theorem iPivR (r c t j N cap g : Nat) (q : Option Addr) (xs : List Int) (w : World) (hN : N = r * c) (hr : r ≤ 24) (hc : c ≤ 24) (ht : t ≤ r) (hj : j < c) (hg : Cel w q N cap g xs) :
    Calls Try.prog 74 #[.agg #[.int .i64 r, .int .i64 c, .slice q N cap], .int .i64 t, .int .i64 j] w (Gives (.int .i64 (pvR r c j t xs)) w) := by
  have hle : r * c ≤ 24 * 24 := Nat.mul_le_mul hr hc
  rw [← hN] at hle
  have hx := hg.len
  have hl : xs.length = r * c := by rw [hx, hN]
  have IX : Hid (∀ i, i < r → ∃ P : Nat, i * c + j = P ∧ P < N ∧ IntKind.i64.wrap ((i : Int) * (c : Int)) = (i : Int) * (c : Int) ∧ IntKind.i64.wrap ((i : Int) * (c : Int) + (j : Int)) = (P : Int)) := fun i hi => by
    have h1 : i * c + j < r * c := idx_lt hi hj
    have c1 : (i : Int) * (c : Int) = ((i * c : Nat) : Int) := (Int.natCast_mul _ _).symm
    refine ⟨i * c + j, rfl, by omega, IntWalk.i64_in _ (by rw [c1]; omega), ?_⟩
    rw [show (i : Int) * (c : Int) + (j : Int) = ((i * c + j : Nat) : Int) by rw [c1]; omega]
    exact IntWalk.i64_in _ (by omega)
  have BW : Hid (Below w.heap.size w (w.alloc (.cells #[.int .i64 r, .int .i64 c, .slice q N cap] 26))) := (Below.refl _ _).alloc (Nat.le_refl _) _
  have K0 : Hid (Blk3 (w.alloc (.cells #[.int .i64 r, .int .i64 c, .slice q N cap] 26)) w.heap.size 26 (.int .i64 r) (.int .i64 c) (.slice q N cap)) := Blk3.at_ _ _ _ _ rfl
  have CX : Hid (∀ i P, i < r → i * c + j = P → ∃ b o : Nat, q = some ⟨b, o, none⟩ ∧ (w.alloc (.cells #[.int .i64 r, .int .i64 c, .slice q N cap] 26)).cell? ⟨b, o + P, none⟩ = some (.int .i64 (mxC c xs i j))) := fun i P hi hP => by
    subst hP
    exact hg.rd.below BW.out _ (by rw [hl]; exact idx_lt hi hj)
  clear hN hx hl hg
  go_enter Try.func74, Try.ntmps74
  go_wp2_with fail
  generalize w.alloc (.cells #[.int .i64 r, .int .i64 c, .slice q N cap] 26) = W at BW K0 CX
  obtain ⟨p0, p1, p2, -, -, -⟩ := K0.out.all
  go_loopw [6, 7] (fun _ v7 wq => ∃ p : Nat, v7 = .int .i64 p ∧ t ≤ p ∧ p ≤ r ∧ (∀ i, t ≤ i → i < p → mxC c xs i j = 0) ∧ wq = W) (fun _ v7 _ => r - (intOf v7).toNat)
  case atStart => exact ⟨t, rfl, Nat.le_refl _, by omega, fun i h1 h2 => by omega, rfl⟩
  case round =>
    obtain ⟨p, rfl, hp1, hp2, hp0, rfl⟩ := hrel
    have P0 := Lib.hid hp0
    clear hp0
    by_cases hpn : p < r
    · obtain ⟨P, hP, hPN, u1, u2⟩ := IX.out p hpn
      have Pa : (0 : Int) ≤ (P : Int) := by omega
      have Pb : (P : Int) < (N : Int) := by omega
      obtain ⟨b, o, rfl, hcell⟩ := CX.out p P hpn hP
      obtain ⟨x, hxx⟩ : ∃ x, mxC c xs p j = x := ⟨_, rfl⟩
      have X := Lib.hid hxx
      rw [hxx] at hcell
      clear hxx hP
      by_cases h0 : x = 0
      · have n1 : (x != 0) = false := by simp [h0]
        have n2 : (x == 0) = true := by simp [h0]
        have P1 : Hid (∀ i, t ≤ i → i < p + 1 → mxC c xs i j = 0) := fun i h1 h2 => by
          rcases Nat.lt_or_ge i p with h3 | h3
          · exact P0.out i h1 h3
          · obtain rfl : i = p := by omega
            rw [X.out, h0]
        clear h0
        go_wp2_with fail
        go_roundw
        case rel => exact ⟨p + 1, by go_num, by omega, by omega, P1.out, trivial⟩
        case measure => simp [intOf]; omega
      · have n1 : (x != 0) = true := by simpa using h0
        have n2 : (x == 0) = false := by simpa using h0
        have PV : Hid (pvR r c j t xs = p) := by
          have e : fstR c j xs (r - t) t = p := fstR_eq hp1 (by omega) P0.out fun _ => by rw [X.out]; exact h0
          show pvR r c j t xs = p
          unfold pvR
          rw [e, if_neg (by omega)]
        clear h0
        go_wp2_with fail
        go_ret
        exact ⟨by rw [PV.out]; rfl, BW.out⟩
    · have hpe : p = r := by omega
      have PV : Hid (pvR r c j t xs = -1) := by
        show pvR r c j t xs = -1
        unfold pvR
        rw [if_pos ((fstR_eq hp1 (by omega) P0.out fun h => by omega).trans hpe)]
      clear hpe
      go_wp2_with fail
      go_ret
      exact ⟨by rw [PV.out]; rfl, BW.out⟩
end Go.Proofs.Ytncplikadacjnaa
end

section
/-
  Chapter 3, in the model: a matrix that is done.
-/
namespace Go.Proofs.Ytncplikadacjnaa
open Go.RowKit

/-- A matrix that is handed on if it is valid. -/
def DoneRes (r c : Int) (v : Value) (ok : Bool) : Value := if ok = true then .tuple #[.agg #[.int .i64 r, .int .i64 c, v], .bool true] else .tuple #[.agg #[.int .i64 0, .int .i64 0, .slice none 0 0], .bool false]

end Go.Proofs.Ytncplikadacjnaa
end

section
/-
  Chapter 3, in the program: a matrix that is handed on if it is valid.
-/
namespace Go.Proofs.Ytncplikadacjnaa
open Go.RowKit

set_option maxHeartbeats 400000 in
theorem iDone (r c : Int) (a : Option Addr) (cap : Nat) (zs : List Int) (w : World) (h : Rd w a zs) (hn : zs.length ≤ 16777216) :
    Calls Try.prog 62 #[.agg #[.int .i64 r, .int .i64 c, .slice a zs.length cap]] w (Gives (DoneRes r c (.slice a zs.length cap) (isMat r c zs)) w) := by
  have H := Lib.hid h
  clear h
  go_enter Try.func62, Try.ntmps62
  go_wp2_with fail
  refine (iIsMat r c a cap zs _ (H.out.below (((Below.refl _ _).alloc (Nat.le_refl _) _).alloc (by simp) _)) hn).mono ?_
  rintro e w1 ⟨rfl, hb⟩
  have K0 : Hid (Blk3 w1 w.heap.size 26 (.int .i64 r) (.int .i64 c) (.slice a zs.length cap)) := ((Blk3.at_ _ _ _ _ rfl).old _).keep hb (by simp <;> omega)
  have K1 : Hid (Blk3 w1 (w.heap.size + 1) 26 (.int .i64 0) (.int .i64 0) (.slice none 0 0)) := (Blk3.at_ _ _ _ _ (by simp)).keep hb (by simp)
  have B : Hid (Below w.heap.size w w1) := (((Below.refl _ _).alloc (Nat.le_refl _) _).alloc (by simp) _).trans (hb.mono (by simp <;> omega))
  clear hb
  obtain ⟨c0, c1, c2, -, -, -⟩ := K0.out.all
  obtain ⟨d0, d1, d2, g0, g1, g2⟩ := K1.out.all
  have BB : ∀ x y z, Below w.heap.size w (((w1.setCell ⟨w.heap.size + 1, 0, none⟩ x).setCell ⟨w.heap.size + 1, 1, none⟩ y).setCell ⟨w.heap.size + 1, 2, none⟩ z) := fun x y z =>
    ((B.out.setCell (Nat.le_succ _) _).setCell (Nat.le_succ _) _).setCell (Nat.le_succ _) _
  have BH := Lib.hid BB
  clear BB
  rcases Bool.eq_false_or_eq_true (isMat r c zs) with hm | hm
  · rw [hm]
    have M := Lib.hid hm
    clear hm
    go_wp2_with fail
    obtain ⟨E0, E1, E2, -, -, -⟩ := (((K1.out.set0 (.int .i64 r)).set1 (.int .i64 c)).set2 (.slice a zs.length cap)).all
    exact bodyPost_ret (v := .tuple #[.agg #[.int .i64 r, .int .i64 c, .slice a zs.length cap], .bool true]) (by simp [results, Try.results62, go_sem, E0, E1, E2]) rfl ⟨by rw [M.out]; rfl, BH.out _ _ _⟩
  · rw [hm]
    have M := Lib.hid hm
    clear hm
    go_wp2_with fail
    obtain ⟨E0, E1, E2, -, -, -⟩ := (((K1.out.set0 (.int .i64 0)).set1 (.int .i64 0)).set2 (.slice none 0 0)).all
    exact bodyPost_ret (v := .tuple #[.agg #[.int .i64 0, .int .i64 0, .slice none 0 0], .bool false]) (by simp [results, Try.results62, go_sem, E0, E1, E2]) rfl ⟨by rw [M.out]; rfl, BH.out _ _ _⟩

end Go.Proofs.Ytncplikadacjnaa
end

section
/-
  Chapter 3, in the program: a fold whose closure writes into its value (MultiplyMatrices).
-/
namespace Go.Proofs.Ytncplikadacjnaa
set_option maxRecDepth 100000
open Go.RowKit

theorem sevenG {W w' : World} {b g : Nat} {t : TypeId} {p q r : Value} (h0 : Blk3 W b t p q r) (hg : W.grownBy w' (some g)) (hb : b ≠ g) :
    w'.cell? ⟨b, 0, none⟩ = some p ∧ w'.cell? ⟨b, 1, none⟩ = some q ∧ w'.cell? ⟨b, 2, none⟩ = some r :=
  ⟨(h0.keepOne hg hb).cell0, (h0.keepOne hg hb).cell1, (h0.keepOne hg hb).cell2⟩
theorem far_of {w : World} {a : Option Addr} {zs : List Int} {n : Nat} (h : Rd w a zs) (hn : zs.length = n) : ∀ b o : Nat, a = some ⟨b, o, none⟩ → 0 < n → b ≠ w.heap.size := by
  intro b o e hz
  obtain ⟨b', o', e', hc⟩ := h 0 (by omega)
  rw [e] at e'
  injection e' with e'
  injection e' with e1 e2
  have := World.block_lt_of_cell? w _ hc
  simp at this
  omega
set_option maxRecDepth 100000 in
set_option maxHeartbeats 1000000 in
theorem iFoldM (pb R C n : Nat) (a : Option Addr) (cap : Nat) (zs : List Int) (g m mc : Nat) (L : Nat → List Int) (w : World) (hx : zs.length = n) (h : Rd w a zs) (hn : n = R * C) (hR : R ≤ 24) (hC : C ≤ 24) (hg : Ints w g (L 0)) (hz : ∀ b o : Nat, a = some ⟨b, o, none⟩ → 0 < n → b ≠ g)
    (step : ∀ (k : Nat) (w1 : World), k < n → w.grownBy w1 (some g) → Ints w1 g (L k) → Calls Try.prog 61 #[.slice (some ⟨g, 0, none⟩) m mc, .int .i64 ((k : Int) / (C : Int)), .int .i64 ((k : Int) % (C : Int)), .int .i64 (zs.getD k 0), .pointer (some ⟨pb, 0, none⟩)] w1
      (fun e w2 => e = .returned (.slice (some ⟨g, 0, none⟩) m mc) ∧ Ints w2 g (L (k + 1)) ∧ w1.grownBy w2 (some g))) :
    Calls Try.prog 60 #[.agg #[.int .i64 R, .int .i64 C, .slice a n cap], .slice (some ⟨g, 0, none⟩) m mc, .func (.func 61) #[] #[.pointer (some ⟨pb, 0, none⟩)]] w
      (fun e w' => e = .returned (.slice (some ⟨g, 0, none⟩) m mc) ∧ Ints w' g (L n) ∧ w.grownBy w' (some g)) := by
  have H := Lib.hid h
  have ST := Lib.hid step
  have HZ := Lib.hid hz
  have hle : R * C ≤ 24 * 24 := Nat.mul_le_mul hR hC
  have HN := Lib.hid hx
  rw [← hn] at hle
  have HM := Lib.hid hn
  have gw : w.grownBy (w.alloc (.cells #[.int .i64 R, .int .i64 C, .slice a n cap] 26)) (some g) := World.grownBy_alloc w _ _
  have G0 := Lib.hid gw
  have I0 := Lib.hid (hg.old (.cells #[.int .i64 R, .int .i64 C, .slice a n cap] 26))
  have K0 : Hid (Blk3 (w.alloc (.cells #[.int .i64 R, .int .i64 C, .slice a n cap] 26)) w.heap.size 26 (.int .i64 R) (.int .i64 C) (.slice a n cap)) := Blk3.at_ _ _ _ _ rfl
  have lg := hg.lt
  clear h step hz hx hn gw hg
  go_enter Try.func60, Try.ntmps60
  go_wp2_with fail
  go_loopw [7, 8, 9, 14] (fun v _ _ i wr => ∃ k : Nat, i = .int .i64 k ∧ k ≤ n ∧ v = .slice (some ⟨g, 0, none⟩) m mc ∧ Ints wr g (L k) ∧ (w.alloc (.cells #[.int .i64 R, .int .i64 C, .slice a n cap] 26)).grownBy wr (some g)) (fun _ _ _ i _ => n - (intOf i).toNat)
  case atStart => exact ⟨0, rfl, by omega, rfl, I0.out, World.grownBy.refl _ _⟩
  case round =>
    obtain ⟨k, rfl, hk, rfl, hi, hgr⟩ := hrel
    have I := Lib.hid hi
    have G := Lib.hid hgr
    have GW := Lib.hid (G0.out.trans hgr)
    clear hi hgr
    have R0 := Lib.hid (K0.out.keepOne G.out (by omega))
    by_cases hlt : k < n
    · have hC0 : 0 < C := by
        rcases Nat.eq_zero_or_pos C with e | e
        · have := HM.out; rw [e, Nat.mul_zero] at this; omega
        · exact e
      have c0 : ((C : Int) == 0) = false := by simp; omega
      obtain ⟨b, o, rfl, hcell⟩ := H.out k (by rw [HN.out]; exact hlt)
      have u1 := World.block_lt_of_cell? w _ hcell
      have hb : b ≠ g := HZ.out b o rfl (by omega)
      have hcell := GW.out.cell hcell (by simpa using hb)
      have d1 : (k : Int) / (C : Int) = ((k / C : Nat) : Int) := (Int.natCast_ediv k C).symm
      have d2 : (k : Int) % (C : Int) = ((k % C : Nat) : Int) := (Int.natCast_emod k C).symm
      have d3 : k / C ≤ k := Nat.div_le_self k C
      have d4 : k % C ≤ k := Nat.mod_le k C
      have d5 : 0 ≤ (k : Int) / (C : Int) := by rw [d1]; exact Int.natCast_nonneg _
      have d6 : (k : Int) / (C : Int) ≤ 600 := by rw [d1]; exact Int.ofNat_le.mpr (show k / C ≤ 600 by omega)
      have c1 : ¬ C = 0 := by omega
      have w1 : IntKind.i64.wrap ((k : Int) / (C : Int)) = (k : Int) / (C : Int) := IntWalk.i64_in _ (by omega)
      have e2 : Int.tmod (k : Int) (C : Int) = (k : Int) % (C : Int) := Int.tmod_eq_emod_of_nonneg (by omega)
      have e3 : Int.tdiv (k : Int) (C : Int) = (k : Int) / (C : Int) := Int.tdiv_eq_ediv_of_nonneg (by omega)
      clear d1 d2
      obtain ⟨z, hz⟩ : ∃ z, zs.getD k 0 = z := ⟨_, rfl⟩
      rw [hz] at hcell
      have Z := Lib.hid hz
      clear hz u1
      obtain ⟨r0, r1, r2, -, -, -⟩ := R0.out.all
      go_wp2_with fail
      go_still_tail 11, (by kernel_rfl)
      go_wp2_with fail
      rw [← Z.out]
      refine (ST.out k _ hlt (grown_drew_one GW.out) I.out.drew).mono ?_
      rintro e w2 ⟨rfl, hi2, hg2⟩
      have I2 := Lib.hid hi2
      have G2 := Lib.hid ((grown_drew_one G.out).trans hg2)
      clear hi2 hg2
      go_wp2_with fail
      go_roundw
      case rel => exact ⟨k + 1, by go_num, by omega, rfl, I2.out, G2.out⟩
      case measure => simp [intOf]; omega
    · obtain rfl : n = k := by omega
      go_wp2_with fail
      go_ret
      exact ⟨rfl, I.out, GW.out⟩
end Go.Proofs.Ytncplikadacjnaa
end

section
/-
  Chapter 7, in the program: two rows of any matrix swapped in place.
-/
namespace Go.Proofs.Ytncplikadacjnaa
set_option maxRecDepth 100000
open Go.RowKit

theorem keepC {W : World} {b g : Nat} {p q v : Value} (h : W.cell? ⟨b, 0, none⟩ = some p ∧ W.cell? ⟨b, 1, none⟩ = some q ∧ W.cell? ⟨b, 2, none⟩ = some v) (hne : b ≠ g) (o : Nat) (u : Value) :
    (W.setCell ⟨g, o, none⟩ u).cell? ⟨b, 0, none⟩ = some p ∧ (W.setCell ⟨g, o, none⟩ u).cell? ⟨b, 1, none⟩ = some q ∧ (W.setCell ⟨g, o, none⟩ u).cell? ⟨b, 2, none⟩ = some v := by
  have e : ∀ k, (W.setCell ⟨g, o, none⟩ u).cell? ⟨b, k, none⟩ = W.cell? ⟨b, k, none⟩ := fun k => World.cell?_setCell_other W _ _ _ (fun e => hne (by injection e with e; exact e.symm))
  exact ⟨(e 0).trans h.1, (e 1).trans h.2.1, (e 2).trans h.2.2⟩
/-- The cells before column q of rows p and t swapped. -/
def swTo (p t c : Nat) (xs : List Int) (q : Nat) : List Int := if p = t then xs else opTo 0 p t 0 c xs q
theorem swTo_length (p t c : Nat) (xs : List Int) (q : Nat) : (swTo p t c xs q).length = xs.length := by
  unfold swTo
  split
  · rfl
  · exact opTo_length _ _ _ _ _ _ _
theorem swTo_zero (p t c : Nat) (xs : List Int) : swTo p t c xs 0 = xs := by
  unfold swTo
  split
  · rfl
  · exact opTo_zero _ _ _ _ _ _
theorem swTo_all {p t c : Nat} {xs : List Int} (h : 0 < c) : swTo p t c xs c = swC p t c xs := by
  unfold swTo swC
  split
  · rfl
  · exact opTo_all _ _ _ _ _ _ (.inr h)
theorem set_self (xs : List Int) (i : Nat) : xs.set i (xs.getD i 0) = xs := by
  rcases Nat.lt_or_ge i xs.length with h | h
  · simp [List.getD, h]
  · exact List.set_eq_of_length_le h
theorem swTo_step {r p t c q : Nat} {xs : List Int} (hx : xs.length = r * c) (hp : p < r) (ht : t < r) (hq : q < c) : ((swTo p t c xs q).set (p * c + q) (xs.getD (t * c + q) 0)).set (t * c + q) (xs.getD (p * c + q) 0) = swTo p t c xs (q + 1) := by
  unfold swTo
  by_cases e : p = t
  · rw [if_pos e, if_pos e, e, set_self, set_self]
  · rw [if_neg e, if_neg e]
    exact (op_swap p t 0 c r xs q hx hp ht hq).resolve_right e
theorem swTo_at {r p t c q i : Nat} {xs : List Int} (hx : xs.length = r * c) (hi : i < r) (hq : q < c) : (swTo p t c xs q).getD (i * c + q) 0 = xs.getD (i * c + q) 0 := by
  unfold swTo
  split
  · rfl
  · exact opTo_at _ _ _ _ _ _ _ _ hq (by rw [hx]; exact idx_lt hi hq)
set_option maxHeartbeats 2000000 in
theorem iSwR (r c p t N cap g : Nat) (xs : List Int) (w : World) (hN : N = r * c) (hx : xs.length = N) (hr : r ≤ 24) (hc : c ≤ 24) (hc0 : 0 < c) (hp : p < r) (ht : t < r) (hi : Ints w g xs) :
    Calls Try.prog 75 #[.agg #[.int .i64 r, .int .i64 c, .slice (some ⟨g, 0, none⟩) N cap], .int .i64 p, .int .i64 t] w (fun e w' => Void e ∧ Ints w' g (swC p t c xs) ∧ w.grownBy w' (some g)) := by
  have hle : r * c ≤ 24 * 24 := Nat.mul_le_mul hr hc
  rw [← hN] at hle
  have hl : xs.length = r * c := by rw [hx, hN]
  have SL : Hid (∀ q, (swTo p t c xs q).length = N) := fun q => by rw [swTo_length, hx]
  have SS : Hid (∀ q, q < c → ((swTo p t c xs q).set (p * c + q) (xs.getD (t * c + q) 0)).set (t * c + q) (xs.getD (p * c + q) 0) = swTo p t c xs (q + 1)) := fun q hq => swTo_step hl hp ht hq
  have SA : Hid (∀ i q, i < r → q < c → (swTo p t c xs q).getD (i * c + q) 0 = xs.getD (i * c + q) 0) := fun i q hi hq => swTo_at hl hi hq
  have SZ : Hid (swTo p t c xs 0 = xs) := swTo_zero _ _ _ _
  have SE : Hid (swTo p t c xs c = swC p t c xs) := swTo_all hc0
  have IL : Hid (∀ i q, i < r → q < c → i * c + q < N) := fun i q hi hq => by rw [hN]; exact idx_lt hi hq
  have lg := hi.lt
  have GW : Hid (w.grownBy (w.alloc (.cells #[.int .i64 r, .int .i64 c, .slice (some ⟨g, 0, none⟩) N cap] 26)) (some g)) := World.grownBy_alloc _ _ _
  have K0 : Hid (Blk3 (w.alloc (.cells #[.int .i64 r, .int .i64 c, .slice (some ⟨g, 0, none⟩) N cap] 26)) w.heap.size 26 (.int .i64 r) (.int .i64 c) (.slice (some ⟨g, 0, none⟩) N cap)) := Blk3.at_ _ _ _ _ rfl
  have I := Lib.hid (hi.old (.cells #[.int .i64 r, .int .i64 c, .slice (some ⟨g, 0, none⟩) N cap] 26))
  clear hN hx hi hl
  go_enter Try.func75, Try.ntmps75
  go_wp2_with fail
  generalize w.alloc (.cells #[.int .i64 r, .int .i64 c, .slice (some ⟨g, 0, none⟩) N cap] 26) = W at GW K0 I
  obtain ⟨z0, z1, z2, -, -, -⟩ := K0.out.all
  go_loopw [6, 7, 8, 11] (fun _ _ _ v11 wr => ∃ q : Nat, v11 = .int .i64 q ∧ q ≤ c ∧ Ints wr g (swTo p t c xs q) ∧ W.grownBy wr (some g)) (fun _ _ _ v11 _ => c - (intOf v11).toNat)
  case atStart => exact ⟨0, rfl, by omega, by rw [SZ.out]; exact I.out, World.grownBy.refl _ _⟩
  case round =>
    clear z0 z1 z2
    obtain ⟨q, rfl, hq, hi, hgr⟩ := hrel
    have I := Lib.hid hi
    have G := Lib.hid hgr
    clear hi hgr
    have R0 := Lib.hid (K0.out.keepOne G.out (by omega))
    obtain ⟨r0, r1, r2, -, -, -⟩ := R0.out.all
    by_cases hlt : q < c
    · have ja := IL.out p q hp hlt
      have jb := IL.out t q ht hlt
      have ca : (p : Int) * (c : Int) = ((p * c : Nat) : Int) := (Int.natCast_mul _ _).symm
      have cb : (t : Int) * (c : Int) = ((t * c : Nat) : Int) := (Int.natCast_mul _ _).symm
      obtain ⟨A, hA⟩ : ∃ A, p * c + q = A := ⟨_, rfl⟩
      obtain ⟨C, hC⟩ : ∃ C, t * c + q = C := ⟨_, rfl⟩
      have va0 : IntKind.i64.wrap ((p : Int) * (c : Int)) = (p : Int) * (c : Int) := IntWalk.i64_in _ (by rw [ca]; omega)
      have va1 : IntKind.i64.wrap ((p : Int) * (c : Int) + (q : Int)) = (A : Int) := by
        rw [show (p : Int) * (c : Int) + (q : Int) = (A : Int) by rw [ca, ← hA]; omega]
        exact IntWalk.i64_in _ (by omega)
      have vb0 : IntKind.i64.wrap ((t : Int) * (c : Int)) = (t : Int) * (c : Int) := IntWalk.i64_in _ (by rw [cb]; omega)
      have vb1 : IntKind.i64.wrap ((t : Int) * (c : Int) + (q : Int)) = (C : Int) := by
        rw [show (t : Int) * (c : Int) + (q : Int) = (C : Int) by rw [cb, ← hC]; omega]
        exact IntWalk.i64_in _ (by omega)
      have a0 : (0 : Int) ≤ (A : Int) := by omega
      have a1 : (A : Int) < (N : Int) := by omega
      have b0 : (0 : Int) ≤ (C : Int) := by omega
      have b1 : (C : Int) < (N : Int) := by omega
      have s0 := SS.out q hlt
      have oa := SA.out p q hp hlt
      have ob := SA.out t q ht hlt
      rw [hA] at oa s0
      rw [hC] at ob s0
      have h1 := I.out.cell (i := A) (by rw [SL.out]; omega)
      have h2 := I.out.cell (i := C) (by rw [SL.out]; omega)
      rw [oa] at h1
      rw [ob] at h2
      obtain ⟨x, hxx⟩ : ∃ x, xs.getD A 0 = x := ⟨_, rfl⟩
      obtain ⟨y, hyy⟩ : ∃ y, xs.getD C 0 = y := ⟨_, rfl⟩
      rw [hxx, hyy] at s0
      rw [hxx] at h1
      rw [hyy] at h2
      have S0 := Lib.hid s0
      have OY : Hid (A = C → x = y) := fun h => by rw [← hxx, ← hyy, h]
      have f1 := I.out.free A
      have C36 : C < N := by omega
      clear ca cb hA hC s0 oa ob hxx hyy ja jb
      go_wp2_with fail
      go_quiet (fail)
      have I := Lib.hid (I.out.drewN nq)
      have G := Lib.hid (grown_drewN_one G.out nq)
      have ng : w.heap.size ≠ g := by omega
      replace h1 : (wr.drewN nq).cell? ⟨g, A, none⟩ = some (.int .i64 x) := h1
      replace h2 : (wr.drewN nq).cell? ⟨g, C, none⟩ = some (.int .i64 y) := h2
      replace f1 : (wr.drewN nq).frozen? ⟨g, A, none⟩ = false := f1
      replace r0 : (wr.drewN nq).cell? ⟨w.heap.size, 0, none⟩ = some (.int .i64 r) := r0
      replace r1 : (wr.drewN nq).cell? ⟨w.heap.size, 1, none⟩ = some (.int .i64 c) := r1
      replace r2 : (wr.drewN nq).cell? ⟨w.heap.size, 2, none⟩ = some (.slice (some ⟨g, 0, none⟩) N cap) := r2
      generalize wr.drewN nq = wd at I G h1 h2 f1 r0 r1 r2
      go_upto_region 5 with fail
      have hS := Lib.hid (show wd.drew.cell? ⟨w.heap.size, 0, none⟩ = some (.int .i64 r) ∧ wd.drew.cell? ⟨w.heap.size, 1, none⟩ = some (.int .i64 c) ∧ wd.drew.cell? ⟨w.heap.size, 2, none⟩ = some (.slice (some ⟨g, 0, none⟩) N cap) from ⟨r0, r1, r2⟩)
      have G := Lib.hid (grown_drew_one G.out)
      have ID := I.out.drew
      have IS := ID.set A y
      have f2 := IS.free C
      have h3 := IS.cell (i := C) (by rw [List.length_set, SL.out]; omega)
      have IS2 := Lib.hid (IS.set C x)
      replace h1 : wd.drew.cell? ⟨g, A, none⟩ = some (.int .i64 x) := h1
      replace h2 : wd.drew.cell? ⟨g, C, none⟩ = some (.int .i64 y) := h2
      replace f1 : wd.drew.frozen? ⟨g, A, none⟩ = false := f1
      clear r0 r1 r2 I ID IS

      refine wp_region_held_drew (S := fun w' => w'.cell? ⟨w.heap.size, 0, none⟩ = some (.int .i64 r) ∧ w'.cell? ⟨w.heap.size, 1, none⟩ = some (.int .i64 c) ∧ w'.cell? ⟨w.heap.size, 2, none⟩ = some (.slice (some ⟨g, 0, none⟩) N cap)) (by kernel_rfl) hS.out (fun hH => ?_)
      (try dsimp only at hH)
      generalize wd.drew = we at hS G f2 h3 IS2 h1 h2 f1 hH ⊢
      refine wpAnyH_take (i := 0) (v := ?_) (by simp only [List.getElem?_toArray, List.getElem?_cons_zero]; rfl) (by kernel_rfl) (by kernel_rfl) (by kernel_rfl) (by exact fun _ _ _ h => h) (Or.inl ⟨by rfl, ?_⟩) hH ?_
      rotate_left
      · (intro wS hS; clear hS; go_simp; try rfl)
      try simp only [Act.put, List.setIfInBounds_toArray, List.set_cons_zero, List.set_cons_succ]
      refine wpAnyH_take (i := 1) (v := ?_) (by simp only [List.getElem?_toArray, List.getElem?_cons_succ, List.getElem?_cons_zero]; rfl) (by kernel_rfl) (by kernel_rfl) (by kernel_rfl) (by exact fun _ _ _ h => h) (Or.inl ⟨by rfl, ?_⟩) hH ?_
      rotate_left
      · (intro wS hS; (try dsimp only at hS); obtain ⟨k0, k1, k2⟩ := hS; go_simp; try rfl)
      try simp only [Act.put, List.setIfInBounds_toArray, List.set_cons_zero, List.set_cons_succ]
      refine wpAnyH_take (i := 2) (v := ?_) (by simp only [List.getElem?_toArray, List.getElem?_cons_succ, List.getElem?_cons_zero]; rfl) (by kernel_rfl) (by kernel_rfl) (by kernel_rfl) (by exact fun _ _ _ h => h) (Or.inl ⟨by rfl, ?_⟩) hH ?_
      rotate_left
      · (intro wS hS; clear hS; go_simp; try rfl)
      try simp only [Act.put, List.setIfInBounds_toArray, List.set_cons_zero, List.set_cons_succ]
      refine wpAnyH_take (i := 3) (v := ?_) (by simp only [List.getElem?_toArray, List.getElem?_cons_succ, List.getElem?_cons_zero]; rfl) (by kernel_rfl) (by kernel_rfl) (by kernel_rfl) (by exact fun _ _ _ h => h) (Or.inl ⟨by rfl, ?_⟩) hH ?_
      rotate_left
      · (intro wS hS; clear hS; go_simp; try rfl)
      try simp only [Act.put, List.setIfInBounds_toArray, List.set_cons_zero, List.set_cons_succ]
      refine wpAnyH_take (i := 4) (v := ?_) (by simp only [List.getElem?_toArray, List.getElem?_cons_succ, List.getElem?_cons_zero]; rfl) (by kernel_rfl) (by kernel_rfl) (by kernel_rfl) (by exact fun _ _ _ h => h) (Or.inl ⟨by rfl, ?_⟩) hH ?_
      rotate_left
      · (intro wS hS; (try dsimp only at hS); obtain ⟨k0, k1, k2⟩ := hS; go_simp; try rfl)
      try simp only [Act.put, List.setIfInBounds_toArray, List.set_cons_zero, List.set_cons_succ]
      refine wpAnyH_take (i := 5) (v := ?_) (by simp only [List.getElem?_toArray, List.getElem?_cons_succ, List.getElem?_cons_zero]; rfl) (by kernel_rfl) (by kernel_rfl) (by kernel_rfl) (by exact fun _ _ _ h => h) (Or.inl ⟨by rfl, ?_⟩) hH ?_
      rotate_left
      · (intro wS hS; clear hS; go_simp; try rfl)
      try simp only [Act.put, List.setIfInBounds_toArray, List.set_cons_zero, List.set_cons_succ]
      refine wpAnyH_take (i := 6) (v := ?_) (by simp only [List.getElem?_toArray, List.getElem?_cons_succ, List.getElem?_cons_zero]; rfl) (by kernel_rfl) (by kernel_rfl) (by kernel_rfl) (by exact fun _ _ _ h => h) (Or.inl ⟨by rfl, ?_⟩) hH ?_
      rotate_left
      · (intro wS hS; clear hS; go_simp; try rfl)
      try simp only [Act.put, List.setIfInBounds_toArray, List.set_cons_zero, List.set_cons_succ]
      refine wpAnyH_take (i := 7) (v := ?_) (by simp only [List.getElem?_toArray, List.getElem?_cons_succ, List.getElem?_cons_zero]; rfl) (by kernel_rfl) (by kernel_rfl) (by kernel_rfl) (by exact fun _ _ _ h => h) (Or.inl ⟨by rfl, ?_⟩) hH ?_
      rotate_left
      · (intro wS hS; (try dsimp only at hS); obtain ⟨k0, k1, k2⟩ := hS; go_simp; try rfl)
      try simp only [Act.put, List.setIfInBounds_toArray, List.set_cons_zero, List.set_cons_succ]
      refine wpAnyH_take (i := 8) (v := ?_) (by simp only [List.getElem?_toArray, List.getElem?_cons_succ, List.getElem?_cons_zero]; rfl) (by kernel_rfl) (by kernel_rfl) (by kernel_rfl) (by exact fun _ _ _ h => h) (Or.inl ⟨by rfl, ?_⟩) hH ?_
      rotate_left
      · (intro wS hS; clear hS; go_simp; try rfl)
      try simp only [Act.put, List.setIfInBounds_toArray, List.set_cons_zero, List.set_cons_succ]
      refine wpAnyH_take (i := 9) (v := ?_) (by simp only [List.getElem?_toArray, List.getElem?_cons_succ, List.getElem?_cons_zero]; rfl) (by kernel_rfl) (by kernel_rfl) (by kernel_rfl) (by exact fun _ _ _ h => h) (Or.inl ⟨by rfl, ?_⟩) hH ?_
      rotate_left
      · (intro wS hS; (try dsimp only at hS); obtain ⟨k0, k1, k2⟩ := hS; go_simp; try rfl)
      try simp only [Act.put, List.setIfInBounds_toArray, List.set_cons_zero, List.set_cons_succ]
      refine wpAnyH_take (i := 11) (v := ?_) (by simp only [List.getElem?_toArray, List.getElem?_cons_succ, List.getElem?_cons_zero]; rfl) (by kernel_rfl) (by kernel_rfl) (by kernel_rfl) (by exact fun _ _ _ h => h) (Or.inl ⟨by rfl, ?_⟩) hH ?_
      rotate_left
      · (intro wS hS; clear hS; go_simp; try rfl)
      try simp only [Act.put, List.setIfInBounds_toArray, List.set_cons_zero, List.set_cons_succ]
      refine wpAnyH_take (i := 12) (v := ?_) (by simp only [List.getElem?_toArray, List.getElem?_cons_succ, List.getElem?_cons_zero]; rfl) (by kernel_rfl) (by kernel_rfl) (by kernel_rfl) (by exact fun _ _ _ h => h) (Or.inl ⟨by rfl, ?_⟩) hH ?_
      rotate_left
      · (intro wS hS; (try dsimp only at hS); obtain ⟨k0, k1, k2⟩ := hS; go_simp; try rfl)
      try simp only [Act.put, List.setIfInBounds_toArray, List.set_cons_zero, List.set_cons_succ]
      refine wpAnyH_take (i := 13) (v := ?_) (by simp only [List.getElem?_toArray, List.getElem?_cons_succ, List.getElem?_cons_zero]; rfl) (by kernel_rfl) (by kernel_rfl) (by kernel_rfl) (by exact fun _ _ _ h => h) (Or.inl ⟨by rfl, ?_⟩) hH ?_
      rotate_left
      · (intro wS hS; clear hS; go_simp; try rfl)
      try simp only [Act.put, List.setIfInBounds_toArray, List.set_cons_zero, List.set_cons_succ]
      refine wpAnyH_take (i := 14) (v := ?_) (by simp only [List.getElem?_toArray, List.getElem?_cons_succ, List.getElem?_cons_zero]; rfl) (by kernel_rfl) (by kernel_rfl) (by kernel_rfl) (by exact fun _ _ _ h => h) (Or.inl ⟨by rfl, ?_⟩) hH ?_
      rotate_left
      · (intro wS hS; (try dsimp only at hS); obtain ⟨k0, k1, k2⟩ := hS; go_simp; try rfl)
      try simp only [Act.put, List.setIfInBounds_toArray, List.set_cons_zero, List.set_cons_succ]
      refine wpAnyH_ready (rs := [10, 15]) (by kernel_rfl) (by simp) ?_
      refine AllReadyH.cons (by simp only [List.getElem?_toArray, List.getElem?_cons_succ, List.getElem?_cons_zero]; rfl) (fun KK hKK => ?_) (AllReadyH.cons (by simp only [List.getElem?_toArray, List.getElem?_cons_succ, List.getElem?_cons_zero]; rfl) (fun KK hKK => ?_) AllReadyH.nil)
      · go_simp
        try dsimp only
        refine hKK.out _ _ ?_ (fun hH2 => ?_)
        · exact hH
        clear hKK KK
        have hO := hH
        clear hH
        have hH := hH2
        clear hH2
        try simp only [Act.put, List.setIfInBounds_toArray, List.set_cons_zero, List.set_cons_succ]
        refine wpAnyH_ready (rs := [15]) (by kernel_rfl) (by simp) ?_
        refine AllReadyH.cons (by simp only [List.getElem?_toArray, List.getElem?_cons_succ, List.getElem?_cons_zero]; rfl) (fun KK hKK => ?_) AllReadyH.nil
        go_simp
        try dsimp only
        refine hKK.out _ _ ?_ (fun hH2 => ?_)
        · exact hH
        clear hKK KK
        have hO := hH
        clear hH
        have hH := hH2
        clear hH2
        try simp only [Act.put, List.setIfInBounds_toArray, List.set_cons_zero, List.set_cons_succ]
        refine wpAnyH_take (i := 16) (v := ?_) (by simp only [List.getElem?_toArray, List.getElem?_cons_succ, List.getElem?_cons_zero]; rfl) (by kernel_rfl) (by kernel_rfl) (by kernel_rfl) (by exact fun _ _ _ h => h) (Or.inl ⟨by rfl, ?_⟩) hH ?_
        rotate_left
        · (intro wS hS; (try dsimp only at hS); obtain ⟨k0, k1, k2⟩ := hS; go_simp; try rfl)
        try simp only [Act.put, List.setIfInBounds_toArray, List.set_cons_zero, List.set_cons_succ]
        refine wpAnyH_ready (rs := [17]) (by kernel_rfl) (by simp) ?_
        refine AllReadyH.cons (by simp only [List.getElem?_toArray, List.getElem?_cons_succ, List.getElem?_cons_zero]; rfl) (fun KK hKK => ?_) AllReadyH.nil
        go_simp
        try dsimp only
        refine hKK.out _ _ ?_ (fun hH2 => ?_)
        · exact keepC hH ng _ _
        clear hKK KK
        have hO := hH
        clear hH
        have hH := hH2
        clear hH2
        try simp only [Act.put, List.setIfInBounds_toArray, List.set_cons_zero, List.set_cons_succ]
        refine wpAnyH_take (i := 18) (v := ?_) (by simp only [List.getElem?_toArray, List.getElem?_cons_succ, List.getElem?_cons_zero]; rfl) (by kernel_rfl) (by kernel_rfl) (by kernel_rfl) (by exact fun _ _ _ h => h) (Or.inl ⟨by rfl, ?_⟩) hH ?_
        rotate_left
        · (intro wS hS; (try dsimp only at hS); obtain ⟨k0, k1, k2⟩ := hS; go_simp; try rfl)
        try simp only [Act.put, List.setIfInBounds_toArray, List.set_cons_zero, List.set_cons_succ]
        refine wpAnyH_ready (rs := [19]) (by kernel_rfl) (by simp) ?_
        refine AllReadyH.cons (by simp only [List.getElem?_toArray, List.getElem?_cons_succ, List.getElem?_cons_zero]; rfl) (fun KK hKK => ?_) AllReadyH.nil
        go_simp
        try dsimp only
        refine hKK.out _ _ ?_ (fun hH2 => ?_)
        · exact keepC hH ng _ _
        clear hKK KK
        have hO := hH
        clear hH
        have hH := hH2
        clear hH2
        try simp only [Act.put, List.setIfInBounds_toArray, List.set_cons_zero, List.set_cons_succ]
        refine wpAnyH_done (by kernel_rfl) ?_ _
        go_wp2_with fail
        go_roundw
        case rel => exact ⟨q + 1, by go_num, by omega, by rw [← S0.out]; exact IS2.out, grown_set_one (a := ⟨g, C, none⟩) (grown_set_one (a := ⟨g, A, none⟩) G.out rfl _) rfl _⟩
        case measure => simp [intOf]; omega
      · go_simp
        try dsimp only
        refine hKK.out _ _ ?_ (fun hH2 => ?_)
        · exact hH
        clear hKK KK
        have hO := hH
        clear hH
        have hH := hH2
        clear hH2
        try simp only [Act.put, List.setIfInBounds_toArray, List.set_cons_zero, List.set_cons_succ]
        refine wpAnyH_ready (rs := [10]) (by kernel_rfl) (by simp) ?_
        refine AllReadyH.cons (by simp only [List.getElem?_toArray, List.getElem?_cons_succ, List.getElem?_cons_zero]; rfl) (fun KK hKK => ?_) AllReadyH.nil
        go_simp
        try dsimp only
        refine hKK.out _ _ ?_ (fun hH2 => ?_)
        · exact hH
        clear hKK KK
        have hO := hH
        clear hH
        have hH := hH2
        clear hH2
        try simp only [Act.put, List.setIfInBounds_toArray, List.set_cons_zero, List.set_cons_succ]
        refine wpAnyH_take (i := 16) (v := ?_) (by simp only [List.getElem?_toArray, List.getElem?_cons_succ, List.getElem?_cons_zero]; rfl) (by kernel_rfl) (by kernel_rfl) (by kernel_rfl) (by exact fun _ _ _ h => h) (Or.inl ⟨by rfl, ?_⟩) hH ?_
        rotate_left
        · (intro wS hS; (try dsimp only at hS); obtain ⟨k0, k1, k2⟩ := hS; go_simp; try rfl)
        try simp only [Act.put, List.setIfInBounds_toArray, List.set_cons_zero, List.set_cons_succ]
        refine wpAnyH_ready (rs := [17]) (by kernel_rfl) (by simp) ?_
        refine AllReadyH.cons (by simp only [List.getElem?_toArray, List.getElem?_cons_succ, List.getElem?_cons_zero]; rfl) (fun KK hKK => ?_) AllReadyH.nil
        go_simp
        try dsimp only
        refine hKK.out _ _ ?_ (fun hH2 => ?_)
        · exact keepC hH ng _ _
        clear hKK KK
        have hO := hH
        clear hH
        have hH := hH2
        clear hH2
        try simp only [Act.put, List.setIfInBounds_toArray, List.set_cons_zero, List.set_cons_succ]
        refine wpAnyH_take (i := 18) (v := ?_) (by simp only [List.getElem?_toArray, List.getElem?_cons_succ, List.getElem?_cons_zero]; rfl) (by kernel_rfl) (by kernel_rfl) (by kernel_rfl) (by exact fun _ _ _ h => h) (Or.inl ⟨by rfl, ?_⟩) hH ?_
        rotate_left
        · (intro wS hS; (try dsimp only at hS); obtain ⟨k0, k1, k2⟩ := hS; go_simp; try rfl)
        try simp only [Act.put, List.setIfInBounds_toArray, List.set_cons_zero, List.set_cons_succ]
        refine wpAnyH_ready (rs := [19]) (by kernel_rfl) (by simp) ?_
        refine AllReadyH.cons (by simp only [List.getElem?_toArray, List.getElem?_cons_succ, List.getElem?_cons_zero]; rfl) (fun KK hKK => ?_) AllReadyH.nil
        go_simp
        try dsimp only
        refine hKK.out _ _ ?_ (fun hH2 => ?_)
        · exact keepC hH ng _ _
        clear hKK KK
        have hO := hH
        clear hH
        have hH := hH2
        clear hH2
        try simp only [Act.put, List.setIfInBounds_toArray, List.set_cons_zero, List.set_cons_succ]
        refine wpAnyH_done (by kernel_rfl) ?_ _
        go_wp2_with fail
        go_roundw
        case rel => exact ⟨q + 1, by go_num, by omega, by rw [← S0.out]; exact IS2.out, grown_set_one (a := ⟨g, C, none⟩) (grown_set_one (a := ⟨g, A, none⟩) G.out rfl _) rfl _⟩
        case measure => simp [intOf]; omega
    · obtain rfl : c = q := by omega
      clear hlt
      go_wp2_with fail
      go_end0
      exact ⟨rfl, by rw [← SE.out]; exact I.out, GW.out.trans G.out⟩
end Go.Proofs.Ytncplikadacjnaa
end
