/-
  Chapter 7, in the model: the elimination.
-/
import Derived.Test.YtpknondccajinaaPrimS
import Derived.Test.YtpknondccajinaaAppI
import Derived.Test.YtpknondccajinaaRow2n
import Derived.Test.YtpknondccajinaaEchLaw
import Derived.StillTailTactics
namespace Go.Proofs.Ytpknondccajinaa
set_option maxRecDepth 100000
open Go.RowKit

def pvI (pv : List Nat) : List Int := pv.map fun (k : Nat) => (k : Int)
/-- The worlds of the walk: the copy, the result's block, the pivots. -/
structure EcSt (w : World) (B b rb r c g N cap : Nat) (ys : List Int) (v : Value) (pv : List Nat) (wr : World) : Prop where
  blk : Blk3 wr b 26 (.int .i64 r) (.int .i64 c) (.slice (some ⟨g, 0, none⟩) N cap)
  ret : Blk3 wr rb 26 (.int .i64 0) (.int .i64 0) (.slice none 0 0)
  ints : Ints wr g ys
  own : OwnQ B wr v (pvI pv)
  bel : Below w.heap.size w wr
  le : B ≤ wr.heap.size
theorem EcSt.one {w : World} {B b rb r c g N cap : Nat} {ys ys' : List Int} {v : Value} {pv : List Nat} {wr w' : World} (h : EcSt w B b rb r c g N cap ys v pv wr) (hi : Ints w' g ys') (hg : wr.grownBy w' (some g)) (hb : b ≠ g) (hr : rb ≠ g) (hB : g < B) (hw : w.heap.size ≤ g) : EcSt w B b rb r c g N cap ys' v pv w' :=
  ⟨h.blk.keepOne hg hb, h.ret.keepOne hg hr, hi, h.own.one hg hB, h.bel.trans (below_of_one hg hw h.bel.size), Nat.le_trans h.le hg.size⟩
theorem EcSt.put {w : World} {B b rb r c g N cap : Nat} {ys : List Int} {v : Value} {pv : List Nat} {wr : World} (h : EcSt w B b rb r c g N cap ys v pv wr) (hb : b ≠ g) (hr : rb ≠ g) (hB : g < B) (hw : w.heap.size ≤ g) (P : Nat) (z : Int) : EcSt w B b rb r c g N cap (ys.set P z) v pv (wr.setCell ⟨g, P, none⟩ (.int .i64 z)) :=
  h.one (h.ints.set P z) (grown_set_one (World.grownBy.refl _ _) rfl _) hb hr hB hw
theorem EcSt.drewN {w : World} {B b rb r c g N cap : Nat} {ys : List Int} {v : Value} {pv : List Nat} {wr : World} (h : EcSt w B b rb r c g N cap ys v pv wr) (n : Nat) : EcSt w B b rb r c g N cap ys v pv (wr.drewN n) :=
  ⟨h.blk.drewN n, h.ret.drewN n, h.ints.drewN n, h.own.drewN n, below_drewN h.bel n, h.le⟩
theorem prL_self {r c i : Nat} {xs : List Int} (hx : xs.length = r * c) (h : i < r → Norm c (mxC c xs i)) : prL r c i xs = xs := by
  rw [prL_row]
  exact rowL_self hx fun hi q hq => prV_id (h hi) hq
theorem EcSt.drew {w : World} {B b rb r c g N cap : Nat} {ys : List Int} {v : Value} {pv : List Nat} {wr : World} (h : EcSt w B b rb r c g N cap ys v pv wr) : EcSt w B b rb r c g N cap ys v pv wr.drew := h.drewN 1
/-- What the elimination gives. -/
def EchP (w : World) (r c : Nat) (o : Option (List Int × List Nat)) (e : Ending) (w' : World) : Prop :=
  (∃ (va vb : Value) (ys : List Int) (pv : List Nat), o = some (ys, pv) ∧ e = .returned (.tuple #[.agg #[.int .i64 r, .int .i64 c, va], vb, .bool true]) ∧ Own w.heap.size w' va ys ∧ Own w.heap.size w' vb (pvI pv) ∧ (∀ k, va.ownBlock = some k → vb.ownBlock ≠ some k) ∧ Below w.heap.size w w')
  ∨ (∃ vb : Value, o = none ∧ e = .returned (.tuple #[.agg #[.int .i64 0, .int .i64 0, .slice none 0 0], vb, .bool false]) ∧ Own w.heap.size w' vb [] ∧ Below w.heap.size w w')
theorem OwnQ.far {B : Nat} {w : World} {v : Value} {zs : List Int} (h : OwnQ B w v zs) {a : Addr} (ha : a.block < B) (u : Value) : OwnQ B (w.setCell a u) v zs :=
  h.move fun k hk => Below.heap_setCell w a u k (by have := h.le hk; omega)
theorem pvI_length (pv : List Nat) : (pvI pv).length = pv.length := List.length_map ..
theorem EcSt.end_ {w : World} {B b rb r c g N cap : Nat} {ys : List Int} {q : Option Addr} {n qc : Nat} {pv : List Nat} {wr : World} (h : EcSt w B b rb r c g N cap ys (.slice q n qc) pv wr) (hl : ys.length = N) (hcap : N ≤ cap) (hN : N ≤ 576) (hpv : pv.length ≤ 24) (hgB : g < B) (hw : w.heap.size ≤ g) (hrw : w.heap.size ≤ rb) (hrg : rb ≠ g) (hrB : rb < B) (x y z : Value) :
    EchP w r c (some (ys, pv)) (.returned (.tuple #[.agg #[.int .i64 r, .int .i64 c, .slice (some ⟨g, 0, none⟩) N cap], .slice q n qc, .bool true])) (((wr.setCell ⟨rb, 0, none⟩ x).setCell ⟨rb, 1, none⟩ y).setCell ⟨rb, 2, none⟩ z) := by
  refine .inl ⟨_, _, ys, pv, rfl, rfl, .inr ⟨g, cap, by rw [hl], hw, ?_, by omega, by omega⟩, ?_, fun k hk e => ?_, ?_⟩
  · exact ((h.ints.far (a := ⟨rb, 0, none⟩) hrg.symm x).far (a := ⟨rb, 1, none⟩) hrg.symm y).far (a := ⟨rb, 2, none⟩) hrg.symm z
  · exact ((((h.own.far (a := ⟨rb, 0, none⟩) hrB x).far (a := ⟨rb, 1, none⟩) hrB y).far (a := ⟨rb, 2, none⟩) hrB z).lower (by omega)).own (by rw [pvI_length]; omega)
  · simp only [Value.ownBlock, Option.some.injEq] at hk
    have := h.own.le e
    omega
  · exact ((h.bel.setCell hrw x).setCell hrw y).setCell hrw z
theorem EcSt.bad {w : World} {B b rb r c g N cap : Nat} {ys : List Int} {v : Value} {pv : List Nat} {wr : World} (h : EcSt w B b rb r c g N cap ys v pv wr) (hw : w.heap.size ≤ B) (hrw : w.heap.size ≤ rb) (hrB : rb < B) (x y z : Value) :
    EchP w r c none (.returned (.tuple #[.agg #[.int .i64 0, .int .i64 0, .slice none 0 0], .slice (some ⟨wr.heap.size, 0, none⟩) 0 0, .bool false])) ((((wr.alloc (.cells #[] 3)).setCell ⟨rb, 0, none⟩ x).setCell ⟨rb, 1, none⟩ y).setCell ⟨rb, 2, none⟩ z) := by
  have hl := h.le
  have o : OwnQ B (wr.alloc (.cells #[] 3)) (.slice (some ⟨wr.heap.size, 0, none⟩) 0 0) [] := OwnQ.none_ h.le ⟨Nat.zero_le _, [], rfl, heap_alloc_new wr _⟩
  refine .inr ⟨_, rfl, rfl, ?_, ?_⟩
  · exact ((((o.far (a := ⟨rb, 0, none⟩) hrB x).far (a := ⟨rb, 1, none⟩) hrB y).far (a := ⟨rb, 2, none⟩) hrB z).lower hw).own (by simp)
  · exact (((h.bel.alloc h.bel.size _).setCell hrw x).setCell hrw y).setCell hrw z
theorem tdiv_bb {x y b : Int} (h1 : -b ≤ x) (h2 : x ≤ b) : -b ≤ x.tdiv y ∧ x.tdiv y ≤ b := by
  have h := Int.natAbs_tdiv_le_natAbs x y
  omega
theorem swC_nums {r c p t : Nat} {xs : List Int} (hx : xs.length = r * c) (hn : nums xs = true) (hp : p < r) (ht : t < r) : nums (swC p t c xs) = true := nums_true fun k hk => by
  rw [swC_length, hx] at hk
  have hc : 0 < c := by
    rcases Nat.eq_zero_or_pos c with e | e
    · subst e; omega
    · exact e
  have e : k = k / c * c + k % c := by rw [Nat.mul_comm]; exact (Nat.div_add_mod k c).symm
  have h1 : k / c < r := Nat.div_lt_of_lt_mul (by rw [Nat.mul_comm]; exact hk)
  have := swC_at (p := p) (t := t) hx h1 (Nat.mod_lt k hc)
  unfold mxC at this
  rw [e, this]
  refine mx_nums hx hn ?_ (Nat.mod_lt k hc)
  split
  · exact ht
  · split <;> omega
theorem EcSt.app {w : World} {B b rb r c g N cap : Nat} {ys : List Int} {v v' : Value} {pv pv' : List Nat} {wr w' : World} (h : EcSt w B b rb r c g N cap ys v pv wr) {o : Obj} (hg : (wr.alloc o).grownBy w' v.ownBlock) (ho : OwnQ B w' v' (pvI pv')) (hb : b < B) (hr : rb < B) (hgB : g < B) (hw : w.heap.size ≤ B) : EcSt w B b rb r c g N cap ys v' pv' w' := by
  have keep : ∀ k, k < B → k < wr.heap.size → w'.heap[k]? = wr.heap[k]? := fun k hk hl => (hg.block k (by simp; omega) (fun e => by have := h.own.le e.symm; omega)).trans (Below.heap_alloc wr o k hl)
  have hs := hg.size
  simp at hs
  have hl := h.le
  exact ⟨(keep b hb h.blk.lt).trans h.blk, (keep rb hr h.ret.lt).trans h.ret, h.ints.move (keep g hgB h.ints.lt), ho, h.bel.trans ⟨hg.os, hg.tape, hg.output, by omega, fun k hk => keep k (by omega) (by omega)⟩, by omega⟩
set_option maxHeartbeats 4000000 in
theorem sEch (r c N : Nat) (a : Option Addr) (m : Nat) (xs : List Int) (w : World) (h : Rd w a xs) (ha : Spot a) (hx : xs.length = N) (hN : N = r * c) (hr : r ≤ 24) (hc : c ≤ 24) (nx : nums xs = true) :
    Calls Try.prog 45 #[.agg #[.int .i64 r, .int .i64 c, .slice a N m]] w (EchP w r c (echM r c xs)) := by
  have hle : r * c ≤ 24 * 24 := Nat.mul_le_mul hr hc
  rw [← hN] at hle
  have CP : Hid (∀ w', Below w.heap.size w w' → Calls Try.prog 58 #[.agg #[.int .i64 r, .int .i64 c, .slice a N m]] w' (fun e w2 => ∃ g cap : Nat, e = .returned (.agg #[.int .i64 r, .int .i64 c, .slice (some ⟨g, 0, none⟩) N cap]) ∧ w'.heap.size ≤ g ∧ IntsC w2 g cap xs ∧ Below w'.heap.size w' w2)) := fun w' hb => sCopyA r c a m N xs w' (h.below hb) ha hx (by omega)
  have IX : Hid (∀ i j, i < r → j < c → ∃ P : Nat, i * c + j = P ∧ P < N ∧ IntKind.i64.wrap ((i : Int) * (c : Int)) = (i : Int) * (c : Int) ∧ IntKind.i64.wrap ((i : Int) * (c : Int) + (j : Int)) = (P : Int)) := fun i j hi hj => by
    have h1 : i * c + j < r * c := idx_lt hi hj
    have c1 : (i : Int) * (c : Int) = ((i * c : Nat) : Int) := (Int.natCast_mul _ _).symm
    refine ⟨i * c + j, rfl, by omega, IntWalk.i64_in _ (by rw [c1]; omega), ?_⟩
    rw [show (i : Int) * (c : Int) + (j : Int) = ((i * c + j : Nat) : Int) by rw [c1]; omega]
    exact IntWalk.i64_in _ (by omega)
  have HR : Hid (echC r c c 0 (prTo r c r xs) [] = echM r c xs) := rfl
  have PR : Hid (∀ ys pv, echM r c xs = some (ys, pv) → (∀ i, i < r → prL r c i ys = ys) ∧ pv.length ≤ r ∧ ys.length = N ∧ nums ys = true) := fun ys pv he => by
    obtain ⟨h1, -, -, h4, h5, h6⟩ := echM_says (by rw [hx, hN]) nx he
    exact ⟨fun i hi => prL_self h4 fun hi => h6 i hi, h1.le, by rw [h4, hN], h5⟩
  generalize echM r c xs = RES at HR PR ⊢
  have HN := Lib.hid hN
  have HX := Lib.hid hx
  have NX := Lib.hid nx
  clear hN hx nx h ha
  go_enter Try.func45, Try.ntmps45
  go_upto_region 1 with fail
  have K0 : Hid (Blk3 ((w.alloc (.cells #[.int .i64 r, .int .i64 c, .slice a N m] 26)).alloc (.cells #[.int .i64 0, .int .i64 0, .slice none 0 0] 26)) w.heap.size 26 (.int .i64 r) (.int .i64 c) (.slice a N m)) := (Blk3.at_ _ _ _ _ rfl).old _
  have R0 : Hid (Blk3 ((w.alloc (.cells #[.int .i64 r, .int .i64 c, .slice a N m] 26)).alloc (.cells #[.int .i64 0, .int .i64 0, .slice none 0 0] 26)) (w.heap.size + 1) 26 (.int .i64 0) (.int .i64 0) (.slice none 0 0)) := Blk3.at_ _ _ _ _ (by simp)
  have B0 : Hid (Below w.heap.size w ((w.alloc (.cells #[.int .i64 r, .int .i64 c, .slice a N m] 26)).alloc (.cells #[.int .i64 0, .int .i64 0, .slice none 0 0] 26))) := ((Below.refl _ _).alloc (Nat.le_refl _) _).alloc (by simp) _
  have S0 : Hid (((w.alloc (.cells #[.int .i64 r, .int .i64 c, .slice a N m] 26)).alloc (.cells #[.int .i64 0, .int .i64 0, .slice none 0 0] 26)).heap.size = w.heap.size + 2) := by show _ = _; simp
  generalize (w.alloc (.cells #[.int .i64 r, .int .i64 c, .slice a N m] 26)).alloc (.cells #[.int .i64 0, .int .i64 0, .slice none 0 0] 26) = W0 at K0 R0 B0 S0 ⊢
  obtain ⟨p0, p1, p2, -, -, -⟩ := K0.out.all
  go_wp2_with fail
  refine (CP.out _ B0.out).mono ?_
  rintro e w1 ⟨g, cap, rfl, hg, hi, hb⟩
  have gl := hi.lt
  have hcap := hi.le
  have s0 := S0.out
  have I0 := Lib.hid (hi.ints.old (.cells #[.int .i64 r, .int .i64 c, .slice (some ⟨g, 0, none⟩) N cap] 26))
  have R1 := Lib.hid ((R0.out.step hb).old (.cells #[.int .i64 r, .int .i64 c, .slice (some ⟨g, 0, none⟩) N cap] 26))
  have K1 : Hid (Blk3 (w1.alloc (.cells #[.int .i64 r, .int .i64 c, .slice (some ⟨g, 0, none⟩) N cap] 26)) w1.heap.size 26 (.int .i64 r) (.int .i64 c) (.slice (some ⟨g, 0, none⟩) N cap)) := Blk3.at_ _ _ _ _ rfl
  have Bx := B0.out.trans (hb.mono (by omega))
  have B1 := Lib.hid (Bx.alloc Bx.size (.cells #[.int .i64 r, .int .i64 c, .slice (some ⟨g, 0, none⟩) N cap] 26))
  have S1 : Hid ((w1.alloc (.cells #[.int .i64 r, .int .i64 c, .slice (some ⟨g, 0, none⟩) N cap] 26)).heap.size = w1.heap.size + 1) := by show _ = _; simp
  rw [HX.out] at hcap
  have sb := hb.size
  clear hb hi Bx K0 R0 B0 S0 p0 p1 p2
  go_upto_region 2 with fail
  generalize w1.alloc (.cells #[.int .i64 r, .int .i64 c, .slice (some ⟨g, 0, none⟩) N cap] 26) = W at I0 R1 K1 B1 S1 ⊢
  obtain ⟨b, hbb⟩ : ∃ b, w1.heap.size = b := ⟨_, rfl⟩
  rw [hbb] at K1 S1 gl sb ⊢
  have lgb : g < b := gl
  have lrb : w.heap.size + 1 < g := by omega
  have lwg : w.heap.size < g := by omega
  have s1 := S1.out
  clear hbb S1 s0 gl sb hg
  obtain ⟨rb, hrb⟩ : ∃ rb, w.heap.size + 1 = rb := ⟨_, rfl⟩
  rw [hrb] at R1 lrb ⊢
  clear w1
  have lwr : w.heap.size < rb := by omega
  clear hrb
  go_upto_region 3 with fail
  have ST : Hid (EcSt w (b + 1) b rb r c g N cap xs (.slice (some ⟨b + 1, 0, none⟩) 0 0) [] (W.alloc (.cells #[] 3))) := ⟨K1.out.old _, R1.out.old _, I0.out.old _, OwnQ.none_ (Nat.le_refl _) ⟨Nat.zero_le _, [], rfl, by rw [← s1]; exact heap_alloc_new W _⟩, B1.out.alloc B1.out.size _, by simp; omega⟩
  generalize W.alloc (.cells #[] 3) = W2 at ST ⊢
  clear K1 R1 I0 B1 s1
  go_wp2_with fail
  go_loopw [7] (fun v7 wr => ∃ i : Nat, v7 = .int .i64 i ∧ i ≤ r ∧ EcSt w (b + 1) b rb r c g N cap (prTo r c i xs) (.slice (some ⟨b + 1, 0, none⟩) 0 0) [] wr) (fun v7 _ => r - (intOf v7).toNat)
  case atStart => exact ⟨0, rfl, by omega, by rw [prTo_zero (by rw [HX.out, HN.out])]; exact ST.out⟩
  case round =>
    clear ST
    obtain ⟨i, rfl, hi, hst⟩ := hrel
    have ST := Lib.hid hst
    clear hst
    obtain ⟨p0, p1, p2, -, -, -⟩ := ST.out.blk.all
    by_cases hlt : i < r
    · go_wp2_with fail
      refine (sPrim r c i N g cap (prTo r c i xs) _ HN.out (by rw [prTo_length, HN.out]) hr hc hlt (prTo_nums (by rw [HX.out, HN.out]) NX.out) ST.out.ints).mono ?_
      rintro e w2 ⟨rfl, hi2, hg2⟩
      have hs := ST.out.one hi2 hg2 (by omega) (by omega) (by omega) (by omega)
      rw [prTo_step hlt] at hs
      have S2 := Lib.hid hs
      clear hs hi2 hg2
      go_wp2_with fail
      go_roundw
      case rel => exact ⟨i + 1, by go_num, by omega, S2.out⟩
      case measure => simp [intOf]; omega
    · obtain rfl : r = i := by omega
      clear hlt
      have YL : Hid ((prTo r c r xs).length = N) := by show _ = _; rw [prTo_length, HN.out]
      have YN : Hid (nums (prTo r c r xs) = true) := prTo_nums (by rw [HX.out, HN.out]) NX.out
      generalize prTo r c r xs = y0 at ST HR YL YN
      go_wp2_with fail
      clear p0 p1 p2
      go_loopw [3, 4, 6, 8, 9, 10, 11, 12, 13, 14, 15, 16] (fun _ _ v6 v8 _ _ _ _ _ _ _ _ wr => ∃ (j k : Nat) (ys : List Int) (q : Option Addr) (qc : Nat) (pv : List Nat), v6 = .slice q pv.length qc ∧ v8 = .int .i64 j ∧ j + k = c ∧ ys.length = N ∧ nums ys = true ∧ pv.length ≤ r ∧ echC r c k j ys pv = RES ∧ EcSt w (b + 1) b rb r c g N cap ys (.slice q pv.length qc) pv wr) (fun _ _ _ v8 _ _ _ _ _ _ _ _ _ => c - (intOf v8).toNat)
      case atStart => exact ⟨0, c, y0, _, _, [], rfl, rfl, by omega, YL.out, YN.out, by simp, HR.out, ST.out⟩
      case round =>
        clear ST YL YN HR
        obtain ⟨j, k, ys, q, qc, pv, rfl, rfl, hjk, hl, hn, hpv, hR, hst⟩ := hrel
        have ST := Lib.hid hst
        have HL := Lib.hid hl
        have HY := Lib.hid hn
        have HR := Lib.hid hR
        clear hst hl hn hR
        obtain ⟨t, ht⟩ : ∃ t, pv.length = t := ⟨_, rfl⟩
        have PT := Lib.hid ht
        rw [ht] at ST hpv ⊢
        clear ht
        obtain ⟨p0, p1, p2, -, -, -⟩ := ST.out.blk.all
        by_cases hjc : j < c
        · by_cases htr : t < r
          · obtain ⟨k, rfl⟩ : ∃ k', k = k' + 1 := ⟨k - 1, by omega⟩
            go_wp2_with fail
            go_loopw [10] (fun v10 wq => ∃ p : Nat, v10 = .int .i64 p ∧ t ≤ p ∧ p ≤ r ∧ (∀ i, t ≤ i → i < p → mxC c ys i j = 0) ∧ wq = wr) (fun v10 _ => r - (intOf v10).toNat)
            case atStart => exact ⟨t, rfl, Nat.le_refl _, by omega, fun i h1 h2 => by omega, rfl⟩
            case round =>
              obtain ⟨p, rfl, hp1, hp2, hp0, rfl⟩ := hrel
              have P0 := Lib.hid hp0
              clear hp0
              by_cases hpr : p < r
              · obtain ⟨P, hP, hPN, u1, u2⟩ := IX.out p j hpr hjc
                have Pa : (0 : Int) ≤ (P : Int) := by omega
                have Pb : (P : Int) < (N : Int) := by omega
                have hcell := ST.out.ints.cell (i := P) (by rw [HL.out]; exact hPN)
                rw [← hP, show ys.getD (p * c + j) 0 = mxC c ys p j from rfl, hP] at hcell
                obtain ⟨x, hxx⟩ : ∃ x, mxC c ys p j = x := ⟨_, rfl⟩
                have X := Lib.hid hxx
                rw [hxx] at hcell
                clear hxx hP
                by_cases h0 : x = 0
                · have n1 : (x == 0) = true := by simp [h0]
                  have P1 : Hid (∀ i, t ≤ i → i < p + 1 → mxC c ys i j = 0) := fun i h1 h2 => by
                    rcases Nat.lt_or_ge i p with h3 | h3
                    · exact P0.out i h1 h3
                    · obtain rfl : i = p := by omega
                      rw [X.out, h0]
                  clear h0
                  go_wp2_with fail
                  go_roundw
                  case rel => exact ⟨p + 1, by go_num, by omega, by omega, P1.out, trivial⟩
                  case measure => simp [intOf]; omega
                · have n1 : (x == 0) = false := by simpa using h0
                  have FS : Hid (fstR c j ys (r - pv.length) pv.length = p) := fstR_eq (by rw [PT.out]; omega) (by rw [PT.out]; omega) (fun i h1 h2 => P0.out i (by rw [← PT.out]; exact h1) h2) (fun _ => by rw [X.out]; exact h0)
                  have ZL : Hid ((swC p t c ys).length = N) := by show _ = _; rw [swC_length, HL.out]
                  have ZN : Hid (nums (swC p t c ys) = true) := swC_nums (by rw [HL.out, HN.out]) HY.out hpr htr
                  have EN : Hid (elimR r c t j r 0 (swC p t c ys) = none → RES = none) := fun h => by
                    have h1 := HR.out
                    rw [echC_none (p := p) (by rw [PT.out]; exact htr) FS.out (by omega) (by rw [PT.out]; exact h)] at h1
                    exact h1.symm
                  have EO : Hid (∀ us, elimR r c t j r 0 (swC p t c ys) = some us → echC r c k (j + 1) us (pv ++ [j]) = RES) := fun us h => by
                    have h1 := HR.out
                    rw [echC_on (p := p) (by rw [PT.out]; exact htr) FS.out (by omega) (by rw [PT.out]; exact h)] at h1
                    exact h1
                  have SW : Hid (p ≠ t → opL 0 p t 0 c ys = swC p t c ys) := fun h => by unfold swC; rw [if_neg h]
                  have SN : Hid (p = t → ys = swC p t c ys) := fun h => by unfold swC; rw [if_pos h]
                  generalize swC p t c ys = zs at ZL ZN EN EO SW SN
                  obtain ⟨E, hE⟩ : ∃ E, elimR r c t j r 0 zs = E := ⟨_, rfl⟩
                  rw [hE] at EN EO
                  have EE := Lib.hid hE
                  clear hE h0
                  have n3 : ((p : Int) == (r : Int)) = false := by simp; omega
                  go_upto_if 71 with fail
                  go_cut [] (fun wx => EcSt w (b + 1) b rb r c g N cap zs (.slice q t qc) pv wx)
                  case first =>
                    by_cases hpt : p = t
                    · have n2 : ((p : Int) != (t : Int)) = false := by simp [hpt]
                      have hs := ST.out
                      rw [SN.out hpt] at hs
                      have S2 := Lib.hid hs
                      clear hs hpt
                      go_wp2_with fail
                      go_meet
                      exact S2.out
                    · have n2 : ((p : Int) != (t : Int)) = true := by simp; omega
                      go_wp2_with fail
                      refine (sDo r c p t g N cap 0 0 ys _ ST.out.ints HL.out HN.out hr hc hpr htr (.inl rfl) (fun _ => hpt)).mono ?_
                      rintro e w4 ⟨rfl, hi4, hg4⟩
                      have hs := ST.out.one hi4 hg4 (by omega) (by omega) (by omega) (by omega)
                      rw [SW.out hpt] at hs
                      have S2 := Lib.hid hs
                      clear hs hi4 hg4
                      go_wp2_with fail
                      go_meet
                      exact S2.out
                  case rest =>
                    clear ST
                    have ST := Lib.hid hcut
                    clear hcut hcell p0 p1 p2
                    obtain ⟨p0, p1, p2, -, -, -⟩ := ST.out.blk.all
                    go_wp2_with fail
                    clear p0 p1 p2
                    go_loopw [3, 4, 11, 12, 13, 14, 15, 16] (fun _ _ v11 _ _ _ _ _ wu => ∃ (i l : Nat) (us : List Int), v11 = .int .i64 i ∧ i + l = r ∧ us.length = N ∧ nums us = true ∧ elimR r c t j l i us = E ∧ EcSt w (b + 1) b rb r c g N cap us (.slice q t qc) pv wu) (fun _ _ v11 _ _ _ _ _ _ => r - (intOf v11).toNat)
                    case atStart => exact ⟨0, r, zs, rfl, by omega, ZL.out, ZN.out, EE.out, ST.out⟩
                    case round =>
                      clear ST
                      obtain ⟨i, l, us, rfl, hil, hul, hun, hue, hst⟩ := hrel
                      have ST := Lib.hid hst
                      have UL := Lib.hid hul
                      have UN := Lib.hid hun
                      have UE := Lib.hid hue
                      clear hst hul hun hue
                      obtain ⟨p0, p1, p2, -, -, -⟩ := ST.out.blk.all
                      by_cases hir : i < r
                      · obtain ⟨l, rfl⟩ : ∃ l', l = l' + 1 := ⟨l - 1, by omega⟩
                        obtain ⟨P, hP, hPN, u1, u2⟩ := IX.out i j hir hjc
                        have Pa : (0 : Int) ≤ (P : Int) := by omega
                        have Pb : (P : Int) < (N : Int) := by omega
                        have hcell := ST.out.ints.cell (i := P) (by rw [UL.out]; exact hPN)
                        rw [← hP, show us.getD (i * c + j) 0 = mxC c us i j from rfl, hP] at hcell
                        have hxn : NumP (mxC c us i j) := mx_nums (by rw [UL.out, HN.out]) UN.out hir hjc
                        obtain ⟨x, hxx⟩ : ∃ x, mxC c us i j = x := ⟨_, rfl⟩
                        have X := Lib.hid hxx
                        rw [hxx] at hcell hxn
                        clear hxx hP
                        by_cases hs : i = t ∨ x = 0
                        · have UE2 : Hid (elimR r c t j l (i + 1) us = E) := by
                            have h1 := UE.out
                            rw [elimR_skip (by rw [X.out]; exact hs)] at h1
                            exact h1
                          by_cases hit : i = t
                          · have n2 : ((i : Int) == (t : Int)) = true := by simp [hit]
                            clear hs hit
                            go_wp2_with fail
                            go_roundw
                            case rel => exact ⟨i + 1, l, us, by go_num, by omega, UL.out, UN.out, UE2.out, ST.out⟩
                            case measure => simp [intOf]; omega
                          · have n2 : ((i : Int) == (t : Int)) = false := by simp; omega
                            have n3 : (x == 0) = true := by simp [hs.resolve_left hit]
                            clear hs hit
                            go_wp2_with fail
                            go_roundw
                            case rel => exact ⟨i + 1, l, us, by go_num, by omega, UL.out, UN.out, UE2.out, ST.out⟩
                            case measure => simp [intOf]; omega
                        · have hit : i ≠ t := fun e => hs (.inl e)
                          have hx0 : x ≠ 0 := fun e => hs (.inr e)
                          have n2 : ((i : Int) == (t : Int)) = false := by simp; omega
                          have n3 : (x == 0) = false := by simpa using hx0
                          obtain ⟨Q, hQ, hQN, y1, y2⟩ := IX.out t j htr hjc
                          have Qa : (0 : Int) ≤ (Q : Int) := by omega
                          have Qb : (Q : Int) < (N : Int) := by omega
                          have hcell2 := ST.out.ints.cell (i := Q) (by rw [UL.out]; exact hQN)
                          rw [← hQ, show us.getD (t * c + j) 0 = mxC c us t j from rfl, hQ] at hcell2
                          have hyn : NumP (mxC c us t j) := mx_nums (by rw [UL.out, HN.out]) UN.out htr hjc
                          obtain ⟨y, hyy⟩ : ∃ y, mxC c us t j = y := ⟨_, rfl⟩
                          have Y := Lib.hid hyy
                          rw [hyy] at hcell2 hyn
                          have UB : Hid (rowN c (rdV j (mxC c us i) (mxC c us t)) ≠ true → E = none) := fun h => by
                            have h1 := UE.out
                            rw [elimR_bad (by rw [X.out]; exact hs) h] at h1
                            exact h1.symm
                          have UO : Hid (rowN c (rdV j (mxC c us i) (mxC c us t)) = true → elimR r c t j l (i + 1) (rdL r c t j i us) = E) := fun h => by
                            have h1 := UE.out
                            rw [elimR_on (by rw [X.out]; exact hs) h] at h1
                            exact h1
                          have UD : Hid (prL r c i (rowL r c i (rdV j (mxC c us i) (mxC c us t)) us) = rdL r c t j i us) := rdL_prim hir
                          have UM : Hid (rowN c (rdV j (mxC c us i) (mxC c us t)) = true → nums (rdL r c t j i us) = true) := fun h => rdL_nums (by rw [UL.out, HN.out]) UN.out h
                          have UK : Hid ((rdL r c t j i us).length = N) := by show _ = _; rw [rdL_length, HN.out]
                          clear hs hyy hQ
                          go_wp2_with fail
                          refine (sGcd x y _ hxn hyn).mono ?_
                          rintro e w5 ⟨rfl, nq, rfl⟩
                          have ST := Lib.hid (ST.out.drewN nq)
                          have hgp : 0 < x.gcd y := Int.gcd_pos_of_ne_zero_left y hx0
                          have UV : Hid (∀ h, rdV j (mxC c us i) (mxC c us t) h = y.tdiv (x.gcd y) * mxC c us i h - x.tdiv (x.gcd y) * mxC c us t h) := fun h => by rw [← X.out, ← Y.out]; rfl
                          obtain ⟨gg, hgg⟩ : ∃ gg : Int, (x.gcd y : Int) = gg := ⟨_, rfl⟩
                          rw [hgg] at UV ⊢
                          have g1 : gg ≠ 0 := by omega
                          have g2 : (gg == 0) = false := by simpa using g1
                          have b1 := tdiv_bb (y := gg) hxn.1 hxn.2
                          have b2 := tdiv_bb (y := gg) hyn.1 hyn.2
                          obtain ⟨qx, hqx⟩ : ∃ qx, x.tdiv gg = qx := ⟨_, rfl⟩
                          obtain ⟨qy, hqy⟩ : ∃ qy, y.tdiv gg = qy := ⟨_, rfl⟩
                          rw [hqx] at UV b1
                          rw [hqy] at UV b2
                          have wx : IntKind.i64.wrap qx = qx := IntWalk.i64_in _ (by omega)
                          have wy : IntKind.i64.wrap qy = qy := IntWalk.i64_in _ (by omega)
                          generalize rdV j (mxC c us i) (mxC c us t) = u at UB UO UV UD UM
                          generalize rdL r c t j i us = vs at UO UD UM UK
                          have RT : Hid (∀ k, k < c → (rowTo r c i u us k).set (i * c + k) (u k) = rowTo r c i u us (k + 1)) := fun k hk => rowTo_step hir hk
                          have RX : Hid (∀ k, k < c → (rowTo r c i u us k).getD (i * c + k) 0 = mxC c us i k) := fun k hk => rowTo_old hir hk (.inr (Nat.le_refl _))
                          have RY : Hid (∀ k, k < c → (rowTo r c i u us k).getD (t * c + k) 0 = mxC c us t k) := fun k hk => rowTo_old htr hk (.inl (fun e => hit e.symm))
                          have RL : Hid (∀ k, (rowTo r c i u us k).length = N) := fun k => by rw [rowTo_length, HN.out]
                          have NI : Hid (∀ k, k < c → NumP (mxC c us i k)) := fun k hk => mx_nums (by rw [UL.out, HN.out]) UN.out hir hk
                          have NT : Hid (∀ k, k < c → NumP (mxC c us t k)) := fun k hk => mx_nums (by rw [UL.out, HN.out]) UN.out htr hk
                          rw [← rowTo_zero (r := r) (c := c) (i := i) (v := u) (xs := us) (by rw [UL.out, HN.out])] at ST
                          clear p0 p1 p2 hcell hcell2 hgp
                          generalize wr.drewN nq = wz at ST ⊢
                          obtain ⟨p0, p1, p2, -, -, -⟩ := ST.out.blk.all
                          go_wp2_with fail
                          clear p0 p1 p2
                          go_loopw [3, 4, 15, 16] (fun _ _ v15 _ wv => ∃ h : Nat, v15 = .int .i64 h ∧ h ≤ c ∧ (∀ k, k < h → NumP (u k)) ∧ EcSt w (b + 1) b rb r c g N cap (rowTo r c i u us h) (.slice q t qc) pv wv) (fun _ _ v15 _ _ => c - (intOf v15).toNat)
                          case atStart => exact ⟨0, rfl, by omega, fun k hk => by omega, by first | exact ST.out | (have h := ST.out; rw [rowTo_zero (by rw [rowTo_length])] at h; exact h)⟩
                          case round =>
                            clear ST
                            obtain ⟨h, rfl, hh, hhn, hst⟩ := hrel
                            have ST := Lib.hid hst
                            have HH := Lib.hid hhn
                            clear hst hhn
                            obtain ⟨p0, p1, p2, -, -, -⟩ := ST.out.blk.all
                            by_cases hhc : h < c
                            · obtain ⟨P, hP, hPN, u1, u2⟩ := IX.out i h hir hhc
                              have Pa : (0 : Int) ≤ (P : Int) := by omega
                              have Pb : (P : Int) < (N : Int) := by omega
                              have hcell := ST.out.ints.cell (i := P) (by rw [RL.out]; exact hPN)
                              have hfr := ST.out.ints.free P
                              rw [← hP, RX.out h hhc, hP] at hcell
                              obtain ⟨Q, hQ, hQN, y1, y2⟩ := IX.out t h htr hhc
                              have Qa : (0 : Int) ≤ (Q : Int) := by omega
                              have Qb : (Q : Int) < (N : Int) := by omega
                              have hcell2 := ST.out.ints.cell (i := Q) (by rw [RL.out]; exact hQN)
                              rw [← hQ, RY.out h hhc, hQ] at hcell2
                              have na := NI.out h hhc
                              have nb := NT.out h hhc
                              have uv := UV.out h
                              have RS := Lib.hid (RT.out h hhc)
                              rw [hP] at RS
                              generalize mxC c us i h = ea at hcell na uv
                              generalize mxC c us t h = eb at hcell2 nb uv
                              have m1 := mul_num qy ea b2 na
                              have m2 := mul_num qx eb b1 nb
                              have v1 : IntKind.i64.wrap (qy * ea) = qy * ea := IntWalk.i64_in _ (by omega)
                              have v2 : IntKind.i64.wrap (qx * eb) = qx * eb := IntWalk.i64_in _ (by omega)
                              have v3 : IntKind.i64.wrap (qy * ea - qx * eb) = qy * ea - qx * eb := IntWalk.i64_in _ (by omega)
                              obtain ⟨z, hz⟩ : ∃ z, u h = z := ⟨_, rfl⟩
                              have Z := Lib.hid hz
                              rw [hz] at uv RS
                              have q0 : qy * ea - qx * eb = z := uv.symm
                              rw [q0] at v3
                              clear na nb m1 m2 hz hP hQ uv
                              go_wp2_with fail
                              go_still_tail 29, (by kernel_rfl)
                              go_wp2_with fail
                              refine (sFit z _).mono ?_
                              rintro e w6 ⟨rfl, rfl⟩
                              have S3 := Lib.hid ST.out.drew
                              clear ST p0 p1 p2 hcell hcell2 hfr
                              generalize wr.drew = wy at S3 ⊢
                              obtain ⟨p0, p1, p2, -, -, -⟩ := S3.out.blk.all
                              have hold := S3.out.ints.cell (i := P) (by rw [RL.out]; exact hPN)
                              have hfr := S3.out.ints.free P
                              by_cases hz : NumP z
                              · have n4 : (z == -4611686018427387904) = false := by have h := hz; unfold NumP at h; simp; omega
                                rw [show fitB z = z from if_pos hz]
                                have HH2 : Hid (∀ k, k < h + 1 → NumP (u k)) := fun k hk => by
                                  rcases Nat.lt_or_ge k h with h3 | h3
                                  · exact HH.out k h3
                                  · obtain rfl : k = h := by omega
                                    rw [Z.out]; exact hz
                                clear hz
                                go_wp2_with fail
                                go_roundw
                                case rel => exact ⟨h + 1, by go_num, by omega, HH2.out, by rw [← RS.out]; exact S3.out.put (by omega) (by omega) (by omega) (by omega) P z⟩
                                case measure => simp [intOf]; omega
                              · have RZ : Hid (RES = none) := EN.out (UB.out fun h1 => hz (by rw [← Z.out]; exact rowN_iff.mp h1 h hhc))
                                rw [show fitB z = -4611686018427387904 from if_neg hz]
                                clear hz hold hfr p0 p1 p2
                                obtain ⟨r0, r1, r2, f0, f1, f2⟩ := S3.out.ret.all
                                obtain ⟨e0, e1, e2, l0, l1, l2⟩ := (S3.out.ret.old (.cells #[] 3)).all
                                go_wp2_with fail
                                obtain ⟨E0, E1, E2, -, -, -⟩ := ((((S3.out.ret.old (.cells #[] 3)).set0 (.int .i64 0)).set1 (.int .i64 0)).set2 (.slice none 0 0)).all
                                exact bodyPost_ret (v := .tuple #[.agg #[.int .i64 0, .int .i64 0, .slice none 0 0], .slice (some ⟨wy.heap.size, 0, none⟩) 0 0, .bool false]) (by simp [results, Try.results45, go_sem, E0, E1, E2]) rfl (by rw [RZ.out]; exact S3.out.bad (by omega) (by omega) (by omega) _ _ _)
                            · obtain rfl : c = h := by omega
                              clear hhc
                              have RW : Hid (rowN c u = true) := rowN_iff.mpr HH.out
                              go_wp2_with fail
                              refine (sPrim r c i N g cap (rowTo r c i u us c) _ HN.out (RL.out c) hr hc hir (by rw [rowTo_all]; exact rowL_nums (by rw [UL.out, HN.out]) UN.out (fun q hq => HH.out q hq)) ST.out.ints).mono ?_
                              rintro e w7 ⟨rfl, hi7, hg7⟩
                              have hs := ST.out.one hi7 hg7 (by omega) (by omega) (by omega) (by omega)
                              rw [rowTo_all, UD.out] at hs
                              have S7 := Lib.hid hs
                              clear hs hi7 hg7
                              go_wp2_with fail
                              go_roundw
                              case rel => exact ⟨i + 1, l, vs, by go_num, by omega, UK.out, UM.out RW.out, UO.out RW.out, S7.out⟩
                              case measure => simp [intOf]; omega
                      · obtain rfl : l = 0 := by omega
                        have UF : Hid (echC r c k (j + 1) us (pv ++ [j]) = RES) := EO.out us UE.out.symm
                        obtain ⟨fi, hfi, hz0, hz1, hz2⟩ := facts_int
                        have HO : Hid ((wr.alloc (.cells #[.int .i64 j] 3)).ownsRow (b + 1) 3 1 (.slice q t qc) t ((pvI pv).map (Value.int .i64))) := by
                          have h1 := ST.out.own.keep ((Below.refl _ _).alloc (Nat.le_refl _) (.cells #[.int .i64 j] 3))
                          unfold OwnQ at h1
                          rw [pvI_length, PT.out] at h1
                          exact h1
                        have le := ST.out.le
                        go_wp2_with (at_builtin; refine wpList_append_own_at _ rfl _ _ 24 rfl (b + 1) 3 fi (.int .i64 0) 1 8 underlying_ints hfi hz0 hz1 hz2 rfl (by decide) _ _ _ rfl HO.out ⟨wr.heap.size, 0, none⟩ 1 1 [.int .i64 j] ?hx ?hl ?hnews ?h1 ?h63 ?hbytes ?hbase ?hnext)
                        case hx => rfl
                        case hl => rfl
                        case hnews => exact cell_one_new _ _ _
                        case h1 => intro v hv; simp at hv; subst hv; rfl
                        case h63 => unfold maxLen; omega
                        case hbytes => omega
                        case hbase => simp; omega
                        case hnext =>
                          rintro v' w7 ho hg7 - -
                          have O7 : OwnQ (b + 1) w7 v' (pvI (pv ++ [j])) := by
                            unfold OwnQ pvI
                            rw [List.map_append, List.length_append, List.map_append, List.length_map, PT.out]
                            exact ho
                          have hs := ST.out.app hg7 O7 (by omega) (by omega) (by omega) (by omega)
                          obtain ⟨q', qc', rfl⟩ := O7.form
                          rw [pvI_length] at hs ⊢
                          have S7 := Lib.hid hs
                          clear hs O7 ho hg7
                          go_wp2_with fail
                          go_roundw
                          case rel => exact ⟨j + 1, k, us, q', qc', pv ++ [j], rfl, by go_num, by omega, UL.out, UN.out, by rw [List.length_append, PT.out]; simp; omega, UF.out, S7.out⟩
                          case measure => simp [intOf]; omega
              · have hpe : p = r := by omega
                have FS : Hid (fstR c j ys (r - pv.length) pv.length = r) := fstR_eq (by rw [PT.out]; omega) (by rw [PT.out]; omega) (fun i h1 h2 => P0.out i (by rw [← PT.out]; exact h1) (by omega)) (fun h => by rw [PT.out] at h; omega)
                have RN : Hid (echC r c k (j + 1) ys pv = RES) := by
                  have h1 := HR.out
                  rw [echC_skip (by rw [PT.out]; exact htr) FS.out] at h1
                  exact h1
                have n1 : decide ((p : Int) < (r : Int)) = false := by simpa using hpr
                have n2 : ((p : Int) == (r : Int)) = true := by simp [hpe]
                clear hpe
                go_wp2_with fail
                go_roundw
                case rel => exact ⟨j + 1, k, ys, q, qc, pv, by rw [PT.out], by go_num, by omega, HL.out, HY.out, by rw [PT.out]; exact hpv, RN.out, by rw [PT.out]; exact ST.out⟩
                case measure => simp [intOf]; omega
          · have RF : Hid (some (ys, pv) = RES) := by
              have h1 := HR.out
              rw [echC_end (by rw [PT.out]; exact htr)] at h1
              exact h1
            obtain ⟨NR, -, -, -⟩ := PR.out ys pv RF.out.symm
            have NR := Lib.hid NR
            go_wp2_with fail
            clear p0 p1 p2
            go_loopw [17] (fun v17 wf => ∃ i : Nat, v17 = .int .i64 i ∧ i ≤ t ∧ EcSt w (b + 1) b rb r c g N cap ys (.slice q t qc) pv wf) (fun v17 _ => t - (intOf v17).toNat)
            case atStart => exact ⟨0, rfl, by omega, ST.out⟩
            case round =>
              clear ST
              obtain ⟨i, rfl, hi, hst⟩ := hrel
              have ST := Lib.hid hst
              clear hst
              obtain ⟨p0, p1, p2, f0, f1, f2⟩ := ST.out.blk.all
              by_cases hlt : i < t
              · go_wp2_with fail
                refine (sPrim r c i N g cap ys _ HN.out HL.out hr hc (by omega) HY.out ST.out.ints).mono ?_
                rintro e w2 ⟨rfl, hi2, hg2⟩
                have hs := ST.out.one hi2 hg2 (by omega) (by omega) (by omega) (by omega)
                rw [NR.out i (by omega)] at hs
                have S2 := Lib.hid hs
                clear hs hi2 hg2
                go_wp2_with fail
                go_roundw
                case rel => exact ⟨i + 1, by go_num, by omega, S2.out⟩
                case measure => simp [intOf]; omega
              · have hlt := hlt
                obtain ⟨r0, r1, r2, h0, h1, h2⟩ := ST.out.ret.all
                go_wp2_with fail
                obtain ⟨E0, E1, E2, -, -, -⟩ := (((ST.out.ret.set0 (.int .i64 r)).set1 (.int .i64 c)).set2 (.slice (some ⟨g, 0, none⟩) N cap)).all
                exact bodyPost_ret (v := .tuple #[.agg #[.int .i64 r, .int .i64 c, .slice (some ⟨g, 0, none⟩) N cap], .slice q t qc, .bool true]) (by simp [results, Try.results45, go_sem, E0, E1, E2]) rfl (by rw [← RF.out]; exact ST.out.end_ HL.out hcap (by omega) (by rw [PT.out]; omega) (by omega) (by omega) (by omega) (by omega) (by omega) _ _ _)
        · obtain rfl : k = 0 := by omega
          have RF : Hid (some (ys, pv) = RES) := HR.out
          obtain ⟨NR, -, -, -⟩ := PR.out ys pv RF.out.symm
          have NR := Lib.hid NR
          go_wp2_with fail
          clear p0 p1 p2
          go_loopw [17] (fun v17 wf => ∃ i : Nat, v17 = .int .i64 i ∧ i ≤ t ∧ EcSt w (b + 1) b rb r c g N cap ys (.slice q t qc) pv wf) (fun v17 _ => t - (intOf v17).toNat)
          case atStart => exact ⟨0, rfl, by omega, ST.out⟩
          case round =>
            clear ST
            obtain ⟨i, rfl, hi, hst⟩ := hrel
            have ST := Lib.hid hst
            clear hst
            obtain ⟨p0, p1, p2, f0, f1, f2⟩ := ST.out.blk.all
            by_cases hlt : i < t
            · go_wp2_with fail
              refine (sPrim r c i N g cap ys _ HN.out HL.out hr hc (by omega) HY.out ST.out.ints).mono ?_
              rintro e w2 ⟨rfl, hi2, hg2⟩
              have hs := ST.out.one hi2 hg2 (by omega) (by omega) (by omega) (by omega)
              rw [NR.out i (by omega)] at hs
              have S2 := Lib.hid hs
              clear hs hi2 hg2
              go_wp2_with fail
              go_roundw
              case rel => exact ⟨i + 1, by go_num, by omega, S2.out⟩
              case measure => simp [intOf]; omega
            · have hlt := hlt
              obtain ⟨r0, r1, r2, h0, h1, h2⟩ := ST.out.ret.all
              go_wp2_with fail
              obtain ⟨E0, E1, E2, -, -, -⟩ := (((ST.out.ret.set0 (.int .i64 r)).set1 (.int .i64 c)).set2 (.slice (some ⟨g, 0, none⟩) N cap)).all
              exact bodyPost_ret (v := .tuple #[.agg #[.int .i64 r, .int .i64 c, .slice (some ⟨g, 0, none⟩) N cap], .slice q t qc, .bool true]) (by simp [results, Try.results45, go_sem, E0, E1, E2]) rfl (by rw [← RF.out]; exact ST.out.end_ HL.out hcap (by omega) (by rw [PT.out]; omega) (by omega) (by omega) (by omega) (by omega) (by omega) _ _ _)
end Go.Proofs.Ytpknondccajinaa
