/-
  Texts of this seat, joined: ClI · EcI · ElI · RkI
-/
import Derived.StillTailTactics
import Derived.BigQuiet
import Derived.Deep.RegionHeld3
import Derived.Test.YtncplikadacjnaaPk2
import Derived.Test.YtncplikadacjnaaPk4
import Derived.Test.YtncplikadacjnaaPk5
import Derived.Test.YtncplikadacjnaaPk6

section
/-
  Chapter 7, in the program: a row without its cell in the pivot's column.
-/
namespace Go.Proofs.Ytncplikadacjnaa
set_option maxRecDepth 100000
open Go.RowKit

set_option maxHeartbeats 2000000 in
theorem iClear (r c i t j N g mi mt : Nat) (xs : List Int) (w : World) (hN : N = r * c) (hx : xs.length = N) (hr : r ≤ 24) (hc : c ≤ 24) (hir : i < r) (htr : t < r) (hit : i ≠ t) (hj : j < c) (nx : nums xs = true) (hy0 : mxC c xs t j ≠ 0) (hi : Ints w g xs) :
    Calls Try.prog 84 #[.slice (some ⟨g, i * c, none⟩) c mi, .slice (some ⟨g, t * c, none⟩) c mt, .int .i64 j] w (fun e w' => ((e = .returned (.bool true) ∧ rowN c (rdV j (mxC c xs i) (mxC c xs t)) = true ∧ Ints w' g (rowL r c i (rdV j (mxC c xs i) (mxC c xs t)) xs)) ∨ (e = .returned (.bool false) ∧ rowN c (rdV j (mxC c xs i) (mxC c xs t)) ≠ true)) ∧ w.grownBy w' (some g)) := by
  have hl : xs.length = r * c := by rw [hx, hN]
  have hle : r * c ≤ 24 * 24 := Nat.mul_le_mul hr hc
  rw [← hN] at hle
  have IL : Hid (∀ i q, i < r → q < c → i * c + q < N) := fun i q hi hq => by rw [hN]; exact idx_lt hi hq
  have NI : Hid (∀ k, k < c → NumP (mxC c xs i k)) := fun k hk => mx_nums hl nx hir hk
  have NT : Hid (∀ k, k < c → NumP (mxC c xs t k)) := fun k hk => mx_nums hl nx htr hk
  have CI : Hid (∀ k, k < c → w.cell? ⟨g, i * c + k, none⟩ = some (.int .i64 (mxC c xs i k))) := fun k hk => hi.cell (by rw [hl]; exact idx_lt hir hk)
  have CT : Hid (∀ k, k < c → w.cell? ⟨g, t * c + k, none⟩ = some (.int .i64 (mxC c xs t k))) := fun k hk => hi.cell (by rw [hl]; exact idx_lt htr hk)
  have RT : Hid (∀ k, k < c → (rowTo r c i (rdV j (mxC c xs i) (mxC c xs t)) xs k).set (i * c + k) (rdV j (mxC c xs i) (mxC c xs t) k) = rowTo r c i (rdV j (mxC c xs i) (mxC c xs t)) xs (k + 1)) := fun k hk => rowTo_step hir hk
  have RX : Hid (∀ k, k < c → (rowTo r c i (rdV j (mxC c xs i) (mxC c xs t)) xs k).getD (i * c + k) 0 = mxC c xs i k) := fun k hk => rowTo_old hir hk (.inr (Nat.le_refl _))
  have RY : Hid (∀ k, k < c → (rowTo r c i (rdV j (mxC c xs i) (mxC c xs t)) xs k).getD (t * c + k) 0 = mxC c xs t k) := fun k hk => rowTo_old htr hk (.inl (fun e => hit e.symm))
  have RL : Hid (∀ k, (rowTo r c i (rdV j (mxC c xs i) (mxC c xs t)) xs k).length = N) := fun k => by rw [rowTo_length, hN]
  have RZ : Hid (rowTo r c i (rdV j (mxC c xs i) (mxC c xs t)) xs 0 = xs) := rowTo_zero hl
  have RA : Hid (rowTo r c i (rdV j (mxC c xs i) (mxC c xs t)) xs c = rowL r c i (rdV j (mxC c xs i) (mxC c xs t)) xs) := rowTo_all
  have hxn := NI.out j hj
  have hyn := NT.out j hj
  have hcx := CI.out j hj
  have hcy := CT.out j hj
  have UV : Hid (∀ h, rdV j (mxC c xs i) (mxC c xs t) h = (mxC c xs t j).tdiv ((mxC c xs i j).gcd (mxC c xs t j)) * mxC c xs i h - (mxC c xs i j).tdiv ((mxC c xs i j).gcd (mxC c xs t j)) * mxC c xs t h) := fun _ => rfl
  have I := Lib.hid hi
  have lg := hi.lt
  generalize rdV j (mxC c xs i) (mxC c xs t) = u at RT RX RY RL RZ RA UV ⊢
  generalize mxC c xs i j = x at hxn hcx UV
  generalize mxC c xs t j = y at hyn hcy UV hy0
  obtain ⟨Di, hDi⟩ : ∃ D, i * c = D := ⟨_, rfl⟩
  obtain ⟨Dt, hDt⟩ : ∃ D, t * c = D := ⟨_, rfl⟩
  have LI : Hid (∀ q, q < c → Di + q < N) := fun q hq => by rw [← hDi]; exact IL.out i q hir hq
  have LT : Hid (∀ q, q < c → Dt + q < N) := fun q hq => by rw [← hDt]; exact IL.out t q htr hq
  rw [hDi] at CI RT RX hcx ⊢
  rw [hDt] at CT RY hcy ⊢
  have hxn' := hxn
  have hyn' := hyn
  unfold NumP at hxn' hyn'
  clear hl hx hN hDi hDt hi nx IL
  go_enter Try.func84, Try.ntmps84
  go_wp2_with fail
  go_quiet (fail)
  have I := Lib.hid (I.out.drewN nq)
  have G := Lib.hid (grown_drewN_one (World.grownBy.refl w (some g)) nq)
  generalize w.drewN nq = w2 at I G ⊢
  go_wp2_with fail
  refine (iGcd x y _ (by omega) (by omega)).mono ?_
  rintro e w3 ⟨rfl, n, rfl⟩
  have I := Lib.hid (I.out.drewN n)
  have G := Lib.hid (grown_drewN_one G.out n)
  generalize w2.drewN n = w3 at I G ⊢
  have hgp : 0 < x.gcd y := Int.gcd_pos_of_ne_zero_right x hy0
  obtain ⟨gg, hgg⟩ : ∃ gg : Int, (x.gcd y : Int) = gg := ⟨_, rfl⟩
  rw [hgg] at UV ⊢
  have g1 : gg ≠ 0 := by omega
  have g2 : (gg == 0) = false := by simpa using g1
  have b1 := tdiv_bb (y := gg) hxn.1 hxn.2
  have b2 := tdiv_bb (y := gg) hyn.1 hyn.2
  obtain ⟨qx, hqx⟩ : ∃ qx, x.tdiv gg = qx := ⟨_, rfl⟩
  obtain ⟨qy, hqy⟩ : ∃ qy, y.tdiv gg = qy := ⟨_, rfl⟩
  rw [hqx] at UV b1
  rw [hqy] at UV b2
  have wx : IntKind.i64.wrap qx = qx := IntWalk.i64_in _ (by omega)
  have wy : IntKind.i64.wrap qy = qy := IntWalk.i64_in _ (by omega)
  clear hgp hgg hcx hcy hxn hyn
  go_wp2_with fail
  go_loopw [10, 24] (fun _ v24 wr => ∃ h : Nat, v24 = .int .i64 h ∧ h ≤ c ∧ (∀ k, k < h → NumP (u k)) ∧ Ints wr g (rowTo r c i u xs h) ∧ w.grownBy wr (some g)) (fun _ v24 _ => c - (intOf v24).toNat)
  case atStart => exact ⟨0, rfl, by omega, fun k hk => by omega, by rw [RZ.out]; exact I.out, G.out⟩
  case round =>
    clear I G
    obtain ⟨h, rfl, hh, hhn, hi, hgr⟩ := hrel
    have I := Lib.hid hi
    have G := Lib.hid hgr
    have HH := Lib.hid hhn
    clear hi hgr hhn
    by_cases hlt : h < c
    · have hca := I.out.cell (i := Di + h) (by rw [RL.out]; exact LI.out h hlt)
      have hcb := I.out.cell (i := Dt + h) (by rw [RL.out]; exact LT.out h hlt)
      have hfr := I.out.free (Di + h)
      rw [RX.out h hlt] at hca
      rw [RY.out h hlt] at hcb
      have na := NI.out h hlt
      have nb := NT.out h hlt
      have uv := UV.out h
      have RS := Lib.hid (RT.out h hlt)
      generalize mxC c xs i h = ea at hca na uv
      generalize mxC c xs t h = eb at hcb nb uv
      have m1 := mul_num qy ea b2 na
      have m2 := mul_num qx eb b1 nb
      have v1 : IntKind.i64.wrap (qy * ea) = qy * ea := IntWalk.i64_in _ (by omega)
      have v2 : IntKind.i64.wrap (qx * eb) = qx * eb := IntWalk.i64_in _ (by omega)
      have v3 : IntKind.i64.wrap (qy * ea - qx * eb) = qy * ea - qx * eb := IntWalk.i64_in _ (by omega)
      obtain ⟨z, hz⟩ : ∃ z, u h = z := ⟨_, rfl⟩
      have Z := Lib.hid hz
      rw [hz] at uv RS
      have q0 : qy * ea - qx * eb = z := uv.symm
      rw [q0] at v3
      have IS := Lib.hid (I.out.set (Di + h) z)
      have GS := Lib.hid (grown_set_one (a := ⟨g, Di + h, none⟩) G.out rfl (.int .i64 z))
      clear na nb m1 m2 hz uv
      go_wp2_with fail
      go_still_tail 20, (by kernel_rfl)
      go_wp2_with fail
      refine (iIsNum z _).mono ?_
      rintro e w6 ⟨rfl, rfl⟩
      have I6 := Lib.hid IS.out.drew
      have G6 := Lib.hid (grown_drew_one GS.out)
      by_cases hzn : NumP z
      · have HH2 : Hid (∀ k, k < h + 1 → NumP (u k)) := fun k hk => by
          rcases Nat.lt_or_ge k h with h3 | h3
          · exact HH.out k h3
          · obtain rfl : k = h := by omega
            rw [Z.out]; exact hzn
        rw [decide_eq_true hzn]
        clear hzn
        go_wp2_with fail
        go_roundw
        case rel => exact ⟨h + 1, by go_num, by omega, HH2.out, by rw [← RS.out]; exact I6.out, G6.out⟩
        case measure => simp [intOf]; omega
      · have RB : Hid (rowN c u ≠ true) := fun h1 => hzn (by rw [← Z.out]; exact rowN_iff.mp h1 h hlt)
        rw [decide_eq_false hzn]
        clear hzn
        go_wp2_with fail
        go_ret
        exact ⟨.inr ⟨rfl, RB.out⟩, G6.out⟩
    · obtain rfl : c = h := by omega
      clear hlt
      have RW : Hid (rowN c u = true) := rowN_iff.mpr HH.out
      go_wp2_with fail
      go_ret
      exact ⟨.inl ⟨rfl, RW.out, by rw [← RA.out]; exact I.out⟩, G.out⟩
end Go.Proofs.Ytncplikadacjnaa
end

section
/-
  Chapter 7, in the program: the elimination.
-/
namespace Go.Proofs.Ytncplikadacjnaa
set_option maxRecDepth 100000
open Go.RowKit

theorem OwnQ.ne_blk {B b : Nat} {w : World} {v : Value} {zs : List Int} {x y z : Value} (h : OwnQ B w v zs) (k : Blk3 w b 26 x y z) : v.ownBlock ≠ some b := fun e => by
  obtain ⟨h1, ⟨h2, h3⟩ | ⟨g, cap, cur, rfl, hB, hg, rest⟩⟩ := h
  · rw [h2] at e; cases e
  · simp only [Value.ownBlock, Option.some.injEq] at e
    subst e
    unfold Blk3 at k
    rw [hg] at k
    injection k with k
    injection k with _ k2 _
    exact absurd k2 (by decide)
/-- The worlds of the walk: the copy's box, the result's block, the cells, the pivots. -/
structure EpSt (w : World) (B b rb r c N cap g : Nat) (q : Option Addr) (ys : List Int) (v : Value) (pv : List Nat) (wr : World) : Prop where
  blk : Blk3 wr b 26 (.int .i64 r) (.int .i64 c) (.slice q N cap)
  ret : Blk3 wr rb 26 (.int .i64 0) (.int .i64 0) (.slice none 0 0)
  cel : Cel wr q N cap g ys
  own : OwnQ B wr v (pvI pv)
  bel : Below w.heap.size w wr
  le : B ≤ wr.heap.size
theorem EpSt.one {w : World} {B b rb r c N cap g : Nat} {q : Option Addr} {ys ys' : List Int} {v : Value} {pv : List Nat} {wr w' : World} (h : EpSt w B b rb r c N cap g q ys v pv wr) (hi : Cel w' q N cap g ys') (hg : wr.grownBy w' (some g)) (hb : b ≠ g) (hr : rb ≠ g) (hB : g < B) (hw : w.heap.size ≤ g) : EpSt w B b rb r c N cap g q ys' v pv w' :=
  ⟨h.blk.keepOne hg hb, h.ret.keepOne hg hr, hi, h.own.one hg hB, h.bel.trans (below_of_one hg hw h.bel.size), Nat.le_trans h.le hg.size⟩
theorem EpSt.below {w : World} {B b rb r c N cap g : Nat} {q : Option Addr} {ys : List Int} {v : Value} {pv : List Nat} {wr w' : World} (h : EpSt w B b rb r c N cap g q ys v pv wr) (hb : Below wr.heap.size wr w') : EpSt w B b rb r c N cap g q ys v pv w' :=
  ⟨h.blk.step hb, h.ret.step hb, h.cel.keep hb, h.own.keep hb, h.bel.trans (hb.mono h.bel.size), Nat.le_trans h.le hb.size⟩
theorem EpSt.drewN {w : World} {B b rb r c N cap g : Nat} {q : Option Addr} {ys : List Int} {v : Value} {pv : List Nat} {wr : World} (h : EpSt w B b rb r c N cap g q ys v pv wr) (n : Nat) : EpSt w B b rb r c N cap g q ys v pv (wr.drewN n) :=
  ⟨h.blk.drewN n, h.ret.drewN n, h.cel.drewN n, h.own.drewN n, below_drewN h.bel n, h.le⟩
theorem EpSt.drew {w : World} {B b rb r c N cap g : Nat} {q : Option Addr} {ys : List Int} {v : Value} {pv : List Nat} {wr : World} (h : EpSt w B b rb r c N cap g q ys v pv wr) : EpSt w B b rb r c N cap g q ys v pv wr.drew := h.drewN 1
theorem EpSt.app {w : World} {B b rb r c N cap g : Nat} {q : Option Addr} {ys : List Int} {v v' : Value} {pv pv' : List Nat} {wr w' : World} (h : EpSt w B b rb r c N cap g q ys v pv wr) {o : Obj} (hg : (wr.alloc o).grownBy w' v.ownBlock) (ho : OwnQ B w' v' (pvI pv')) (hgB : g < B) (hw : w.heap.size ≤ B) : EpSt w B b rb r c N cap g q ys v' pv' w' := by
  have keep : ∀ k, v.ownBlock ≠ some k → k < wr.heap.size → w'.heap[k]? = wr.heap[k]? := fun k hk hl => (hg.block k (by simp; omega) (fun e => hk e.symm)).trans (Below.heap_alloc wr o k hl)
  have hs := hg.size
  simp at hs
  have hl := h.le
  exact ⟨(keep b (h.own.ne_blk h.blk) h.blk.lt).trans h.blk, (keep rb (h.own.ne_blk h.ret) h.ret.lt).trans h.ret, h.cel.move fun hl => keep g (fun e => by have := h.own.le e; omega) hl, ho, h.bel.trans ⟨hg.os, hg.tape, hg.output, by omega, fun k hk => keep k (fun e => by have := h.own.le e; omega) (by omega)⟩, by omega⟩
theorem OwnQ.far_ne {B : Nat} {w : World} {v : Value} {zs : List Int} (h : OwnQ B w v zs) {a : Addr} (ha : v.ownBlock ≠ some a.block) (u : Value) : OwnQ B (w.setCell a u) v zs :=
  h.move fun k hk => Below.heap_setCell w a u k (fun e => ha (by rw [hk, e]))
theorem EpSt.end_ {w : World} {B b rb r c N cap g : Nat} {q : Option Addr} {ys : List Int} {qv : Option Addr} {n qc : Nat} {pv : List Nat} {wr : World} (h : EpSt w B b rb r c N cap g q ys (.slice qv n qc) pv wr) (hN : N ≤ 576) (hpv : pv.length ≤ 24) (hgB : g < B) (hw : w.heap.size ≤ g) (hrw : w.heap.size ≤ rb) (hrg : rb ≠ g) (x y z : Value) :
    EchP w r c (some (ys, pv)) (.returned (.tuple #[.agg #[.int .i64 r, .int .i64 c, .slice q N cap], .slice qv n qc, .bool true])) (((wr.setCell ⟨rb, 0, none⟩ x).setCell ⟨rb, 1, none⟩ y).setCell ⟨rb, 2, none⟩ z) := by
  have hne := h.own.ne_blk h.ret
  refine .inl ⟨_, _, ys, pv, rfl, rfl, ?_, ?_, fun k hk e => ?_, ?_⟩
  · refine Cel.own (g := g) (h.cel.move fun _ => ?_) hw (by omega)
    exact ((Below.heap_setCell _ _ z g (by show g ≠ rb; omega)).trans (Below.heap_setCell _ _ y g (by show g ≠ rb; omega))).trans (Below.heap_setCell _ _ x g (by show g ≠ rb; omega))
  · exact ((((h.own.far_ne (a := ⟨rb, 0, none⟩) hne x).far_ne (a := ⟨rb, 1, none⟩) hne y).far_ne (a := ⟨rb, 2, none⟩) hne z).lower (by omega)).own (by rw [pvI_length]; omega)
  · have h1 := h.own.le e
    rcases h.cel with ⟨rfl, -⟩ | ⟨rfl, -⟩
    · cases hk
    · simp only [Value.ownBlock, Option.some.injEq] at hk
      omega
  · exact ((h.bel.setCell hrw x).setCell hrw y).setCell hrw z
theorem ep_bad {w wr : World} {rb r c : Nat} (hb : Below w.heap.size w wr) (hrw : w.heap.size ≤ rb) (x y z : Value) :
    EchP w r c none (.returned (.tuple #[.agg #[.int .i64 0, .int .i64 0, .slice none 0 0], .slice none 0 0, .bool false])) (((wr.setCell ⟨rb, 0, none⟩ x).setCell ⟨rb, 1, none⟩ y).setCell ⟨rb, 2, none⟩ z) :=
  .inr ⟨_, rfl, rfl, .inl ⟨rfl, rfl⟩, ((hb.setCell hrw x).setCell hrw y).setCell hrw z⟩
theorem cel3 {w : World} {b : Nat} {x y z : Value} (h : Blk3 w b 26 x y z) : w.cell? ⟨b, 0, none⟩ = some x ∧ w.cell? ⟨b, 1, none⟩ = some y ∧ w.cell? ⟨b, 2, none⟩ = some z := ⟨h.all.1, h.all.2.1, h.all.2.2.1⟩
end Go.Proofs.Ytncplikadacjnaa
end

section
/-
  Chapter 8, in the program: the elimination over residues.
-/
namespace Go.Proofs.Ytncplikadacjnaa
set_option maxRecDepth 100000
open Go.RowKit

/-- The worlds of the walk: the matrix's box, its cells; of the blocks that were there only that of the cells may have changed. -/
structure EmSt (w : World) (b r c N cap g : Nat) (q : Option Addr) (ys : List Int) (wr : World) : Prop where
  blk : Blk3 wr b 26 (.int .i64 r) (.int .i64 c) (.slice q N cap)
  cel : Cel wr q N cap g ys
  gro : w.grownBy wr (Value.slice q N cap).ownBlock
theorem EmSt.below {w : World} {b r c N cap g : Nat} {q : Option Addr} {ys : List Int} {wr w' : World} (h : EmSt w b r c N cap g q ys wr) (hb : Below wr.heap.size wr w') : EmSt w b r c N cap g q ys w' :=
  ⟨h.blk.step hb, h.cel.keep hb, h.gro.trans (grown_of_below hb _)⟩
theorem EmSt.one {w : World} {b r c N cap g : Nat} {ys ys' : List Int} {wr w' : World} (h : EmSt w b r c N cap g (some ⟨g, 0, none⟩) ys wr) (hl : ys'.length = N) (hi : Ints w' g ys') (hg : wr.grownBy w' (some g)) (hb : b ≠ g) : EmSt w b r c N cap g (some ⟨g, 0, none⟩) ys' w' :=
  ⟨h.blk.keepOne hg hb, .inr ⟨rfl, h.cel.le, hl, hi⟩, h.gro.trans hg⟩
theorem clP_clear {p : Int} {r c t j l i : Nat} {us : List Int} (hx : us.length = r * c) (hcan : CanL p us) (hi : i < r) (hit : i ≠ t) : clP p r c t j (l + 1) i us = clP p r c t j l (i + 1) (rowL r c i (lsV p (mxC c us i j) (mxC c us i) (mxC c us t)) us) := by
  by_cases h0 : mxC c us i j = 0
  · rw [clP_skip (.inr h0), h0]
    congr 1
    refine (rowL_self hx fun _ k hk => ?_).symm
    obtain ⟨h1, h2⟩ := hcan.mx hx hi hk
    show (mxC c us i k - 0 * mxC c us t k) % p = mxC c us i k
    rw [Int.zero_mul, Int.sub_zero]
    exact Int.emod_eq_of_lt h1 h2
  · exact clP_on (fun h => h.elim hit h0)
theorem elP_full {p : Int} {r c k j : Nat} {xs : List Int} {pv : List Nat} {d : Int} (h : ¬ pv.length < r) : elP p r c (k + 1) j xs pv d = elP p r c k (j + 1) xs pv d := by rw [elP_end h, elP_end h]
theorem prod_pos {p d x : Int} (hp : Prm p) (d0 : 0 < d) (d1 : d < p) (x0 : 0 < x) (x1 : x < p) : 0 < (d * x) % p := by
  have h1 := Int.emod_nonneg (d * x) (show p ≠ 0 by omega)
  rcases Int.lt_or_eq_of_le h1 with h | h
  · exact h
  · rcases hp.mul (Int.dvd_of_emod_eq_zero h.symm) with h2 | h2
    · have := Int.le_of_dvd d0 h2; omega
    · have := Int.le_of_dvd x0 h2; omega
theorem neg_mod {p d : Int} (d0 : 0 < d) (d1 : d < p) : (-d) % p = p - d := by
  rw [show -d = (p - d) + p * (-1) by grind, Int.add_mul_emod_self_left]
  exact Int.emod_eq_of_lt (by omega) (by omega)
set_option maxHeartbeats 4000000 in
theorem iElim (r c n N cap g : Nat) (q : Option Addr) (p : Int) (xs : List Int) (w : World) (hN : N = r * c) (hr : r ≤ 24) (hc : c ≤ 24) (hnc : n ≤ c) (hp : prmB p = true) (hcan : CanL p xs) (hi : Cel w q N cap g xs) :
    Calls Try.prog 44 #[.agg #[.int .i64 r, .int .i64 c, .slice q N cap], .int .i64 n, .int .i64 p] w (fun e w' => e = .returned (.tuple #[.int .i64 ((elP p r c n 0 xs [] 1).2.1.length : Int), .int .i64 (elP p r c n 0 xs [] 1).2.2]) ∧ Cel w' q N cap g (elP p r c n 0 xs [] 1).1 ∧ w.grownBy w' (Value.slice q N cap).ownBlock) := by
  have hle : r * c ≤ 24 * 24 := Nat.mul_le_mul hr hc
  rw [← hN] at hle
  obtain ⟨pp, hp2⟩ := prmB_says hp
  have hp1 := pp.1
  have np : ¬ p = 0 := by omega
  have PP := Lib.hid pp
  have PB := Lib.hid hp
  have DL : Hid (∀ i, i < r → i * c + c ≤ N) := fun i hi => by rw [hN, ← Nat.succ_mul]; exact Nat.mul_le_mul_right _ hi
  have bne : ∀ g', q = some ⟨g', 0, none⟩ → 0 < N → w.heap.size ≠ g' := fun g' e h0 => by
    obtain ⟨e2, hI⟩ := hi.ints h0
    rw [e] at e2
    injection e2 with e2
    injection e2 with e2
    have := hI.lt
    omega
  have BN := Lib.hid bne
  obtain ⟨RES, hRES⟩ : ∃ RES, elP p r c n 0 xs [] 1 = RES := ⟨_, rfl⟩
  have HR := Lib.hid hRES
  rw [hRES]
  have HN := Lib.hid hN
  have CX := Lib.hid hcan
  have S0 : Hid (EmSt w w.heap.size r c N cap g q xs (w.alloc (.cells #[.int .i64 r, .int .i64 c, .slice q N cap] 26))) := ⟨Blk3.at_ _ _ _ _ rfl, hi.keep ((Below.refl _ _).alloc (Nat.le_refl _) _), World.grownBy_alloc w _ _⟩
  obtain ⟨b, hb⟩ : ∃ b, w.heap.size = b := ⟨_, rfl⟩
  have HB := Lib.hid hb
  clear hN hcan pp hRES hp hi bne hb
  go_enter Try.func44, Try.ntmps44
  go_upto_region 1 with fail
  rw [HB.out] at S0 BN ⊢
  generalize w.alloc (.cells #[.int .i64 r, .int .i64 c, .slice q N cap] 26) = W at S0 ⊢
  go_wp2_with fail
  go_loopw [8, 9, 10, 11, 12, 13, 15, 54] (fun v8 v9 _ _ _ _ v15 _ wr => ∃ (j k : Nat) (ys : List Int) (pv : List Nat) (d : Int), v8 = .int .i64 (pv.length : Int) ∧ v9 = .int .i64 d ∧ v15 = .int .i64 j ∧ j + k = n ∧ CanL p ys ∧ pv.length ≤ r ∧ 0 < d ∧ d < p ∧ elP p r c k j ys pv d = RES ∧ EmSt w b r c N cap g q ys wr) (fun _ _ _ _ _ _ v15 _ _ => n - (intOf v15).toNat)
  case atStart => exact ⟨0, n, xs, [], 1, rfl, rfl, rfl, by omega, CX.out, by simp, by omega, by omega, HR.out, S0.out⟩
  case round =>
    clear S0 HR CX HB
    obtain ⟨j, k, ys, pv, d, rfl, rfl, rfl, hjk, hn, hpv, hd0, hd1, hR, hst⟩ := hrel
    have ST := Lib.hid hst
    have HY := Lib.hid hn
    have HR := Lib.hid hR
    have HL := Lib.hid hst.cel.len
    clear hst hn hR
    obtain ⟨t, ht⟩ : ∃ t, pv.length = t := ⟨_, rfl⟩
    have PT := Lib.hid ht
    rw [ht] at hpv ⊢
    clear ht
    obtain ⟨p0, p1, p2, -, -, -⟩ := ST.out.blk.all
    by_cases hjn : j < n
    · have hjc : j < c := by omega
      obtain ⟨k, rfl⟩ : ∃ k', k = k' + 1 := ⟨k - 1, by omega⟩
      obtain ⟨f1, f2, f3, f4⟩ := fstR_says (c := c) (j := j) (xs := ys) (k := r - t) (p := t)
      go_wp2_with fail
      refine (iPivR r c t j N cap g q ys _ HN.out hr hc hpv hjc ST.out.cel).mono ?_
      rintro e w5 ⟨rfl, hb5⟩
      have ST := Lib.hid (ST.out.below hb5)
      clear hb5 p0 p1 p2
      by_cases hf : fstR c j ys (r - t) t = r
      · have n1 : pvR r c j t ys = -1 := if_pos hf
        have HE : Hid (elP p r c k (j + 1) ys pv d = RES) := by
          have h1 := HR.out
          by_cases htl : t < r
          · rw [elP_skip (by rw [PT.out]; exact htl) (by rw [PT.out]; exact hf)] at h1
            exact h1
          · rw [elP_full (by rw [PT.out]; exact htl)] at h1
            exact h1
        rw [n1]
        clear n1 hf f1 f2 f3 f4
        go_wp2_with fail
        go_roundw
        case rel => exact ⟨j + 1, k, ys, pv, d, by rw [PT.out], rfl, by go_num, by omega, HY.out, by rw [PT.out]; exact hpv, hd0, hd1, HE.out, ST.out⟩
        case measure => simp [intOf]; omega
      · have n1 : pvR r c j t ys = (fstR c j ys (r - t) t : Int) := if_neg hf
        obtain ⟨s, hs⟩ : ∃ s, fstR c j ys (r - t) t = s := ⟨_, rfl⟩
        rw [hs] at n1 hf f1 f2 f3 f4
        have hsr : s < r := by omega
        have htl : t < r := by omega
        have N0 : 0 < N := by have := DL.out t htl; omega
        have FS : Hid (fstR c j ys (r - pv.length) pv.length = s) := by show _ = _; rw [PT.out]; exact hs
        obtain ⟨rfl, hI⟩ := ST.out.cel.ints N0
        have II := Lib.hid hI
        have bg : b ≠ g := BN.out g rfl N0
        have ZL : Hid ((swC s t c ys).length = N) := by show _ = _; rw [swC_length, HL.out]
        have ZC : Hid (CanL p (swC s t c ys)) := HY.out.sw (by rw [HL.out, HN.out]) hsr htl
        have x0 : mxC c (swC s t c ys) t j ≠ 0 := by
          rw [swC_at (by rw [HL.out, HN.out]) htl hjc]
          by_cases e : t = s
          · rw [if_pos e, e]; exact f4 (by omega)
          · rw [if_neg e, if_pos rfl]; exact f4 (by omega)
        obtain ⟨x1, x2⟩ := ZC.out.mx (by rw [ZL.out, HN.out]) htl hjc
        have EO : Hid (elP p r c k (j + 1) (clP p r c t j r 0 (rowL r c t (scV p (invF p (mxC c (swC s t c ys) t j)) (mxC c (swC s t c ys) t)) (swC s t c ys))) (pv ++ [j]) (((if s = t then d else (-d) % p) * mxC c (swC s t c ys) t j) % p) = RES) := by
          have h1 := HR.out
          rw [elP_on (s := s) (by rw [PT.out]; exact htl) FS.out (by omega), PT.out] at h1
          exact h1
        have SN : Hid (s = t → ys = swC s t c ys) := fun h => by unfold swC; rw [if_pos h]
        have n2 : decide ((s : Int) < 0) = false := decide_eq_false (by omega)
        obtain ⟨x, hx⟩ : ∃ x, mxC c (swC s t c ys) t j = x := ⟨_, rfl⟩
        have X := Lib.hid hx
        rw [hx] at x0 x1 x2 EO
        obtain ⟨d2, hd2⟩ : ∃ d2, (if s = t then d else (-d) % p) = d2 := ⟨_, rfl⟩
        have D2 := Lib.hid hd2
        rw [hd2] at EO
        have d20 : 0 < d2 ∧ d2 < p := by
          rw [← hd2]
          split
          · exact ⟨hd0, hd1⟩
          · rw [neg_mod hd0 hd1]; omega
        obtain ⟨d21, d22⟩ := d20
        have DP := Lib.hid (prod_pos PP.out d21 d22 (by omega) x2)
        have SWC : Hid (∀ w', Ints w' g ys → Calls Try.prog 75 #[.agg #[.int .i64 r, .int .i64 c, .slice (some ⟨g, 0, none⟩) N cap], .int .i64 s, .int .i64 t] w' (fun e w2 => Void e ∧ Ints w2 g (swC s t c ys) ∧ w'.grownBy w2 (some g))) := fun w' hi' => iSwR r c s t N cap g ys w' HN.out HL.out hr hc (by omega) hsr htl hi'
        have RW : Hid (∀ i, i < r → ∀ w', Calls Try.prog 55 #[.agg #[.int .i64 r, .int .i64 c, .slice (some ⟨g, 0, none⟩) N cap], .int .i64 i] w' (RowAt (some ⟨g, 0, none⟩) (i * c) c w')) := fun i hi w' => iRowIn r c i (i * c) N cap _ w' (.inr ⟨g, 0, rfl⟩) rfl (DL.out i hi) ST.out.cel.le (fun h => by cases h) (by omega) (by omega)
        rw [n1]
        clear n1 hf f1 f2 f3 f4 hI hs FS hx hd2 HR
        obtain ⟨p0, p1, p2, -, -, -⟩ := ST.out.blk.all
        go_upto_if 26 with fail
        generalize swC s t c ys = zs at ZL ZC EO SN X SWC
        go_cut [9] (fun v9 wx => v9 = .int .i64 d2 ∧ EmSt w b r c N cap g (some ⟨g, 0, none⟩) zs wx)
        case first =>
          by_cases hst : s = t
          · have n3 : ((s : Int) != (t : Int)) = false := by simp [hst]
            have hs := ST.out
            rw [SN.out hst] at hs
            have S2 := Lib.hid hs
            have DD : Hid (d = d2) := by show _ = _; rw [← D2.out, if_pos hst]
            clear hs hst
            go_wp2_with fail
            go_meet
            exact ⟨by rw [DD.out], S2.out⟩
          · have n3 : ((s : Int) != (t : Int)) = true := by simp; omega
            have DD : Hid (p - d = d2) := by show _ = _; rw [← D2.out, if_neg hst, neg_mod hd0 hd1]
            have w9 : IntKind.i64.wrap (p - d) = p - d := IntWalk.i64_in _ (by omega)
            clear hst
            go_wp2_with fail
            refine (SWC.out _ II.out).mono ?_
            rintro e w6 ⟨rfl, hi6, hg6⟩
            have S6 := Lib.hid (ST.out.one ZL.out hi6 hg6 bg)
            clear hi6 hg6 p0 p1 p2
            go_wp2_with fail
            go_meet
            exact ⟨by rw [DD.out], S6.out⟩
        case rest =>
          clear ST II SN HY HL D2 SWC
          obtain ⟨rfl, hst⟩ := hcut
          have ST := Lib.hid hst
          clear hst p0 p1 p2
          obtain ⟨p0, p1, p2, -, -, -⟩ := ST.out.blk.all
          have DV : Hid (∀ (m : Nat) (w' : World), Ints w' g zs → Calls Try.prog 76 #[.slice (some ⟨g, t * c, none⟩) c m, .int .i64 x, .int .i64 p] w' (fun e w2 => Void e ∧ Ints w2 g (rowL r c t (scV p (invF p x) (mxC c zs t)) zs) ∧ w'.grownBy w2 (some g))) := fun m w' hi' => iDivide r c t N g m x p zs w' HN.out ZL.out hc htl PB.out ZC.out x1 x2 x0 hi'
          have UL : Hid ((rowL r c t (scV p (invF p x) (mxC c zs t)) zs).length = N) := by show _ = _; rw [rowL_length, HN.out]
          have UC : Hid (CanL p (rowL r c t (scV p (invF p x) (mxC c zs t)) zs)) := ZC.out.row (by rw [ZL.out, HN.out]) fun q _ => ⟨Int.emod_nonneg _ (by omega), Int.emod_lt_of_pos _ (by omega)⟩
          generalize rowL r c t (scV p (invF p x) (mxC c zs t)) zs = vs at DV UL UC EO
          have CZ : Hid (∀ w', Ints w' g zs → w'.cell? ⟨g, t * c + j, none⟩ = some (.int .i64 x)) := fun w' hi' => by
            have h1 := hi'.cell (i := t * c + j) (by rw [ZL.out, HN.out]; exact idx_lt htl hjc)
            rw [show zs.getD (t * c + j) 0 = x from X.out] at h1
            exact h1
          obtain ⟨m3, m4⟩ := mul_bd (show 0 ≤ d2 by omega) d22 x1 x2 hp2
          obtain ⟨y, hy⟩ : ∃ y, d2 * x = y := ⟨_, rfl⟩
          have w8 : IntKind.i64.wrap (d2 * x) = y := by rw [← hy]; exact IntWalk.i64_in _ (by omega)
          rw [hy] at m3 m4 EO DP
          have e8 : Int.tmod y p = y % p := Int.tmod_eq_emod_of_nonneg m3
          clear hy ZC ZL X
          go_wp2_with fail
          refine (RW.out t htl _).mono ?_
          rintro e v1 ⟨q1, m1, rfl, hm1, hq1, -, hb1⟩
          obtain rfl := hq1 g 0 rfl (by omega)
          rw [Nat.zero_add]
          have S1 := Lib.hid (ST.out.below hb1)
          clear hq1 hb1 ST p0 p1 p2
          have hcz := CZ.out _ (S1.out.cel.ints N0).2
          go_wp2_with fail
          refine (DV.out _ _ (S1.out.cel.ints N0).2).mono ?_
          rintro e v2 ⟨rfl, hi2, hg2⟩
          have S2 := Lib.hid (S1.out.one UL.out hi2 hg2 bg)
          clear hi2 hg2 S1 hcz DV CZ
          obtain ⟨p0, p1, p2, -, -, -⟩ := S2.out.blk.all
          obtain ⟨E, hE⟩ : ∃ E, clP p r c t j r 0 vs = E := ⟨_, rfl⟩
          rw [hE] at EO
          have EE := Lib.hid hE
          clear hE
          go_wp2_with fail
          clear p0 p1 p2
          go_loopw [13, 54] (fun _ v54 wu => ∃ (i l : Nat) (us : List Int), v54 = .int .i64 i ∧ i + l = r ∧ CanL p us ∧ clP p r c t j l i us = E ∧ EmSt w b r c N cap g (some ⟨g, 0, none⟩) us wu) (fun _ v54 _ => r - (intOf v54).toNat)
          case atStart => exact ⟨0, r, vs, rfl, by omega, UC.out, EE.out, S2.out⟩
          case round =>
            clear S2 UL UC EE
            obtain ⟨i, l, us, rfl, hil, hun, hue, hst⟩ := hrel
            have ST := Lib.hid hst
            have UL := Lib.hid hst.cel.len
            have UN := Lib.hid hun
            have UE := Lib.hid hue
            clear hst hun hue
            obtain ⟨p0, p1, p2, -, -, -⟩ := ST.out.blk.all
            by_cases hir : i < r
            · obtain ⟨l, rfl⟩ : ∃ l', l = l' + 1 := ⟨l - 1, by omega⟩
              by_cases hit : i = t
              · have n2 : ((i : Int) != (t : Int)) = false := by simp [hit]
                have UE2 : Hid (clP p r c t j l (i + 1) us = E) := by
                  have h1 := UE.out
                  rw [clP_skip (.inl hit)] at h1
                  exact h1
                clear hit
                go_wp2_with fail
                go_roundw
                case rel => exact ⟨i + 1, l, us, by go_num, by omega, UN.out, UE2.out, ST.out⟩
                case measure => simp [intOf]; omega
              · have n2 : ((i : Int) != (t : Int)) = true := by simp; omega
                have CM : Hid (∀ (mi : Nat) (w' : World), Ints w' g us → Calls Try.prog 77 #[.slice (some ⟨g, i * c, none⟩) c mi, .slice (some ⟨g, t * c, none⟩) c m1, .int .i64 j, .int .i64 p] w' (fun e w2 => Void e ∧ Ints w2 g (rowL r c i (lsV p (mxC c us i j) (mxC c us i) (mxC c us t)) us) ∧ w'.grownBy w2 (some g))) := fun mi w' hi' => iClearM r c i t j N g mi m1 p us w' HN.out UL.out hc hir htl hit hjc PB.out UN.out hi'
                have UE2 : Hid (clP p r c t j l (i + 1) (rowL r c i (lsV p (mxC c us i j) (mxC c us i) (mxC c us t)) us) = E) := by
                  have h1 := UE.out
                  rw [clP_clear (by rw [UL.out, HN.out]) UN.out hir hit] at h1
                  exact h1
                have VL : Hid ((rowL r c i (lsV p (mxC c us i j) (mxC c us i) (mxC c us t)) us).length = N) := by show _ = _; rw [rowL_length, HN.out]
                have VC : Hid (CanL p (rowL r c i (lsV p (mxC c us i j) (mxC c us i) (mxC c us t)) us)) := UN.out.row (by rw [UL.out, HN.out]) fun q _ => ⟨Int.emod_nonneg _ (by omega), Int.emod_lt_of_pos _ (by omega)⟩
                generalize rowL r c i (lsV p (mxC c us i j) (mxC c us i) (mxC c us t)) us = ws at CM UE2 VL VC
                clear hit
                go_wp2_with fail
                refine (RW.out i hir _).mono ?_
                rintro e v3 ⟨q3, m3', rfl, -, hq3, -, hb3⟩
                obtain rfl := hq3 g 0 rfl (by omega)
                rw [Nat.zero_add]
                have S3 := Lib.hid (ST.out.below hb3)
                clear hq3 hb3 ST p0 p1 p2
                go_wp2_with fail
                refine (CM.out _ _ (S3.out.cel.ints N0).2).mono ?_
                rintro e v4 ⟨rfl, hi4, hg4⟩
                have S4 := Lib.hid (S3.out.one VL.out hi4 hg4 bg)
                clear hi4 hg4
                go_wp2_with fail
                go_roundw
                case rel => exact ⟨i + 1, l, ws, by go_num, by omega, VC.out, UE2.out, S4.out⟩
                case measure => simp [intOf]; omega
            · obtain rfl : l = 0 := by omega
              have UF : Hid (us = E) := UE.out
              have UR : Hid (elP p r c k (j + 1) us (pv ++ [j]) (y % p) = RES) := by
                have h1 := EO.out
                rw [← UF.out] at h1
                exact h1
              have y1 : y % p < p := Int.emod_lt_of_pos _ (by omega)
              have LP : Hid ((t : Int) + 1 = (((pv ++ [j]).length : Nat) : Int)) := by show _ = _; rw [List.length_append, PT.out]; simp
              have LR : Hid ((pv ++ [j]).length ≤ r) := by show _ ≤ _; rw [List.length_append, PT.out]; simp; omega
              have w7 : IntKind.i64.wrap ((t : Int) + 1) = (t : Int) + 1 := IntWalk.i64_in _ (by omega)
              go_wp2_with fail
              go_roundw
              case rel => exact ⟨j + 1, k, us, pv ++ [j], y % p, by rw [← LP.out], rfl, by go_num, by omega, UN.out, LR.out, DP.out, y1, UR.out, ST.out⟩
              case measure => simp [intOf]; omega
    · obtain rfl : k = 0 := by omega
      have RF : Hid ((ys, pv, d) = RES) := HR.out
      go_wp2_with fail
      refine bodyPost_ret (v := .tuple #[.int .i64 (t : Int), .int .i64 d]) (by simp [results, Try.results44, go_sem]) rfl ⟨?_, ?_, ST.out.gro⟩
      · rw [← RF.out, ← PT.out]
      · rw [← RF.out]; exact ST.out.cel
end Go.Proofs.Ytncplikadacjnaa
end

section
/-
  Chapter 8, in the program: RankMod, DeterminantMod.
-/
namespace Go.Proofs.Ytncplikadacjnaa
set_option maxRecDepth 100000
open Go.RowKit

/-- Own cells as the program's elimination wants them: they lie in a block from B on, or there are none. -/
theorem Own.cel' {B N cap : Nat} {w w0 : World} {q : Option Addr} {zs : List Int} (h : Own B w (.slice q N cap) zs) (_ : w0.heap.size ≤ w.heap.size) : ∃ g, Cel w q N cap g zs ∧ ∀ k, (Value.slice q N cap).ownBlock = some k → B ≤ k := by
  rcases h with ⟨hv, rfl⟩ | ⟨g, c', hv, hB, hi, hl, _⟩
  · injection hv with e1 e2 e3
    exact ⟨0, .inl ⟨e1, e3, e2, rfl⟩, fun k hk => by subst e1; cases hk⟩
  · injection hv with e1 e2 e3
    refine ⟨g, .inr ⟨e1, by omega, e2.symm, hi⟩, fun k hk => ?_⟩
    subst e1
    simp only [Value.ownBlock, Option.some.injEq] at hk
    omega
set_option maxHeartbeats 1000000 in
theorem iRank (r c p : Int) (a : Option Addr) (m : Nat) (xs : List Int) (w : World) (h : Rd w a xs) (hn : xs.length ≤ 16777216) :
    Calls Try.prog 17 #[.agg #[.int .i64 r, .int .i64 c, .slice a xs.length m], .int .i64 p] w (Gives (.tuple #[.int .i64 (rkM r c p xs).1, .bool (rkM r c p xs).2]) w) := by
  have RD : Hid (∀ w', Below w.heap.size w w' → Calls Try.prog 23 #[.agg #[.int .i64 r, .int .i64 c, .slice a xs.length m], .int .i64 p] w' (MatRes (redM r c p xs) w')) := fun w' hb => iRed r c p a m xs w' (h.below hb) hn
  have B0 : Hid (Below w.heap.size w (w.alloc (.cells #[.int .i64 r, .int .i64 c, .slice a xs.length m] 26))) := (Below.refl _ _).alloc (Nat.le_refl _) _
  have K0 : Hid (Blk3 (w.alloc (.cells #[.int .i64 r, .int .i64 c, .slice a xs.length m] 26)) w.heap.size 26 (.int .i64 r) (.int .i64 c) (.slice a xs.length m)) := Blk3.at_ _ _ _ _ rfl
  rcases Bool.eq_false_or_eq_true (isMat r c xs && prmB p) with hh | hh
  · obtain ⟨R, C, N, rfl, rfl, hN, hR, hC, hx, hl, hp, hcan, e1, e2, -⟩ := rkM_yes hh
    rw [e1] at RD
    rw [e2]
    have EL : Hid (∀ (q : Option Addr) (cap g : Nat) (w' : World), Cel w' q N cap g (resL p xs) → Calls Try.prog 44 #[.agg #[.int .i64 R, .int .i64 C, .slice q N cap], .int .i64 C, .int .i64 p] w' (fun e w2 => e = .returned (.tuple #[.int .i64 ((elM p R C xs).2.1.length : Int), .int .i64 (elM p R C xs).2.2]) ∧ Cel w2 q N cap g (elM p R C xs).1 ∧ w'.grownBy w2 (Value.slice q N cap).ownBlock)) := fun q cap g w' h1 => iElim R C C N cap g q p (resL p xs) w' hN hR hC (Nat.le_refl _) hp hcan h1
    generalize elM p R C xs = RES at EL ⊢
    generalize resL p xs = zs at RD EL hl
    rw [hx] at RD B0 K0 ⊢
    clear h hn hx hN hcan e1 e2 hh hp
    go_enter Try.func17, Try.ntmps17
    go_wp2_with fail
    refine (RD.out _ B0.out).mono ?_
    rintro e w1 ⟨v, rfl, own, hb⟩
    obtain ⟨q, cap, rfl, -, -⟩ := own.form
    dsimp only
    rw [hl]
    rw [hl] at own
    have B1 := B0.out.trans (hb.mono (by simp))
    have B2 := Lib.hid (B1.alloc B1.size (.cells #[.int .i64 R, .int .i64 C, .slice q N cap] 26))
    have O2 := Lib.hid (own.keep ((Below.refl _ _).alloc (Nat.le_refl _) (.cells #[.int .i64 R, .int .i64 C, .slice q N cap] 26)))
    have K2 : Hid (Blk3 (w1.alloc (.cells #[.int .i64 R, .int .i64 C, .slice q N cap] 26)) w1.heap.size 26 (.int .i64 R) (.int .i64 C) (.slice q N cap)) := Blk3.at_ _ _ _ _ rfl
    have K1 := Lib.hid ((K0.out.step hb).old (.cells #[.int .i64 R, .int .i64 C, .slice q N cap] 26))
    have lt1 : w.heap.size < w1.heap.size := (K0.out.step hb).lt
    clear hb own B1 B0 K0
    go_upto_region 2 with fail
    generalize w1.alloc (.cells #[.int .i64 R, .int .i64 C, .slice q N cap] 26) = W at B2 O2 K2 K1 ⊢
    obtain ⟨p0, p1, p2, -, -, -⟩ := K2.out.all
    obtain ⟨q0, q1, q2, -, -, -⟩ := K1.out.all
    go_wp2_with fail
    obtain ⟨g, C2, hg⟩ := Own.cel' O2.out B2.out.size
    refine (EL.out q cap g _ C2).mono ?_
    rintro e w2 ⟨rfl, -, hg2⟩
    have B4 := Lib.hid (B2.out.grown hg2 B2.out.size (fun k e => by have := hg k e; simp at this; omega))
    clear hg2 C2 hg p0 p1 p2 q0 q1 q2
    go_wp2_with fail
    exact bodyPost_ret (v := .tuple #[.int .i64 (RES.2.1.length : Int), .bool true]) (by simp [results, Try.results17, go_sem]) rfl ⟨rfl, B4.out⟩
  · obtain ⟨e1, e2, -⟩ := rkM_no hh
    rw [e2] at RD
    rw [e1]
    generalize xs.length = L at RD B0 ⊢
    clear h hn e1 e2 hh K0
    go_enter Try.func17, Try.ntmps17
    go_wp2_with fail
    refine (RD.out _ B0.out).mono ?_
    rintro e w1 ⟨v, rfl, own, hb⟩
    obtain ⟨q, cap, rfl, -, -⟩ := own.form
    have B1 := B0.out.trans (hb.mono (by simp))
    have B2 := Lib.hid (B1.alloc B1.size (.cells #[.int .i64 MR.no.r, .int .i64 MR.no.c, .slice q MR.no.zs.length cap] 26))
    clear hb own B1 B0
    have ok : MR.no.ok = false := rfl
    rw [ok]
    go_wp2_with fail
    exact bodyPost_ret (v := .tuple #[.int .i64 0, .bool false]) (by simp [results, Try.results17, go_sem]) rfl ⟨rfl, B2.out⟩
set_option maxHeartbeats 1000000 in
theorem iDetM (r c p : Int) (a : Option Addr) (m : Nat) (xs : List Int) (w : World) (h : Rd w a xs) (hn : xs.length ≤ 16777216) :
    Calls Try.prog 14 #[.agg #[.int .i64 r, .int .i64 c, .slice a xs.length m], .int .i64 p] w (Gives (.tuple #[.int .i64 (dtM r c p xs).1, .bool (dtM r c p xs).2]) w) := by
  have RD : Hid (∀ w', Below w.heap.size w w' → Calls Try.prog 23 #[.agg #[.int .i64 r, .int .i64 c, .slice a xs.length m], .int .i64 p] w' (MatRes (redM r c p xs) w')) := fun w' hb => iRed r c p a m xs w' (h.below hb) hn
  have B0 : Hid (Below w.heap.size w (w.alloc (.cells #[.int .i64 r, .int .i64 c, .slice a xs.length m] 26))) := (Below.refl _ _).alloc (Nat.le_refl _) _
  have K0 : Hid (Blk3 (w.alloc (.cells #[.int .i64 r, .int .i64 c, .slice a xs.length m] 26)) w.heap.size 26 (.int .i64 r) (.int .i64 c) (.slice a xs.length m)) := Blk3.at_ _ _ _ _ rfl
  rcases Bool.eq_false_or_eq_true (isMat r c xs && prmB p) with hh | hh
  · obtain ⟨R, C, N, rfl, rfl, hN, hR, hC, hx, hl, hp, hcan, e1, -, e3⟩ := rkM_yes hh
    rw [e1] at RD
    have D1 : Hid (R = C → (elM p R C xs).2.1.length < R → dtM R C p xs = (0, true)) := fun h1 h2 => by show _ = _; rw [e3, if_pos h1, if_pos h2]
    have D2 : Hid (R = C → ¬ (elM p R C xs).2.1.length < R → dtM R C p xs = ((elM p R C xs).2.2, true)) := fun h1 h2 => by show _ = _; rw [e3, if_pos h1, if_neg h2]
    have D3 : Hid (R ≠ C → dtM R C p xs = (0, false)) := fun h1 => by show _ = _; rw [e3, if_neg h1]
    generalize dtM R C p xs = DD at D1 D2 D3 ⊢
    have EL : Hid (∀ (q : Option Addr) (cap g : Nat) (w' : World), Cel w' q N cap g (resL p xs) → Calls Try.prog 44 #[.agg #[.int .i64 R, .int .i64 C, .slice q N cap], .int .i64 C, .int .i64 p] w' (fun e w2 => e = .returned (.tuple #[.int .i64 ((elM p R C xs).2.1.length : Int), .int .i64 (elM p R C xs).2.2]) ∧ Cel w2 q N cap g (elM p R C xs).1 ∧ w'.grownBy w2 (Value.slice q N cap).ownBlock)) := fun q cap g w' h1 => iElim R C C N cap g q p (resL p xs) w' hN hR hC (Nat.le_refl _) hp hcan h1
    generalize elM p R C xs = RES at EL D1 D2
    generalize resL p xs = zs at RD EL hl
    rw [hx] at RD B0 K0 ⊢
    clear h hn hx hN hcan e1 e3 hh hp
    go_enter Try.func14, Try.ntmps14
    go_wp2_with fail
    refine (RD.out _ B0.out).mono ?_
    rintro e w1 ⟨v, rfl, own, hb⟩
    obtain ⟨q, cap, rfl, -, -⟩ := own.form
    dsimp only
    rw [hl]
    rw [hl] at own
    have s1 := hb.size
    have B1 := B0.out.trans (hb.mono (by simp))
    have B2 := Lib.hid (B1.alloc B1.size (.cells #[.int .i64 R, .int .i64 C, .slice q N cap] 26))
    have O2 := Lib.hid (own.keep ((Below.refl _ _).alloc (Nat.le_refl _) (.cells #[.int .i64 R, .int .i64 C, .slice q N cap] 26)))
    have K2 : Hid (Blk3 (w1.alloc (.cells #[.int .i64 R, .int .i64 C, .slice q N cap] 26)) w1.heap.size 26 (.int .i64 R) (.int .i64 C) (.slice q N cap)) := Blk3.at_ _ _ _ _ rfl
    have K1 := Lib.hid ((K0.out.step hb).old (.cells #[.int .i64 R, .int .i64 C, .slice q N cap] 26))
    have lt1 : w.heap.size < w1.heap.size := (K0.out.step hb).lt
    clear hb own B1 B0 K0
    go_upto_region 2 with fail
    generalize w1.alloc (.cells #[.int .i64 R, .int .i64 C, .slice q N cap] 26) = W at B2 O2 K2 K1 ⊢
    obtain ⟨p0, p1, p2, -, -, -⟩ := K2.out.all
    obtain ⟨q0, q1, q2, -, -, -⟩ := K1.out.all
    by_cases hRC : R = C
    · have n1 : ((R : Int) != (C : Int)) = false := by simp [hRC]
      have D1 : Hid (RES.2.1.length < R → DD = (0, true)) := D1.out hRC
      have D2 : Hid (¬ RES.2.1.length < R → DD = (RES.2.2, true)) := D2.out hRC
      clear hRC
      go_wp2_with fail
      obtain ⟨g, C2, hg⟩ := Own.cel' O2.out B2.out.size
      refine (EL.out q cap g _ C2).mono ?_
      rintro e w2 ⟨rfl, -, hg2⟩
      have B4 := Lib.hid (B2.out.grown hg2 B2.out.size (fun k e => by have := hg k e; simp at this; omega))
      have K3 : Hid (Blk3 w2 w.heap.size 26 (.int .i64 R) (.int .i64 C) (.slice a N m)) := (hg2.block _ K1.out.lt (fun e => by have := hg _ e.symm; simp at this; omega)).trans K1.out
      clear hg2 C2 hg p0 p1 p2 q0 q1 q2
      obtain ⟨q0, q1, q2, -, -, -⟩ := K3.out.all
      by_cases hlt : RES.2.1.length < R
      · have DX := Lib.hid (D1.out hlt)
        go_wp2_with fail
        rw [DX.out]
        exact bodyPost_ret (v := .tuple #[.int .i64 0, .bool true]) (by simp [results, Try.results14, go_sem]) rfl ⟨rfl, B4.out⟩
      · have DX := Lib.hid (D2.out hlt)
        go_wp2_with fail
        rw [DX.out]
        exact bodyPost_ret (v := .tuple #[.int .i64 RES.2.2, .bool true]) (by simp [results, Try.results14, go_sem]) rfl ⟨rfl, B4.out⟩
    · have n1 : ((R : Int) != (C : Int)) = true := by simp; omega
      have DX := Lib.hid (D3.out hRC)
      clear hRC
      go_wp2_with fail
      rw [DX.out]
      exact bodyPost_ret (v := .tuple #[.int .i64 0, .bool false]) (by simp [results, Try.results14, go_sem]) rfl ⟨rfl, B2.out⟩
  · obtain ⟨-, e2, e1⟩ := rkM_no hh
    rw [e2] at RD
    rw [e1]
    generalize xs.length = L at RD B0 ⊢
    clear h hn e1 e2 hh K0
    go_enter Try.func14, Try.ntmps14
    go_wp2_with fail
    refine (RD.out _ B0.out).mono ?_
    rintro e w1 ⟨v, rfl, own, hb⟩
    obtain ⟨q, cap, rfl, -, -⟩ := own.form
    have B1 := B0.out.trans (hb.mono (by simp))
    have B2 := Lib.hid (B1.alloc B1.size (.cells #[.int .i64 MR.no.r, .int .i64 MR.no.c, .slice q MR.no.zs.length cap] 26))
    clear hb own B1 B0
    have ok : MR.no.ok = false := rfl
    rw [ok]
    go_wp2_with fail
    exact bodyPost_ret (v := .tuple #[.int .i64 0, .bool false]) (by simp [results, Try.results14, go_sem]) rfl ⟨rfl, B2.out⟩
end Go.Proofs.Ytncplikadacjnaa
end
