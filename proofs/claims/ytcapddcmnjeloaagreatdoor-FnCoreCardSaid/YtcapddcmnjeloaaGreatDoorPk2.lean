/-
  Texts of this seat, joined: ZACode · ZAAnyM · ZADrawP · ZADrawR · ZADrawY · ZADrawSl · ZASumMath · ZAModM · ZADet1 · ZADet2 · ZAModD · ZASolM · ZARatMath · ZARatOpM · ZAChiM · ZASolR · ZAWoMath · ZARowsOwn · ZAWo · ZADet3 · ZABlk4 · ZARowS · ZARowMath · ZADetL · ZARdCells
-/
import Derived.ProofKit
import Derived.OpenShut
import Derived.WalkKit
import Derived.IntWalk
import Derived.Deep.RegionHeld3
import Derived.Deep.DeepCutAuto
import Derived.Test.YtcapddcmnjeloaaGreatDoorPk1

section
/-
  A code that came in as a slice of bytes, as the drawing takes it; and the laws' own look at its length.
-/
namespace Go.Proofs.YtcapddcmnjeloaaGreatDoor
open Go.RowKit
theorem codeIn_none (w : World) : CodeIn w none 0 := ⟨Nat.zero_le _, fun _ hk => absurd hk (Nat.not_lt_zero _)⟩
theorem codeIn_some {w : World} {x : Addr} {len cap : Nat} {zs : List Int} (hl : len ≤ cap) (hm : cap ≤ maxLen) (hz : zs.length = cap)
    (hcell : ∀ i, i < zs.length → w.cell? (x.add i) = some (.int .u8 (zs.getD i 0))) (hwf : ∀ n ∈ zs, (Lit.int .u8 n).wf = true) : CodeIn w (some x) len := by
  refine ⟨Nat.le_trans hl hm, fun k hk => ?_⟩
  obtain ⟨b, o, rfl, hc⟩ := ints_at hcell (by omega)
  have bd := range_u8 hwf k
  exact ⟨b, o, zs.getD k 0, rfl, hc k (by omega), by simpa using bd.1, by simpa using bd.2⟩
theorem big_no (w : World) (a : Option Addr) (len cap : Nat) (h : len ≤ 1048576) : Calls Tryz.prog 6 #[.slice a len cap] w fun e w' => e = .returned (.bool false) ∧ w = w' := by
  have h' : decide ((1048576 : Int) < (len : Int)) = false := by simp; omega
  clear h
  go_enter Tryz.func6, Tryz.ntmps6
  go_wp2
  go_ret
  exact ⟨rfl, rfl⟩
theorem big_yes (w : World) (a : Option Addr) (len cap : Nat) (h : 1048576 < len) : Calls Tryz.prog 6 #[.slice a len cap] w fun e w' => e = .returned (.bool true) ∧ w = w' := by
  have h' : decide ((1048576 : Int) < (len : Int)) = true := by simp; omega
  clear h
  go_enter Tryz.func6, Tryz.ntmps6
  go_wp2
  go_ret
  exact ⟨rfl, rfl⟩
end Go.Proofs.YtcapddcmnjeloaaGreatDoor
end

section
/-
  What the drawing of a matrix gives: any matrix of the call's own, valid or not.
-/
namespace Go.Proofs.YtcapddcmnjeloaaGreatDoor
set_option maxRecDepth 100000
open Go.RowKit
end Go.Proofs.YtcapddcmnjeloaaGreatDoor
end

section
/-
  The drawing of a modulus, and of a square matrix with one.
-/
namespace Go.Proofs.YtcapddcmnjeloaaGreatDoor
set_option maxRecDepth 100000
open Go.RowKit
end Go.Proofs.YtcapddcmnjeloaaGreatDoor
end

section
/-
  The drawing of a system over residues.
-/
namespace Go.Proofs.YtcapddcmnjeloaaGreatDoor
set_option maxRecDepth 100000
open Go.RowKit
theorem l1Num9 (w : World) (cb : Nat) (hc : Cur w cb) : Calls Tryz.prog 120 #[.pointer (some ⟨cb, 0, none⟩), .int .i64 9] w (CurInt (fun _ => True) cb w) := by
  have C0 := Lib.hid hc
  clear hc
  go_enter Tryz.func120, Tryz.ntmps120
  go_wp2_with fail
  refine (l1Once _ cb 40 C0.out (by omega)).mono ?_
  rintro e w1 ⟨b, rfl, hc1, hg1⟩
  cases b with
  | true =>
    go_wp2_with fail
    refine (l1Odd _ cb hc1).mono ?_
    rintro e w2 h
    obtain ⟨r, -, rfl, hc2, hg2⟩ := h
    have C2 := Lib.hid hc2
    have G2 := Lib.hid (hg1.trans hg2)
    clear hc1 hg1 hc2 hg2
    go_wp2_with fail
    go_ret
    exact ⟨r, trivial, rfl, C2.out, G2.out⟩
  | false =>
    go_wp2_with fail
    refine (l1Below _ cb 19 hc1 (by omega)).mono ?_
    rintro e w2 ⟨r, ⟨r0, r1⟩, rfl, hc2, hg2⟩
    have C2 := Lib.hid hc2
    have G2 := Lib.hid (hg1.trans hg2)
    have v : IntKind.i64.wrap (r - 9) = r - 9 := IntWalk.i64_in _ (by omega)
    clear hc1 hg1 hc2 hg2
    go_wp2_with fail
    go_ret
    exact ⟨r - 9, trivial, rfl, C2.out, G2.out⟩
def CurLis (cb : Nat) (w : World) (e : Ending) (w' : World) : Prop := ∃ (v : Value) (l : List Int), e = .returned v ∧ w'.ownsRow w.heap.size 3 1 v l.length (l.map (Value.int .i64)) ∧ l.length ≤ 31 ∧ Cur w' cb ∧ FrS (fun k => k = cb ∨ w.heap.size ≤ k) w w'
theorem ownI_far {w : World} {B cb n : Nat} {e : TypeId} {size : Nat} {v : Value} {xs : List Value} (h : w.ownsRow B e size v n xs) (hB : cb < B) : v.ownBlock = none ∨ v.ownBlock ≠ some cb := by
  cases hv : v.ownBlock with
  | none => exact .inl rfl
  | some k => exact .inr (fun h' => by have := (h.lt k hv).1; injection h' with h'; omega)
theorem rowsI_form {w : World} {base n : Nat} {e : TypeId} {size : Nat} {v : Value} {xs : List Value} (h : w.ownsRow base e size v n xs) : ∃ a m c, v = .slice a m c := by
  obtain ⟨h1, ⟨h2, h3⟩ | ⟨g, cap, cur, e, hB, hg, rest⟩⟩ := h
  · exact ⟨_, _, _, h2⟩
  · exact ⟨_, _, _, e⟩
theorem cellI_new (w : World) (t : TypeId) (z : Int) : ∀ (j : Nat) u, [Value.int .i64 z][j]? = some u → (w.alloc (.cells #[.int .i64 z] t)).cell? ((⟨w.heap.size, 0, none⟩ : Addr).add j) = some u := by
  intro j u hu
  have hj : j = 0 := by
    rcases j with _ | j
    · rfl
    · simp at hu
  subst hj
  have := heap_alloc_new w (.cells #[Value.int .i64 z] t)
  have hc : (w.alloc (.cells #[Value.int .i64 z] t)).cell? ⟨w.heap.size, 0, none⟩ = some (.int .i64 z) := by
    unfold World.cell?
    simp only [this]
    rfl
  have ha : (⟨w.heap.size, 0, none⟩ : Addr).add 0 = ⟨w.heap.size, 0, none⟩ := rfl
  rw [ha, hc]
  simpa using hu
set_option maxHeartbeats 4000000 in
theorem l8Right (w : World) (cb : Nat) (n : Int) (hc : Cur w cb) (hn : n ≤ 30) : Calls Tryz.prog 72 #[.pointer (some ⟨cb, 0, none⟩), .int .i64 n] w (CurLis cb w) := by
  have hlt := hc.lt
  have C0 := Lib.hid (hc.alloc (.cells #[] 3))
  have own0 : (w.alloc (.cells #[] 3)).ownsRow w.heap.size 3 1 (.slice (some ⟨w.heap.size, 0, none⟩) 0 0) 0 (([] : List Int).map (Value.int .i64)) := ⟨rfl, .inr ⟨w.heap.size, 0, #[], rfl, Nat.le_refl _, heap_alloc_new w _, Nat.le_refl _, by decide, rfl, rfl⟩⟩
  have O0 := Lib.hid own0
  have F0 : Hid (FrS (fun k => k = cb ∨ w.heap.size ≤ k) w (w.alloc (.cells #[] 3))) := (FrS.refl _ w).alloc _
  clear hc own0
  obtain ⟨fi, hfi, hz0, hz1, hz2⟩ := facts_int
  go_enter Tryz.func72, Tryz.ntmps72
  go_wp2_with fail
  go_loopw [5, 6] (fun v5 v6 wr => ∃ (i : Nat) (l : List Int), v6 = .int .i64 i ∧ l.length = i ∧ i ≤ n.toNat ∧ wr.ownsRow w.heap.size 3 1 v5 l.length (l.map (Value.int .i64)) ∧ Cur wr cb ∧ FrS (fun k => k = cb ∨ w.heap.size ≤ k) w wr) (fun _ v6 _ => n.toNat - (intOf v6).toNat)
  case atStart => exact ⟨0, [], rfl, rfl, by omega, O0.out, C0.out, F0.out⟩
  case round =>
    obtain ⟨i, l, rfl, hl, hi, ho, hcu, hf⟩ := hrel
    have O := Lib.hid ho
    have CU := Lib.hid hcu
    have FR := Lib.hid hf
    have s0 := hf.size
    obtain ⟨va, vm, vc, rfl⟩ := rowsI_form ho
    have LE : Hid (l.length = i) := hl
    have l30 : l.length ≤ 30 := by omega
    clear ho hcu hf C0 O0 F0 hl
    by_cases hgo : (i : Int) < n
    · go_wp2_with fail
      refine (l1Num9 _ cb CU.out).mono ?_
      rintro e w2 ⟨z, -, rfl, hc2, hg2⟩
      have s2 := hg2.size
      have O2 := Lib.hid ((O.out.kept hg2 (ownI_far O.out hlt)).kept (World.grownBy_alloc w2 (.cells #[.int .i64 z] 3) none) (by cases (Value.slice va vm vc).ownBlock <;> simp))
      have F2 := Lib.hid ((FR.out.trans (FrS.of_one (p := fun k => k = cb ∨ w.heap.size ≤ k) hg2 (.inl rfl))).alloc (.cells #[.int .i64 z] 3))
      have C2 := Lib.hid (hc2.alloc (.cells #[.int .i64 z] 3))
      clear hc2 hg2
      go_wp2_with (at_builtin; refine wpList_append_own_at _ rfl _ _ 24 rfl w.heap.size 3 fi (.int .i64 0) 1 8 underlying_ints hfi hz0 hz1 hz2 rfl (by decide) _ _ _ rfl O2.out ⟨w2.heap.size, 0, none⟩ 1 1 [.int .i64 z] ?hx ?hl ?hnews ?h1 ?h63 ?hbytes ?hbase ?hnext)
      case hx => rfl
      case hl => rfl
      case hnews => exact cellI_new _ _ _
      case h1 => intro v hv; simp at hv; subst hv; rfl
      case h63 => unfold maxLen; omega
      case hbytes => omega
      case hbase => exact F2.out.size
      case hnext =>
        rintro v2 wr2 ho2 hg2 - -
        obtain ⟨ua, um, uc, rfl⟩ := rowsI_form ho2
        have hfr : FrS (fun k => w.heap.size ≤ k) (w2.alloc (.cells #[.int .i64 z] 3)) wr2 := ⟨hg2.os, hg2.tape, hg2.output, hg2.size, fun k hk hn => hg2.block k hk (fun h => hn (O2.out.lt k h.symm).1)⟩
        have O3 : Hid (wr2.ownsRow w.heap.size 3 1 (.slice ua um uc) (l ++ [z]).length ((l ++ [z]).map (Value.int .i64))) := by
          refine Lib.hid ?_
          rw [List.map_append, List.length_append]
          exact ho2
        have C3 := Lib.hid (C2.out.frs hfr (fun k hk => by omega))
        have F3 := Lib.hid (F2.out.trans (hfr.mono (q := fun k => k = cb ∨ w.heap.size ≤ k) (fun k hk => .inr hk)))
        clear ho2 hg2 hfr
        go_wp2_with fail
        go_roundw
        case rel => exact ⟨i + 1, l ++ [z], by go_num, by rw [List.length_append, LE.out]; rfl, by omega, O3.out, C3.out, F3.out⟩
        case measure => simp [intOf]; omega
    · have n1 : decide ((i : Int) < n) = false := by simp; omega
      go_wp2_with fail
      refine (l1Once _ cb 24 CU.out (by omega)).mono ?_
      rintro e w2 ⟨b, rfl, hc2, hg2⟩
      have s2 := hg2.size
      have O1 := Lib.hid (O.out.kept hg2 (ownI_far O.out hlt))
      have F1 := Lib.hid (FR.out.trans (FrS.of_one (p := fun k => k = cb ∨ w.heap.size ≤ k) hg2 (.inl rfl)))
      have C1 := Lib.hid hc2
      clear hc2 hg2
      cases b with
      | false =>
        go_wp2_with fail
        go_ret
        exact ⟨_, l, rfl, O1.out, by omega, C1.out, F1.out⟩
      | true =>
        have O2 := Lib.hid (O1.out.kept (World.grownBy_alloc w2 (.cells #[.int .i64 1] 3) none) (by cases (Value.slice va vm vc).ownBlock <;> simp))
        have F2 := Lib.hid (F1.out.alloc (.cells #[.int .i64 1] 3))
        have C2 := Lib.hid (C1.out.alloc (.cells #[.int .i64 1] 3))
        go_wp2_with (at_builtin; refine wpList_append_own_at _ rfl _ _ 24 rfl w.heap.size 3 fi (.int .i64 0) 1 8 underlying_ints hfi hz0 hz1 hz2 rfl (by decide) _ _ _ rfl O2.out ⟨w2.heap.size, 0, none⟩ 1 1 [.int .i64 1] ?hx ?hl ?hnews ?h1 ?h63 ?hbytes ?hbase ?hnext)
        case hx => rfl
        case hl => rfl
        case hnews => exact cellI_new _ _ _
        case h1 => intro v hv; simp at hv; subst hv; rfl
        case h63 => unfold maxLen; omega
        case hbytes => omega
        case hbase => exact F2.out.size
        case hnext =>
          rintro v2 wr2 ho2 hg2 - -
          obtain ⟨ua, um, uc, rfl⟩ := rowsI_form ho2
          have hfr : FrS (fun k => w.heap.size ≤ k) (w2.alloc (.cells #[.int .i64 1] 3)) wr2 := ⟨hg2.os, hg2.tape, hg2.output, hg2.size, fun k hk hn => hg2.block k hk (fun h => hn (O2.out.lt k h.symm).1)⟩
          have O3 : Hid (wr2.ownsRow w.heap.size 3 1 (.slice ua um uc) (l ++ [1]).length ((l ++ [1]).map (Value.int .i64))) := by
            refine Lib.hid ?_
            rw [List.map_append, List.length_append]
            exact ho2
          have C3 := Lib.hid (C2.out.frs hfr (fun k hk => by omega))
          have F3 := Lib.hid (F2.out.trans (hfr.mono (q := fun k => k = cb ∨ w.heap.size ≤ k) (fun k hk => .inr hk)))
          clear ho2 hg2 hfr
          go_wp2_with fail
          go_ret
          exact ⟨_, l ++ [1], rfl, O3.out, by rw [List.length_append]; simp; omega, C3.out, F3.out⟩
end Go.Proofs.YtcapddcmnjeloaaGreatDoor
end

section
/-
  The drawing of a square matrix and of numbers for its rows: nothing that was there changes.
-/
namespace Go.Proofs.YtcapddcmnjeloaaGreatDoor
set_option maxRecDepth 100000
open Go.RowKit
def MatRi (w : World) (e : Ending) (w' : World) : Prop := ∃ (r c : Int) (q : Option Addr) (qc : Nat) (xs : List Int) (qb : Option Addr) (qbc : Nat) (bs : List Int), e = .returned (.tuple #[.agg #[.int .i64 r, .int .i64 c, .slice q xs.length qc], .slice qb bs.length qbc]) ∧ Own w.heap.size w' (.slice q xs.length qc) xs ∧ xs.length ≤ 17 ∧ Own w.heap.size w' (.slice qb bs.length qbc) bs ∧ bs.length ≤ 31 ∧ Below w.heap.size w w'
theorem Own.far9 {B : Nat} {w : World} {v : Value} {zs : List Int} (h : Own B w v zs) {b : Nat} (hb : b < B) (x y z : Value) : Own B (((w.setCell ⟨b, 0, none⟩ x).setCell ⟨b, 1, none⟩ y).setCell ⟨b, 2, none⟩ z) v zs := ((h.far (by exact hb) _).far (by exact hb) _).far (by exact hb) _
set_option maxHeartbeats 4000000 in
theorem l11Draw (w : World) (a : Option Addr) (len cap : Nat) (hc : CodeIn w a len) : Calls Tryz.prog 34 #[.slice a len cap] w (MatRi w) := by
  have HC := Lib.hid hc
  clear hc
  go_enter Tryz.func34, Tryz.ntmps34
  go_wp2_with fail
  refine (l1New _ a len cap (HC.out.below ((Below.refl _ _).alloc (Nat.le_refl _) _))).mono ?_
  rintro e w1 ⟨cb, rfl, hcb, hc1, hb1⟩
  have CB : w.heap.size < cb := by simp at hcb; omega
  have K2 : Hid (Blk3 w1 w.heap.size 26 (.int .i64 0) (.int .i64 0) (.slice none 0 0)) := (Blk3.at_ _ _ _ _ rfl).keep hb1 (by simp)
  have F1 : Hid (FrS (fun k => w.heap.size ≤ k) w w1) := ((FrS.refl _ w).alloc _).trans (FrS.of_below hb1)
  have C1 := Lib.hid hc1
  clear hcb hc1 hb1
  go_wp2_with fail
  refine (l3SquareR _ cb C1.out).mono ?_
  rintro e w2 ⟨r, c, v, xs, rfl, own, hl, hr, hc2, hf⟩
  have s1 := F1.out.size
  have lk := K2.out.lt
  have c1 := C1.out.lt
  obtain ⟨q, qc, rfl, -, -⟩ := (own.own (by omega)).form
  have K2 := Lib.hid ((K2.out.frs hf (by omega)).old (.cells #[.int .i64 r, .int .i64 c, .slice q xs.length qc] 26))
  have F2 := Lib.hid ((F1.out.trans (hf.mono2 (q := fun k => w.heap.size ≤ k) (fun k _ hk => by omega))).alloc (.cells #[.int .i64 r, .int .i64 c, .slice q xs.length qc] 26))
  have C2 := Lib.hid (hc2.alloc (.cells #[.int .i64 r, .int .i64 c, .slice q xs.length qc] 26))
  have O2 : Hid (OwnC w1.heap.size (w2.alloc (.cells #[.int .i64 r, .int .i64 c, .slice q xs.length qc] 26)) (.slice q xs.length qc) xs) := own.frs ((FrS.refl (fun _ => False) w2).alloc _) (fun _ _ h => h)
  have K5 : Hid (Blk3 (w2.alloc (.cells #[.int .i64 r, .int .i64 c, .slice q xs.length qc] 26)) w2.heap.size 26 (.int .i64 r) (.int .i64 c) (.slice q xs.length qc)) := Blk3.at_ _ _ _ _ rfl
  have s2 := hf.size
  have HL := Lib.hid hl
  have HR := Lib.hid hr
  clear own hc2 hf hl hr
  go_upto_region 3 with fail
  obtain ⟨pb, hpb⟩ : ∃ pb, w2.heap.size = pb := ⟨_, rfl⟩
  generalize w2.alloc (.cells #[.int .i64 r, .int .i64 c, .slice q xs.length qc] 26) = W at K2 F2 C2 O2 K5 ⊢
  rw [hpb] at K5 s2 ⊢
  clear hpb
  have lW := K5.out.lt
  refine wp_region_held_drew (S := fun w' => FrS (fun k => k = cb ∨ k = w.heap.size ∨ W.heap.size ≤ k) W w') (by kernel_rfl) (FrS.refl _ _).drew (fun hH => ?_)
  refine wpAnyH_take (i := 0) (v := ?_) (by simp only [List.getElem?_toArray, List.getElem?_cons_zero]; rfl) (by kernel_rfl) (by kernel_rfl) (by kernel_rfl) (by exact fun _ _ _ h => h) (Or.inl ⟨by rfl, ?_⟩) hH ?_
  rotate_left
  · (intro wS hS; (try dsimp only at hS); obtain ⟨k1, k2, k3⟩ := sevenF K5.out hS (by omega); go_simp; try rfl)
  try simp only [Act.put, List.setIfInBounds_toArray, List.set_cons_zero, List.set_cons_succ]
  refine wpAnyH_take (i := 1) (v := ?_) (by simp only [List.getElem?_toArray, List.getElem?_cons_succ, List.getElem?_cons_zero]; rfl) (by kernel_rfl) (by kernel_rfl) (by kernel_rfl) (by exact fun _ _ _ h => h) (Or.inl ⟨by rfl, ?_⟩) hH ?_
  rotate_left
  · (intro wS hS; clear hS; go_simp; try rfl)
  try simp only [Act.put, List.setIfInBounds_toArray, List.set_cons_zero, List.set_cons_succ]
  refine wpAnyH_take (i := 2) (v := ?_) (by simp only [List.getElem?_toArray, List.getElem?_cons_succ, List.getElem?_cons_zero]; rfl) (by kernel_rfl) (by kernel_rfl) (by kernel_rfl) (by exact fun _ _ _ h => h) (Or.inl ⟨by rfl, ?_⟩) hH ?_
  rotate_left
  · (intro wS hS; clear hS; go_simp; try rfl)
  try simp only [Act.put, List.setIfInBounds_toArray, List.set_cons_zero, List.set_cons_succ]
  refine wpAnyH_take (i := 3) (v := ?_) (by simp only [List.getElem?_toArray, List.getElem?_cons_succ, List.getElem?_cons_zero]; rfl) (by kernel_rfl) (by kernel_rfl) (by kernel_rfl) (by exact fun _ _ _ h => h) (Or.inl ⟨by rfl, ?_⟩) hH ?_
  rotate_left
  · (intro wS hS; (try dsimp only at hS); obtain ⟨k1, k2, k3⟩ := sevenF K5.out hS (by omega); go_simp; try rfl)
  try simp only [Act.put, List.setIfInBounds_toArray, List.set_cons_zero, List.set_cons_succ]
  refine wpAnyH_ready (rs := [4]) (by kernel_rfl) (by simp) ?_
  refine AllReadyH.cons (by simp only [List.getElem?_toArray, List.getElem?_cons_succ, List.getElem?_cons_zero]; rfl) (fun K hK => ?_) AllReadyH.nil
  go_simp
  have CD : Cur W.drew cb := C2.out
  (with_reducible refine (l8Right _ cb _ CD HR.out).mono ?_)
  rintro e v6 ⟨v, bs, rfl, own6, hl6, hc6, hf6⟩
  obtain ⟨qb, qbc, rfl, -, -⟩ := (Own.of_row own6 (by omega)).form
  try dsimp only
  refine hK.out _ _ ?_ (fun hH2 => ?_)
  · exact hH.trans (hf6.mono (fun k hk => by have := hH.size; simp at hk ⊢; omega))
  clear hK K hH
  have hH := hH2
  clear hH2
  try simp only [Act.put, List.setIfInBounds_toArray, List.set_cons_zero, List.set_cons_succ]
  have hf7 : FrS (fun k => k = cb ∨ W.heap.size ≤ k) W v6 := ⟨hf6.os, hf6.tape, hf6.output, hf6.size, hf6.block⟩
  have s6 := hf7.size
  have K2 := Lib.hid (K2.out.frs hf7 (by omega))
  have O6 := Lib.hid (O2.out.frs2 hf7 (fun k hk hk2 => by omega))
  have L6 := Lib.hid own6
  have HL6 := Lib.hid hl6
  have C6 := Lib.hid hc6
  have F6 := Lib.hid (F2.out.trans (hf7.mono2 (q := fun k => w.heap.size ≤ k) (fun k _ hk => by omega)))
  have cW : cb < W.drew.heap.size := C2.out.lt
  clear own6 hl6 hc6 hf6 hf7
  refine wpAnyH_ready (rs := [5]) (by kernel_rfl) (by simp) ?_
  refine AllReadyH.cons (by simp only [List.getElem?_toArray, List.getElem?_cons_succ, List.getElem?_cons_zero]; rfl) (fun K hK => ?_) AllReadyH.nil
  obtain ⟨y0, y1, y2, y3, y4, y5⟩ := K2.out.all
  have FX := Lib.hid (hH.set3 (b := w.heap.size) (.inl (.inr (.inl rfl))) (.int .i64 r) (.int .i64 c) (.slice q xs.length qc))
  clear hH
  go_simp
  refine hK.out _ _ ?_ (fun hH2 => ?_)
  · exact FX.out
  clear hK K
  have hH := hH2
  clear hH2
  try simp only [Act.put, List.setIfInBounds_toArray, List.set_cons_zero, List.set_cons_succ]
  refine wpAnyH_take (i := 6) (v := ?_) (by simp only [List.getElem?_toArray, List.getElem?_cons_succ, List.getElem?_cons_zero]; rfl) (by kernel_rfl) (by kernel_rfl) (by kernel_rfl) (by exact fun _ _ _ h => h) (Or.inl ⟨by rfl, ?_⟩) hH ?_
  rotate_left
  · (intro wS hS; clear hS; go_simp; try rfl)
  try simp only [Act.put, List.setIfInBounds_toArray, List.set_cons_zero, List.set_cons_succ]
  refine wpAnyH_done (by kernel_rfl) ?_ _
  have FIN : Hid (MatRi w (.returned (.tuple #[.agg #[.int .i64 r, .int .i64 c, .slice q xs.length qc], .slice qb bs.length qbc])) (((v6.setCell ⟨w.heap.size, 0, none⟩ (.int .i64 r)).setCell ⟨w.heap.size, 1, none⟩ (.int .i64 c)).setCell ⟨w.heap.size, 2, none⟩ (.slice q xs.length qc))) := by
    have hw : w.heap.size < W.drew.heap.size := by show w.heap.size < W.heap.size; omega
    refine ⟨r, c, q, qc, xs, qb, qbc, bs, rfl, ((O6.out.out3 K2.out (.int .i64 r) (.int .i64 c) (.slice q xs.length qc)).own (by have := HL.out; omega)).le (by omega), HL.out, ?_, HL6.out, ?_⟩
    · exact ((Own.of_row L6.out (by have := HL6.out; omega)).far9 hw _ _ _).le (Nat.le_of_lt hw)
    · exact (((F6.out.below (fun k hk => hk) (Nat.le_refl _)).setCell (Nat.le_refl _) _).setCell (Nat.le_refl _) _).setCell (Nat.le_refl _) _
  obtain ⟨E0, E1, E2, -, -, -⟩ := (K2.out.set3 (.int .i64 r) (.int .i64 c) (.slice q xs.length qc)).all
  go_wp2_with fail
  all_goals exact bodyPost_ret (v := .tuple #[.agg #[.int .i64 r, .int .i64 c, .slice q xs.length qc], .slice qb bs.length qbc]) (by simp [results, Tryz.results34, go_sem, E0, E1, E2]) rfl FIN.out
end Go.Proofs.YtcapddcmnjeloaaGreatDoor
end

section
/-
  Chapter 11, the model's draw for SolveByLifting.
-/
namespace Go.Proofs.YtcapddcmnjeloaaGreatDoor
set_option maxRecDepth 100000
open Go.RowKit
theorem drawSl (w : World) (a : Option Addr) (len cap : Nat) (hc : CodeIn w a len) : Calls Tryz.prog 15 #[.slice a len cap] w (MatRi w) := by
  have HC := Lib.hid hc
  clear hc
  go_enter Tryz.func15, Tryz.ntmps15
  go_wp2_with fail
  refine (l11Draw _ a len cap (HC.out.below ((Below.refl _ _).alloc (Nat.le_refl _) _))).mono ?_
  rintro e w1 ⟨r, c, q, qc, xs, qb, qbc, bs, rfl, o1, l1, o2, l2, hb⟩
  have K : Hid (Blk3 w1 w.heap.size 26 (.int .i64 0) (.int .i64 0) (.slice none 0 0)) := (Blk3.at_ _ _ _ _ rfl).keep hb (by simp)
  have B : Hid (Below w.heap.size w w1) := ((Below.refl _ _).alloc (Nat.le_refl _) _).trans (hb.mono (by simp))
  have O1 := Lib.hid o1
  have O2 := Lib.hid o2
  have L1 := Lib.hid l1
  have L2 := Lib.hid l2
  clear hb o1 o2 l1 l2
  obtain ⟨y0, y1, y2, y3, y4, y5⟩ := K.out.all
  have hw : w.heap.size < (w.alloc (.cells #[.int .i64 0, .int .i64 0, .slice none 0 0] 26)).heap.size := by simp
  have FIN : Hid (MatRi w (.returned (.tuple #[.agg #[.int .i64 r, .int .i64 c, .slice q xs.length qc], .slice qb bs.length qbc])) (((w1.setCell ⟨w.heap.size, 0, none⟩ (.int .i64 r)).setCell ⟨w.heap.size, 1, none⟩ (.int .i64 c)).setCell ⟨w.heap.size, 2, none⟩ (.slice q xs.length qc))) := by
    refine ⟨r, c, q, qc, xs, qb, qbc, bs, rfl, (O1.out.far9 hw _ _ _).le (by simp), L1.out, (O2.out.far9 hw _ _ _).le (by simp), L2.out, ?_⟩
    exact ((B.out.setCell (Nat.le_refl _) _).setCell (Nat.le_refl _) _).setCell (Nat.le_refl _) _
  go_wp2_with fail
  obtain ⟨E0, E1, E2, -, -, -⟩ := (K.out.set3 (.int .i64 r) (.int .i64 c) (.slice q xs.length qc)).all
  exact bodyPost_ret (v := .tuple #[.agg #[.int .i64 r, .int .i64 c, .slice q xs.length qc], .slice qb bs.length qbc]) (by simp [results, Tryz.results15, go_sem, E0, E1, E2]) rfl FIN.out
end Go.Proofs.YtcapddcmnjeloaaGreatDoor
end

section
/-
  Plain mathematics: finite sums. Nothing of a program is used.
-/
namespace Go.Proofs.YtcapddcmnjeloaaGreatDoor
def sumN : Nat → (Nat → Int) → Int
  | 0, _ => 0
  | n + 1, f => sumN n f + f n
theorem sumN_congr {n : Nat} {f g : Nat → Int} (h : ∀ k : Nat, k < n → f k = g k) : sumN n f = sumN n g := by
  induction n with
  | zero => rfl
  | succ n ih =>
    show sumN n f + f n = sumN n g + g n
    rw [ih (fun k hk => h k (by omega)), h n (by omega)]
theorem sumN_add (n : Nat) (f g : Nat → Int) : sumN n (fun k => f k + g k) = sumN n f + sumN n g := by
  induction n with
  | zero => rfl
  | succ n ih =>
    show sumN n (fun k => f k + g k) + (f n + g n) = (sumN n f + f n) + (sumN n g + g n)
    rw [ih]; omega
theorem sumN_mul (n : Nat) (f : Nat → Int) (z : Int) : sumN n f * z = sumN n (fun k => f k * z) := by
  induction n with
  | zero => exact Int.zero_mul z
  | succ n ih =>
    show (sumN n f + f n) * z = sumN n (fun k => f k * z) + f n * z
    rw [Int.add_mul, ih]
theorem sumN_mul_left (n : Nat) (f : Nat → Int) (z : Int) : z * sumN n f = sumN n (fun k => z * f k) := by
  rw [Int.mul_comm, sumN_mul]
  exact sumN_congr fun k _ => Int.mul_comm _ _
theorem sumN_zero (n : Nat) : sumN n (fun _ => 0) = 0 := by
  induction n with
  | zero => rfl
  | succ n ih => show sumN n (fun _ => 0) + 0 = 0; rw [ih]; rfl
theorem sumN_swap (m n : Nat) (f : Nat → Nat → Int) : sumN m (fun i => sumN n (fun j => f i j)) = sumN n (fun j => sumN m (fun i => f i j)) := by
  induction m with
  | zero => exact (sumN_zero n).symm
  | succ m ih =>
    show sumN m (fun i => sumN n (fun j => f i j)) + sumN n (fun j => f m j) = sumN n (fun j => sumN m (fun i => f i j) + f m j)
    rw [ih, sumN_add]
end Go.Proofs.YtcapddcmnjeloaaGreatDoor
end

section
/-
  Plain mathematics of chapter 8: residues. Nothing of a program is used.
-/
namespace Go.Proofs.YtcapddcmnjeloaaGreatDoor
def Cg (p a b : Int) : Prop := p ∣ a - b
theorem Cg.refl (p a : Int) : Cg p a a := ⟨0, by omega⟩
theorem Cg.of_eq {p a b : Int} (h : a = b) : Cg p a b := h ▸ Cg.refl p a
theorem Cg.symm {p a b : Int} (h : Cg p a b) : Cg p b a := by
  obtain ⟨k, hk⟩ := h
  exact ⟨-k, by rw [Int.mul_neg, ← hk]; omega⟩
theorem Cg.trans {p a b c : Int} (h : Cg p a b) (h' : Cg p b c) : Cg p a c := by
  obtain ⟨k, hk⟩ := h
  obtain ⟨l, hl⟩ := h'
  exact ⟨k + l, by rw [Int.mul_add, ← hk, ← hl]; omega⟩
theorem Cg.add {p a b c d : Int} (h : Cg p a b) (h' : Cg p c d) : Cg p (a + c) (b + d) := by
  obtain ⟨k, hk⟩ := h
  obtain ⟨l, hl⟩ := h'
  exact ⟨k + l, by rw [Int.mul_add, ← hk, ← hl]; omega⟩
theorem Cg.neg {p a b : Int} (h : Cg p a b) : Cg p (-a) (-b) := by
  obtain ⟨k, hk⟩ := h
  exact ⟨-k, by rw [Int.mul_neg, ← hk]; omega⟩
theorem Cg.sub {p a b c d : Int} (h : Cg p a b) (h' : Cg p c d) : Cg p (a - c) (b - d) := by
  obtain ⟨k, hk⟩ := h
  obtain ⟨l, hl⟩ := h'
  exact ⟨k - l, by rw [Int.mul_sub, ← hk, ← hl]; omega⟩
theorem Cg.mul {p a b c d : Int} (h : Cg p a b) (h' : Cg p c d) : Cg p (a * c) (b * d) := by
  obtain ⟨k, hk⟩ := h
  obtain ⟨l, hl⟩ := h'
  refine ⟨k * c + b * l, ?_⟩
  have e1 : a = b + p * k := by omega
  have e2 : c = d + p * l := by omega
  rw [e1, e2]
  grind
theorem Cg.mul_left {p a b : Int} (x : Int) (h : Cg p a b) : Cg p (x * a) (x * b) := (Cg.refl p x).mul h
theorem Cg.emod (p a : Int) : Cg p (a % p) a := ⟨-(a / p), by rw [Int.emod_def, Int.mul_neg]; omega⟩
theorem Cg.eq {p a b : Int} (ha : 0 ≤ a ∧ a < p) (hb : 0 ≤ b ∧ b < p) (h : Cg p a b) : a = b := by
  obtain ⟨k, hk⟩ := h
  have hp : 0 < p := by omega
  have h1 : a - b < p := by omega
  have h2 : -p < a - b := by omega
  rw [hk] at h1 h2
  have h3 : k < 1 := Int.lt_of_mul_lt_mul_left (a := p) (by rw [Int.mul_one]; exact h1) (by omega)
  have h4 : -1 < k := Int.lt_of_mul_lt_mul_left (a := p) (by rw [Int.mul_neg, Int.mul_one]; exact h2) (by omega)
  obtain rfl : k = 0 := by omega
  rw [Int.mul_zero] at hk
  omega
theorem Cg.zero {p a : Int} : Cg p a 0 ↔ p ∣ a := by unfold Cg; rw [Int.sub_zero]
theorem Cg.of_emod {p a b : Int} (h : a % p = b % p) : Cg p a b := ((Cg.emod p a).symm.trans (Cg.of_eq h)).trans (Cg.emod p b)
theorem Cg.emod_eq {p a b : Int} (hp : 0 < p) (h : Cg p a b) : a % p = b % p :=
  Cg.eq ⟨Int.emod_nonneg _ (by omega), Int.emod_lt_of_pos _ hp⟩ ⟨Int.emod_nonneg _ (by omega), Int.emod_lt_of_pos _ hp⟩ (((Cg.emod p a).trans h).trans (Cg.emod p b).symm)
theorem Cg.sum {p : Int} {n : Nat} {f g : Nat → Int} (h : ∀ i, i < n → Cg p (f i) (g i)) : Cg p (sumN n f) (sumN n g) := by
  induction n with
  | zero => exact Cg.refl _ _
  | succ n ih => exact (ih fun i hi => h i (by omega)).add (h n (by omega))
def Prm (p : Int) : Prop := 2 ≤ p ∧ ∀ d : Int, 2 ≤ d → d * d ≤ p → ¬ d ∣ p
theorem Prm.div {p d : Int} (h : Prm p) (hd : 0 < d) (h1 : d ∣ p) : d = 1 ∨ d = p := by
  obtain ⟨e, he⟩ := h1
  obtain ⟨h2, h3⟩ := h
  have e0 : 0 < e := by
    have : 0 < d * e := by omega
    exact Int.pos_of_mul_pos_right this hd
  by_cases d1 : d = 1
  · exact .inl d1
  · by_cases e1 : e = 1
    · rw [e1, Int.mul_one] at he; exact .inr he.symm
    · exfalso
      rcases Int.lt_or_le e d with hl | hl
      · refine h3 e (by omega) ?_ ⟨d, by rw [he, Int.mul_comm]⟩
        rw [he]
        exact Int.mul_le_mul_of_nonneg_right (by omega) (by omega)
      · refine h3 d (by omega) ?_ ⟨e, he⟩
        rw [he]
        exact Int.mul_le_mul_of_nonneg_left hl (by omega)
theorem Prm.gcd {p a : Int} (h : Prm p) (ha : ¬ p ∣ a) : (a.gcd p : Int) = 1 := by
  have h0 : 0 < (a.gcd p : Int) := by
    have := Int.gcd_pos_of_ne_zero_right a (show p ≠ 0 by have := h.1; omega)
    omega
  rcases h.div h0 (Int.gcd_dvd_right ..) with e | e
  · exact e
  · exact absurd (by have := Int.gcd_dvd_left a p; rw [e] at this; exact this) ha
theorem Prm.mul {p a b : Int} (h : Prm p) (hd : p ∣ a * b) : p ∣ a ∨ p ∣ b := by
  by_cases ha : p ∣ a
  · exact .inl ha
  · right
    have hg := h.gcd ha
    have hc : Nat.Coprime p.natAbs a.natAbs := by
      unfold Nat.Coprime
      rw [Nat.gcd_comm]
      have : a.gcd p = Nat.gcd a.natAbs p.natAbs := rfl
      omega
    have h1 : p.natAbs ∣ a.natAbs * b.natAbs := by
      rw [← Int.natAbs_mul]
      exact Int.natAbs_dvd_natAbs.mpr hd
    exact Int.natAbs_dvd_natAbs.mp (hc.dvd_of_dvd_mul_left h1)
theorem Prm.cancel {p a x y : Int} (h : Prm p) (ha : ¬ p ∣ a) (hc : Cg p (a * x) (a * y)) : Cg p x y := by
  have h1 : p ∣ a * (x - y) := by rw [Int.mul_sub]; exact hc
  exact (h.mul h1).resolve_left ha
theorem Prm.one {p : Int} (h : Prm p) : ¬ p ∣ 1 := fun hd => by
  have := Int.le_of_dvd (by decide) hd
  have := h.1
  omega
def InvP (p a x : Int) : Prop := Cg p (a * x) 1
theorem InvP.ne {p a x : Int} (hp : Prm p) (h : InvP p a x) : ¬ p ∣ a := fun hd => by
  refine hp.one ?_
  have h1 : Cg p (a * x) 0 := Cg.zero.mpr (Int.dvd_trans hd (Int.dvd_mul_right _ _))
  exact Cg.zero.mp (h.symm.trans h1)
theorem InvP.uniq {p a x y : Int} (hp : Prm p) (h : InvP p a x) (h' : InvP p a y) : Cg p x y := hp.cancel (h.ne hp) (h.trans h'.symm)
end Go.Proofs.YtcapddcmnjeloaaGreatDoor
end

section
/-
  Determinants: expansion along the first column; linear in each row; 0 where two rows are equal. Plain mathematics: nothing of a program is used.
-/
namespace Go.Proofs.YtcapddcmnjeloaaGreatDoor
theorem sumN_first (n : Nat) (f : Nat → Int) : sumN (n + 1) f = f 0 + sumN n (fun i => f (i + 1)) := by
  induction n with
  | zero => show 0 + f 0 = f 0 + 0; omega
  | succ n ih =>
    show sumN (n + 1) f + f (n + 1) = f 0 + (sumN n (fun i => f (i + 1)) + f (n + 1))
    rw [ih]; omega
theorem sumN_all_zero {n : Nat} {f : Nat → Int} (h : ∀ k, k < n → f k = 0) : sumN n f = 0 := by
  rw [sumN_congr h]; exact sumN_zero n
theorem sumN_one {n a : Nat} {f : Nat → Int} (ha : a < n) (h : ∀ k, k < n → k ≠ a → f k = 0) : sumN n f = f a := by
  induction n with
  | zero => omega
  | succ n ih =>
    show sumN n f + f n = f a
    rcases Nat.lt_or_ge a n with h1 | h1
    · rw [ih h1 (fun k hk hne => h k (by omega) hne), h n (by omega) (by omega)]; omega
    · obtain rfl : a = n := by omega
      rw [sumN_all_zero (fun k hk => h k (by omega) (by omega))]; omega
theorem sumN_two {n a b : Nat} {f : Nat → Int} (ha : a < b) (hb : b < n) (h : ∀ k, k < n → k ≠ a → k ≠ b → f k = 0) : sumN n f = f a + f b := by
  have e : sumN n f = sumN n (fun k => (if k = a then f a else 0) + (if k = b then f b else 0)) := by
    refine sumN_congr fun k hk => ?_
    by_cases h1 : k = a
    · subst h1; rw [if_pos rfl, if_neg (by omega)]; omega
    · by_cases h2 : k = b
      · subst h2; rw [if_neg h1, if_pos rfl]; omega
      · rw [if_neg h1, if_neg h2, h k hk h1 h2]; rfl
  rw [e, sumN_add, sumN_one (a := a) (by omega) (fun k _ hk => if_neg hk), sumN_one (a := b) hb (fun k _ hk => if_neg hk), if_pos rfl, if_pos rfl]
def sg (k : Nat) : Int := if k % 2 = 0 then 1 else -1
theorem sg_zero : sg 0 = 1 := rfl
theorem sg_succ (k : Nat) : sg (k + 1) = -sg k := by
  unfold sg
  by_cases h : k % 2 = 0
  · rw [if_pos h, if_neg (by omega)]
  · rw [if_neg h, if_pos (by omega)]; rfl
theorem sg_add (a b : Nat) : sg (a + b) = sg a * sg b := by
  induction b with
  | zero => rw [Nat.add_zero, sg_zero, Int.mul_one]
  | succ b ih => rw [← Nat.add_assoc, sg_succ, sg_succ, ih, Int.mul_neg]
theorem sg_sq (a : Nat) : sg a * sg a = 1 := by
  unfold sg
  split <;> rfl
def skp (j k : Nat) : Nat := if k < j then k else k + 1
def unskp (j k : Nat) : Nat := if k < j then k else k - 1
theorem skp_ne (j k : Nat) : skp j k ≠ j := by unfold skp; split <;> omega
theorem skp_lt {j k n : Nat} (h : k < n) : skp j k < n + 1 := by unfold skp; split <;> omega
theorem skp_unskp {j k : Nat} (h : k ≠ j) : skp j (unskp j k) = k := by
  unfold skp unskp
  by_cases h1 : k < j
  · rw [if_pos h1, if_pos h1]
  · rw [if_neg h1, if_neg (by omega)]; omega
theorem unskp_skp (j k : Nat) : unskp j (skp j k) = k := by
  unfold skp unskp
  by_cases h1 : k < j
  · rw [if_pos h1, if_pos h1]
  · rw [if_neg h1, if_neg (by omega)]; omega
theorem unskp_lt {j k n : Nat} (h : k ≠ j) (hk : k < n + 1) (hj : j < n + 1) : unskp j k < n := by unfold unskp; split <;> omega
theorem skp_zero (k : Nat) : skp 0 k = k + 1 := by unfold skp; rw [if_neg (by omega)]
theorem skp_succ (j k : Nat) : skp (j + 1) (k + 1) = skp j k + 1 := by
  unfold skp
  by_cases h : k < j
  · rw [if_pos h, if_pos (by omega)]
  · rw [if_neg h, if_neg (by omega)]
theorem skp_first (j : Nat) (h : 0 < j) : skp j 0 = 0 := by unfold skp; rw [if_pos h]
abbrev Mx : Type := Nat → Nat → Int
def EqX (n : Nat) (A B : Mx) : Prop := ∀ r c, r < n → c < n → A r c = B r c
def mnr (A : Mx) (i j : Nat) : Mx := fun r c => A (skp i r) (skp j c)
def stR (A : Mx) (r : Nat) (v : Nat → Int) : Mx := fun i j => if i = r then v j else A i j
theorem stR_at (A : Mx) (r : Nat) (v : Nat → Int) (c : Nat) : stR A r v r c = v c := if_pos rfl
theorem stR_ne (A : Mx) (r i : Nat) (v : Nat → Int) (c : Nat) (h : i ≠ r) : stR A r v i c = A i c := if_neg h
theorem stR_self (A : Mx) (r : Nat) : stR A r (A r) = A := by
  funext i j
  unfold stR
  split
  · rename_i h; rw [h]
  · rfl
theorem EqX.mnr {n i j : Nat} {A B : Mx} (h : EqX (n + 1) A B) : EqX n (mnr A i j) (mnr B i j) := fun _ _ hr hc => h _ _ (skp_lt hr) (skp_lt hc)
def det : Nat → Mx → Int
  | 0, _ => 1
  | n + 1, A => sumN (n + 1) fun i => sg i * A i 0 * det n (mnr A i 0)
theorem det_succ (n : Nat) (A : Mx) : det (n + 1) A = sumN (n + 1) fun i => sg i * A i 0 * det n (mnr A i 0) := rfl
theorem det_congr {n : Nat} {A B : Mx} (h : EqX n A B) : det n A = det n B := by
  induction n generalizing A B with
  | zero => rfl
  | succ n ih =>
    rw [det_succ, det_succ]
    refine sumN_congr fun i hi => ?_
    rw [h i 0 hi (by omega), ih h.mnr]
theorem mnr_stR_same (A : Mx) (r j : Nat) (v : Nat → Int) : mnr (stR A r v) r j = mnr A r j := by
  funext i c
  exact stR_ne A r _ v _ (skp_ne r i)
theorem mnr_stR (A : Mx) (i r j : Nat) (v : Nat → Int) (h : r ≠ i) : mnr (stR A r v) i j = stR (mnr A i j) (unskp i r) (fun c => v (skp j c)) := by
  funext k c
  show (if skp i k = r then v (skp j c) else A (skp i k) (skp j c)) = if k = unskp i r then v (skp j c) else A (skp i k) (skp j c)
  by_cases e : k = unskp i r
  · rw [if_pos e, if_pos (by rw [e]; exact skp_unskp h)]
  · rw [if_neg e, if_neg (fun e2 => e (by rw [← e2, unskp_skp]))]
def Loc (n : Nat) (f : Mx → Int) : Prop := ∀ A B, EqX n A B → f A = f B
def Lin (n : Nat) (f : Mx → Int) : Prop := ∀ (A : Mx) (r : Nat) (u v : Nat → Int) (x y : Int), r < n → f (stR A r fun c => x * u c + y * v c) = x * f (stR A r u) + y * f (stR A r v)
def AltAt (n r s : Nat) (f : Mx → Int) : Prop := ∀ A, (∀ c, c < n → A r c = A s c) → f A = 0
def Alt (n : Nat) (f : Mx → Int) : Prop := ∀ r s, r < s → s < n → AltAt n r s f
theorem det_loc (n : Nat) : Loc n (det n) := fun _ _ h => det_congr h
theorem det_lin (n : Nat) : Lin n (det n) := by
  induction n with
  | zero => intro A r u v x y hr; omega
  | succ n ih =>
    intro A r u v x y hr
    rw [det_succ, det_succ, det_succ, sumN_mul_left, sumN_mul_left, ← sumN_add]
    refine sumN_congr fun i hi => ?_
    by_cases h : i = r
    · subst h
      rw [stR_at, stR_at, stR_at, mnr_stR_same, mnr_stR_same, mnr_stR_same]
      generalize det n (mnr A i 0) = d
      generalize sg i = s
      grind
    · rw [stR_ne _ _ _ _ _ h, stR_ne _ _ _ _ _ h, stR_ne _ _ _ _ _ h, mnr_stR _ _ _ _ _ (Ne.symm h), mnr_stR _ _ _ _ _ (Ne.symm h), mnr_stR _ _ _ _ _ (Ne.symm h)]
      rw [ih (mnr A i 0) (unskp i r) (fun c => u (skp 0 c)) (fun c => v (skp 0 c)) x y (unskp_lt (Ne.symm h) hr hi)]
      generalize det n (stR (mnr A i 0) (unskp i r) fun c => u (skp 0 c)) = d
      generalize det n (stR (mnr A i 0) (unskp i r) fun c => v (skp 0 c)) = e
      generalize sg i = s
      grind
theorem det_adj (n : Nat) : ∀ r, r + 1 < n → AltAt n r (r + 1) (det n) := by
  induction n with
  | zero => intro r hr; omega
  | succ n ih =>
    intro r hr A hA
    rw [det_succ, sumN_two (a := r) (b := r + 1) (by omega) hr]
    · have e : EqX n (mnr A (r + 1) 0) (mnr A r 0) := fun k c hk hc => by
        show A (skp (r + 1) k) (skp 0 c) = A (skp r k) (skp 0 c)
        by_cases h : k = r
        · subst h
          have e1 : skp (k + 1) k = k := by unfold skp; rw [if_pos (by omega)]
          have e2 : skp k k = k + 1 := by unfold skp; rw [if_neg (by omega)]
          rw [e1, e2]
          exact hA _ (skp_lt hc)
        · have e1 : skp (r + 1) k = skp r k := by
            unfold skp
            by_cases h1 : k < r
            · rw [if_pos h1, if_pos (by omega)]
            · rw [if_neg h1, if_neg (by omega)]
          rw [e1]
      rw [det_congr e, sg_succ, hA 0 (by omega)]
      generalize det n (mnr A r 0) = d
      generalize sg r = s
      grind
    · intro i hi h1 h2
      have hz : det n (mnr A i 0) = 0 := by
        rcases Nat.lt_or_ge i r with h | h
        · refine ih (r - 1) (by omega) _ fun c hc => ?_
          show A (skp i (r - 1)) (skp 0 c) = A (skp i (r - 1 + 1)) (skp 0 c)
          have e1 : skp i (r - 1) = r := by unfold skp; rw [if_neg (by omega)]; omega
          have e2 : skp i (r - 1 + 1) = r + 1 := by unfold skp; rw [if_neg (by omega)]; omega
          rw [e1, e2]
          exact hA _ (skp_lt hc)
        · refine ih r (by omega) _ fun c hc => ?_
          show A (skp i r) (skp 0 c) = A (skp i (r + 1)) (skp 0 c)
          have e1 : skp i r = r := by unfold skp; rw [if_pos (by omega)]
          have e2 : skp i (r + 1) = r + 1 := by unfold skp; rw [if_pos (by omega)]
          rw [e1, e2]
          exact hA _ (skp_lt hc)
      rw [hz, Int.mul_zero]
def swR (A : Mx) (r s : Nat) : Mx := fun i j => if i = r then A s j else if i = s then A r j else A i j
theorem swap_of {n r s : Nat} {f : Mx → Int} (hl : Lin n f) (ha : AltAt n r s f) (hrs : r ≠ s) (hr : r < n) (hs : s < n) (A : Mx) : f (swR A r s) = -f A := by
  have L1 : ∀ (A : Mx) (q : Nat) (u v : Nat → Int), q < n → f (stR A q fun c => u c + v c) = f (stR A q u) + f (stR A q v) := fun A q u v hq => by
    have := hl A q u v 1 1 hq
    simp only [Int.one_mul] at this
    exact this
  have ee : ∀ u : Nat → Int, f (stR (stR A r u) s u) = 0 := fun u => ha _ fun c _ => by
    rw [stR_at, stR_ne _ _ _ _ _ hrs, stR_at]
  have h0 := ee (fun c => A r c + A s c)
  rw [L1 _ s _ _ hs] at h0
  have c1 : ∀ u v : Nat → Int, stR (stR A r u) s v = stR (stR A s v) r u := fun u v => by
    funext i j
    unfold stR
    by_cases h1 : i = s
    · subst h1; rw [if_pos rfl, if_neg (Ne.symm hrs), if_pos rfl]
    · rw [if_neg h1]
      by_cases h2 : i = r
      · rw [if_pos h2, if_pos h2]
      · rw [if_neg h2, if_neg h2, if_neg h1]
  rw [c1, c1, L1 _ r _ _ hr, L1 _ r _ _ hr, ← c1, ← c1, ← c1, ← c1, ee, ee] at h0
  have e1 : stR (stR A r (A r)) s (A s) = A := by rw [stR_self, stR_self]
  have e2 : stR (stR A r (A s)) s (A r) = swR A r s := by
    funext i j
    unfold stR swR
    by_cases h1 : i = s
    · subst h1; rw [if_pos rfl, if_neg (Ne.symm hrs), if_pos rfl]
    · rw [if_neg h1, if_neg h1]
  rw [e1, e2] at h0
  omega
theorem det_alt (n : Nat) : Alt n (det n) := by
  have key : ∀ d r, r + d + 1 < n → AltAt n r (r + d + 1) (det n) := by
    intro d
    induction d with
    | zero => intro r hr; exact det_adj n r hr
    | succ d ih =>
      intro r hr A hA
      have h1 := swap_of (det_lin n) (det_adj n (r + d + 1) hr) (by omega) (by omega) hr A
      have h2 := ih r (by omega) (swR A (r + d + 1) (r + d + 1 + 1)) fun c hc => by
        unfold swR
        rw [if_neg (by omega), if_neg (by omega), if_pos rfl]
        exact hA c hc
      rw [h2] at h1
      omega
  intro r s hrs hs
  obtain ⟨d, rfl⟩ : ∃ d, s = r + d + 1 := ⟨s - r - 1, by omega⟩
  exact key d r hs
theorem alt_at {n r s : Nat} {f : Mx → Int} (ha : Alt n f) (hrs : r ≠ s) (hr : r < n) (hs : s < n) : AltAt n r s f := by
  rcases Nat.lt_or_ge r s with h | h
  · exact ha r s h hs
  · exact fun A hA => ha s r (by omega) hr A fun c hc => (hA c hc).symm
theorem alt_swap {n r s : Nat} {f : Mx → Int} (hl : Lin n f) (ha : Alt n f) (hrs : r ≠ s) (hr : r < n) (hs : s < n) (A : Mx) : f (swR A r s) = -f A :=
  swap_of hl (alt_at ha hrs hr hs) hrs hr hs A
theorem lin_zero {n r : Nat} {f : Mx → Int} (hl : Lin n f) (hr : r < n) (A : Mx) : f (stR A r fun _ => 0) = 0 := by
  have := hl A r (fun _ => 0) (fun _ => 0) 0 0 hr
  simp only [Int.zero_mul, Int.add_zero] at this
  exact this
theorem lin_sum {n r : Nat} {f : Mx → Int} (hl : Lin n f) (hr : r < n) (A : Mx) (m : Nat) (x : Nat → Int) (u : Nat → Nat → Int) :
    f (stR A r fun c => sumN m fun k => x k * u k c) = sumN m fun k => x k * f (stR A r (u k)) := by
  induction m with
  | zero => exact lin_zero hl hr A
  | succ m ih =>
    have := hl A r (fun c => sumN m fun k => x k * u k c) (u m) 1 (x m) hr
    simp only [Int.one_mul] at this
    show f (stR A r fun c => (sumN m fun k => x k * u k c) + x m * u m c) = _
    rw [this, ih]
    rfl
theorem alt_add {n r s : Nat} {f : Mx → Int} (hl : Lin n f) (ha : Alt n f) (hrs : r ≠ s) (hr : r < n) (hs : s < n) (A : Mx) (x : Int) : f (stR A r fun c => A r c + x * A s c) = f A := by
  have := hl A r (A r) (A s) 1 x hr
  simp only [Int.one_mul] at this
  rw [this, stR_self, alt_at ha hrs hr hs (stR A r (A s)) (fun c _ => by rw [stR_at, stR_ne _ _ _ _ _ (Ne.symm hrs)])]
  omega
end Go.Proofs.YtcapddcmnjeloaaGreatDoor
end

section
/-
  Determinants: expansion along any row and column; turned over; of products; the adjugate. Plain mathematics: nothing of a program is used.
-/
namespace Go.Proofs.YtcapddcmnjeloaaGreatDoor
def ej (j c : Nat) : Int := if c = j then 1 else 0
def idX : Mx := fun r c => if r = c then 1 else 0
def trX (A : Mx) : Mx := fun r c => A c r
def mulX (n : Nat) (A B : Mx) : Mx := fun i j => sumN n fun k => A i k * B k j
theorem ej_self (j : Nat) : ej j j = 1 := if_pos rfl
theorem ej_ne {j c : Nat} (h : c ≠ j) : ej j c = 0 := if_neg h
theorem mnr_mnr (A : Mx) (i j : Nat) : mnr (mnr A (i + 1) 0) 0 j = mnr (mnr A 0 (j + 1)) i 0 := by
  funext r c
  show A (skp (i + 1) (skp 0 r)) (skp 0 (skp j c)) = A (skp 0 (skp i r)) (skp (j + 1) (skp 0 c))
  rw [skp_zero, skp_zero, skp_zero, skp_zero, skp_succ, skp_succ]
theorem det_unit (n : Nat) : ∀ (A : Mx) (j : Nat), j < n + 1 → det (n + 1) (stR A 0 (ej j)) = sg j * det n (mnr A 0 j) := by
  induction n with
  | zero =>
    intro A j hj
    obtain rfl : j = 0 := by omega
    rw [det_succ]
    show 0 + sg 0 * stR A 0 (ej 0) 0 0 * 1 = sg 0 * 1
    rw [stR_at, ej_self]
    omega
  | succ n ih =>
    intro A j hj
    rw [det_succ, sumN_first]
    cases j with
    | zero =>
      rw [mnr_stR_same, stR_at, ej_self, sumN_all_zero]
      · rw [Int.add_zero, Int.mul_one]
      · intro i hi
        rw [mnr_stR _ _ _ _ _ (by omega)]
        have e : unskp (i + 1) 0 = 0 := by unfold unskp; rw [if_pos (by omega)]
        have e2 : (fun c => ej 0 (skp 0 c)) = fun _ => 0 := by
          funext c
          exact ej_ne (skp_ne 0 c)
        rw [e, e2, lin_zero (det_lin (n + 1)) (by omega), Int.mul_zero]
    | succ j =>
      rw [stR_at, ej_ne (by omega), Int.mul_zero, Int.zero_mul, Int.zero_add, det_succ, sumN_mul_left]
      refine sumN_congr fun i hi => ?_
      rw [stR_ne _ _ _ _ _ (by omega), mnr_stR _ _ _ _ _ (by omega)]
      have e : unskp (i + 1) 0 = 0 := by unfold unskp; rw [if_pos (by omega)]
      have e2 : (fun c => ej (j + 1) (skp 0 c)) = ej j := by
        funext c
        rw [skp_zero]
        unfold ej
        by_cases h : c = j
        · rw [if_pos h, if_pos (by omega)]
        · rw [if_neg h, if_neg (by omega)]
      rw [e, e2, ih _ j (by omega), mnr_mnr, sg_succ, sg_succ]
      have e3 : mnr A 0 (j + 1) i 0 = A (i + 1) 0 := by
        show A (skp 0 i) (skp (j + 1) 0) = _
        rw [skp_zero, skp_first _ (by omega)]
      rw [e3]
      generalize det n (mnr (mnr A 0 (j + 1)) i 0) = d
      generalize A (i + 1) 0 = a
      generalize sg i = s
      generalize sg j = t
      grind
theorem row_sum (n : Nat) (v : Nat → Int) (c : Nat) (hc : c < n) : v c = sumN n fun k => v k * ej k c := by
  rw [sumN_one (a := c) hc (fun k _ hk => by rw [ej_ne (Ne.symm hk), Int.mul_zero]), ej_self, Int.mul_one]
theorem row_split {n r : Nat} {f : Mx → Int} (hl : Lin n f) (ho : Loc n f) (hr : r < n) (A : Mx) : f A = sumN n fun j => A r j * f (stR A r (ej j)) := by
  rw [← lin_sum hl hr A n (A r) ej]
  refine ho _ _ fun i c hi hc => ?_
  unfold stR
  by_cases h : i = r
  · rw [if_pos h, h]
    exact row_sum n (A r) c hc
  · rw [if_neg h]
theorem det_row (n : Nat) (A : Mx) : det (n + 1) A = sumN (n + 1) fun j => sg j * A 0 j * det n (mnr A 0 j) := by
  rw [row_split (det_lin (n + 1)) (det_loc (n + 1)) (r := 0) (by omega)]
  refine sumN_congr fun j hj => ?_
  rw [det_unit n A j hj]
  generalize det n (mnr A 0 j) = d
  generalize sg j = s
  grind
theorem mnr_trX (A : Mx) (i j : Nat) : mnr (trX A) i j = trX (mnr A j i) := rfl
theorem det_tr (n : Nat) : ∀ A : Mx, det n (trX A) = det n A := by
  induction n with
  | zero => intro A; rfl
  | succ n ih =>
    intro A
    rw [det_succ, det_row]
    refine sumN_congr fun i _ => ?_
    rw [mnr_trX, ih]
    rfl
theorem det_id (n : Nat) : det n idX = 1 := by
  induction n with
  | zero => rfl
  | succ n ih =>
    rw [det_succ, sumN_one (a := 0) (by omega)]
    · have e : mnr idX 0 0 = idX := by
        funext r c
        show (if skp 0 r = skp 0 c then (1 : Int) else 0) = if r = c then 1 else 0
        rw [skp_zero, skp_zero]
        by_cases h : r = c
        · rw [if_pos h, if_pos (by omega)]
        · rw [if_neg h, if_neg (by omega)]
      rw [e, ih]; rfl
    · intro i _ hi
      have : idX i 0 = 0 := if_neg hi
      rw [this, Int.mul_zero, Int.zero_mul]
def insX (j : Nat) (N : Mx) : Mx := fun r c => if r = 0 then ej j c else if c = j then 0 else N (r - 1) (unskp j c)
theorem insX_row (j : Nat) (N : Mx) (r c : Nat) : insX j N (r + 1) c = if c = j then 0 else N r (unskp j c) := rfl
theorem insX_stR (j : Nat) (N : Mx) (r : Nat) (v : Nat → Int) : insX j (stR N r v) = stR (insX j N) (r + 1) (fun c => if c = j then 0 else v (unskp j c)) := by
  funext i c
  cases i with
  | zero =>
    rw [stR_ne _ _ _ _ _ (by omega)]
    rfl
  | succ i =>
    show (if c = j then 0 else stR N r v i (unskp j c)) = if i + 1 = r + 1 then _ else (if c = j then 0 else N i (unskp j c))
    by_cases h : i = r
    · rw [if_pos (show i + 1 = r + 1 by omega), h, stR_at]
    · rw [if_neg (show ¬ i + 1 = r + 1 by omega), stR_ne _ _ _ _ _ h]
theorem insX_loc {n j : Nat} {f : Mx → Int} (hj : j < n + 1) (h : Loc (n + 1) f) : Loc n (fun N => f (insX j N)) := fun A B hAB => h _ _ fun r c hr hc => by
  cases r with
  | zero => rfl
  | succ r =>
    rw [insX_row, insX_row]
    by_cases e : c = j
    · rw [if_pos e, if_pos e]
    · rw [if_neg e, if_neg e]
      exact hAB r _ (by omega) (unskp_lt e hc hj)
theorem insX_lin {n j : Nat} {f : Mx → Int} (h : Lin (n + 1) f) : Lin n (fun N => f (insX j N)) := fun A r u v x y hr => by
  show f (insX j (stR A r _)) = x * f (insX j (stR A r u)) + y * f (insX j (stR A r v))
  rw [insX_stR, insX_stR, insX_stR, ← h (insX j A) (r + 1) _ _ x y (by omega)]
  congr 2
  funext c
  by_cases e : c = j
  · rw [if_pos e, if_pos e, if_pos e]; omega
  · rw [if_neg e, if_neg e, if_neg e]
theorem insX_alt {n j : Nat} {f : Mx → Int} (hj : j < n + 1) (h : Alt (n + 1) f) : Alt n (fun N => f (insX j N)) := fun r s hrs hs A hA => by
  refine h (r + 1) (s + 1) (by omega) (by omega) _ fun c hc => ?_
  rw [insX_row, insX_row]
  by_cases e : c = j
  · rw [if_pos e, if_pos e]
  · rw [if_neg e, if_neg e]
    exact hA _ (unskp_lt e hc hj)
theorem insX_id {n : Nat} {f : Mx → Int} (ho : Loc (n + 1) f) (hl : Lin (n + 1) f) (ha : Alt (n + 1) f) (j : Nat) (hj : j < n + 1) : f (insX j idX) = sg j * f idX := by
  induction j with
  | zero =>
    rw [sg_zero, Int.one_mul]
    refine ho _ _ fun r c _ _ => ?_
    cases r with
    | zero =>
      show ej 0 c = if 0 = c then 1 else 0
      unfold ej
      by_cases h : c = 0
      · rw [if_pos h, if_pos h.symm]
      · rw [if_neg h, if_neg (Ne.symm h)]
    | succ r =>
      rw [insX_row]
      show (if c = 0 then 0 else if r = unskp 0 c then (1 : Int) else 0) = if r + 1 = c then 1 else 0
      unfold unskp
      by_cases h : c = 0
      · rw [if_pos h, if_neg (show ¬ r + 1 = c by omega)]
      · rw [if_neg h, if_neg (show ¬ c < 0 by omega)]
        by_cases h2 : r + 1 = c
        · rw [if_pos h2, if_pos (show r = c - 1 by omega)]
        · rw [if_neg h2, if_neg (show ¬ r = c - 1 by omega)]
  | succ j ih =>
    have e : f (insX (j + 1) idX) = f (swR (insX j idX) 0 (j + 1)) := by
      refine ho _ _ fun r c _ _ => ?_
      cases r with
      | zero =>
        show ej (j + 1) c = if 0 = 0 then insX j idX (j + 1) c else _
        rw [if_pos rfl, insX_row]
        show (if c = j + 1 then (1 : Int) else 0) = if c = j then 0 else if j = unskp j c then 1 else 0
        unfold unskp
        by_cases h : c = j
        · rw [if_pos h, if_neg (show ¬ c = j + 1 by omega)]
        · rw [if_neg h]
          by_cases h2 : c < j
          · rw [if_pos h2, if_neg (show ¬ c = j + 1 by omega), if_neg (show ¬ j = c by omega)]
          · rw [if_neg h2]
            by_cases h3 : c = j + 1
            · rw [if_pos h3, if_pos (show j = c - 1 by omega)]
            · rw [if_neg h3, if_neg (show ¬ j = c - 1 by omega)]
      | succ r =>
        rw [insX_row]
        unfold swR
        rw [if_neg (show ¬ r + 1 = 0 by omega)]
        by_cases hr : r = j
        · subst hr
          rw [if_pos (show r + 1 = r + 1 from rfl)]
          show (if c = r + 1 then (0 : Int) else if r = unskp (r + 1) c then 1 else 0) = ej r c
          unfold unskp ej
          by_cases h : c = r + 1
          · rw [if_pos h, if_neg (show ¬ c = r by omega)]
          · rw [if_neg h]
            by_cases h2 : c < r + 1
            · rw [if_pos h2]
              by_cases h3 : c = r
              · rw [if_pos h3, if_pos h3.symm]
              · rw [if_neg h3, if_neg (Ne.symm h3)]
            · rw [if_neg h2, if_neg (show ¬ r = c - 1 by omega), if_neg (show ¬ c = r by omega)]
        · rw [if_neg (show ¬ r + 1 = j + 1 by omega), insX_row]
          show (if c = j + 1 then (0 : Int) else if r = unskp (j + 1) c then 1 else 0) = if c = j then 0 else if r = unskp j c then 1 else 0
          unfold unskp
          by_cases h : c = j + 1
          · rw [if_pos h, if_neg (show ¬ c = j by omega), if_neg (show ¬ c < j by omega), if_neg (show ¬ r = c - 1 by omega)]
          · rw [if_neg h]
            by_cases h2 : c = j
            · rw [if_pos h2, if_pos (show c < j + 1 by omega), if_neg (show ¬ r = c by omega)]
            · rw [if_neg h2]
              by_cases h3 : c < j
              · rw [if_pos h3, if_pos (show c < j + 1 by omega)]
              · rw [if_neg h3, if_neg (show ¬ c < j + 1 by omega)]
    rw [e, alt_swap hl ha (by omega) (by omega) hj, ih (by omega), sg_succ, Int.neg_mul]
theorem clear_col {n : Nat} {f : Mx → Int} (ho : Loc (n + 1) f) (hl : Lin (n + 1) f) (ha : Alt (n + 1) f) (A : Mx) (j : Nat) : f (stR A 0 (ej j)) = f (insX j (mnr A 0 j)) := by
  have key : ∀ k, k ≤ n → f (stR A 0 (ej j)) = f (fun r c => if r = 0 then ej j c else if r ≤ k ∧ c = j then 0 else A r c) := by
    intro k
    induction k with
    | zero =>
      intro _
      refine ho _ _ fun r c _ _ => ?_
      unfold stR
      by_cases h : r = 0
      · rw [if_pos h, if_pos h]
      · rw [if_neg h, if_neg h, if_neg (by omega)]
    | succ k ih =>
      intro hk
      rw [ih (by omega), ← alt_add hl ha (r := k + 1) (s := 0) (by omega) (by omega) (by omega) _ (-(A (k + 1) j))]
      refine ho _ _ fun r c _ _ => ?_
      unfold stR
      simp only
      by_cases h : r = k + 1
      · subst h
        rw [if_pos rfl, if_neg (show ¬ k + 1 = 0 by omega), if_neg (show ¬ (k + 1 ≤ k ∧ c = j) by omega), if_true, if_neg (show ¬ k + 1 = 0 by omega)]
        unfold ej
        by_cases hc : c = j
        · rw [if_pos hc, if_pos (show k + 1 ≤ k + 1 ∧ c = j from ⟨Nat.le_refl _, hc⟩), hc]; omega
        · rw [if_neg hc, if_neg (show ¬ (k + 1 ≤ k + 1 ∧ c = j) from fun h => hc h.2)]; omega
      · rw [if_neg h]
        by_cases h0 : r = 0
        · rw [if_pos h0, if_pos h0]
        · rw [if_neg h0, if_neg h0]
          by_cases h1 : r ≤ k ∧ c = j
          · rw [if_pos h1, if_pos (show r ≤ k + 1 ∧ c = j from ⟨by omega, h1.2⟩)]
          · rw [if_neg h1, if_neg (show ¬ (r ≤ k + 1 ∧ c = j) from fun h2 => h1 ⟨by omega, h2.2⟩)]
  rw [key n (by omega)]
  refine ho _ _ fun r c hr hc => ?_
  cases r with
  | zero => rfl
  | succ r =>
    rw [insX_row, if_neg (show ¬ r + 1 = 0 by omega)]
    by_cases h : c = j
    · rw [if_pos (show r + 1 ≤ n ∧ c = j from ⟨by omega, h⟩), if_pos h]
    · rw [if_neg (show ¬ (r + 1 ≤ n ∧ c = j) from fun h2 => h h2.2), if_neg h]
      show A (r + 1) c = A (skp 0 r) (skp j (unskp j c))
      rw [skp_zero, skp_unskp h]
theorem det_uniq (n : Nat) : ∀ f : Mx → Int, Loc n f → Lin n f → Alt n f → ∀ A, f A = det n A * f idX := by
  induction n with
  | zero =>
    intro f ho _ _ A
    show f A = 1 * f idX
    rw [Int.one_mul]
    exact ho _ _ fun r c hr _ => by omega
  | succ n ih =>
    intro f ho hl ha A
    rw [row_split hl ho (r := 0) (by omega), det_row, sumN_mul]
    refine sumN_congr fun j hj => ?_
    rw [clear_col ho hl ha A j]
    have this : f (insX j (mnr A 0 j)) = det n (mnr A 0 j) * f (insX j idX) := ih (fun N => f (insX j N)) (insX_loc hj ho) (insX_lin hl) (insX_alt hj ha) (mnr A 0 j)
    rw [this, insX_id ho hl ha j hj]
    generalize det n (mnr A 0 j) = d
    generalize sg j = s
    grind
theorem mulX_stR (n : Nat) (A B : Mx) (r : Nat) (v : Nat → Int) : mulX n (stR A r v) B = stR (mulX n A B) r (fun j => sumN n fun k => v k * B k j) := by
  funext i j
  show (sumN n fun k => stR A r v i k * B k j) = if i = r then _ else sumN n fun k => A i k * B k j
  by_cases h : i = r
  · rw [if_pos h, h]
    exact sumN_congr fun k _ => by rw [stR_at]
  · rw [if_neg h]
    exact sumN_congr fun k _ => by rw [stR_ne _ _ _ _ _ h]
theorem det_mul (n : Nat) (A B : Mx) : det n (mulX n A B) = det n A * det n B := by
  have h : det n (mulX n A B) = det n A * det n (mulX n idX B) := det_uniq n (fun A => det n (mulX n A B))
    (fun A A' h => det_congr fun r c hr _ => sumN_congr fun k hk => by rw [h r k hr hk])
    (fun A r u v x y hr => by
      show det n (mulX n (stR A r _) B) = x * det n (mulX n (stR A r u) B) + y * det n (mulX n (stR A r v) B)
      rw [mulX_stR, mulX_stR, mulX_stR, ← det_lin n _ r _ _ x y hr]
      congr 2
      funext j
      rw [sumN_mul_left, sumN_mul_left, ← sumN_add]
      refine sumN_congr fun k _ => ?_
      grind)
    (fun r s hrs hs A hA => det_alt n r s hrs hs _ fun c _ => sumN_congr fun k hk => by rw [hA k hk]) A
  rw [h]
  congr 1
  refine det_congr fun r c hr _ => ?_
  show (sumN n fun k => (if r = k then (1 : Int) else 0) * B k c) = B r c
  rw [sumN_one (a := r) hr (fun k _ hk => by rw [if_neg (Ne.symm hk), Int.zero_mul]), if_pos rfl, Int.one_mul]
def mvX (i : Nat) (A : Mx) : Mx := fun r c => if r = 0 then A i c else A (skp i (r - 1)) c
theorem det_mv (n : Nat) (A : Mx) (i : Nat) (hi : i < n + 1) : det (n + 1) (mvX i A) = sg i * det (n + 1) A := by
  induction i with
  | zero =>
    rw [sg_zero, Int.one_mul]
    refine det_congr fun r c _ _ => ?_
    unfold mvX
    by_cases h : r = 0
    · rw [if_pos h, h]
    · rw [if_neg h, skp_zero, show r - 1 + 1 = r by omega]
  | succ i ih =>
    have e : det (n + 1) (mvX (i + 1) A) = det (n + 1) (swR (mvX i A) 0 (i + 1)) := by
      refine det_congr fun r c _ _ => ?_
      unfold swR mvX
      by_cases h : r = 0
      · rw [if_pos h, if_pos h, if_neg (by omega)]
        have : skp i (i + 1 - 1) = i + 1 := by unfold skp; rw [if_neg (by omega)]; omega
        rw [this]
      · rw [if_neg h, if_neg h]
        by_cases h2 : r = i + 1
        · rw [if_pos h2, if_pos rfl]
          have : skp (i + 1) (r - 1) = i := by unfold skp; rw [if_pos (by omega)]; omega
          rw [this]
        · rw [if_neg h2, if_neg h]
          have : skp (i + 1) (r - 1) = skp i (r - 1) := by
            unfold skp
            by_cases h3 : r - 1 < i
            · rw [if_pos h3, if_pos (by omega)]
            · rw [if_neg h3, if_neg (by omega)]
          rw [this]
    rw [e, alt_swap (det_lin _) (det_alt _) (by omega) (by omega) hi, ih (by omega), sg_succ, Int.neg_mul]
theorem det_row_at (n : Nat) (A : Mx) (i : Nat) (hi : i < n + 1) : det (n + 1) A = sumN (n + 1) fun j => sg (i + j) * A i j * det n (mnr A i j) := by
  have h := det_mv n A i hi
  rw [det_row] at h
  have h2 : sg i * (sg i * det (n + 1) A) = det (n + 1) A := by rw [← Int.mul_assoc, sg_sq, Int.one_mul]
  rw [← h2, ← h, sumN_mul_left]
  refine sumN_congr fun j _ => ?_
  have e : mnr (mvX i A) 0 j = mnr A i j := by
    funext r c
    show mvX i A (skp 0 r) (skp j c) = A (skp i r) (skp j c)
    rw [skp_zero]
    show (if r + 1 = 0 then _ else A (skp i (r + 1 - 1)) (skp j c)) = _
    rw [if_neg (by omega), Nat.add_sub_cancel]
  have e2 : mvX i A 0 j = A i j := if_pos rfl
  rw [e, e2, sg_add]
  grind
theorem det_row_other (n : Nat) (A : Mx) (i k : Nat) (hi : i < n + 1) (hk : k < n + 1) (hne : i ≠ k) : (sumN (n + 1) fun j => sg (k + j) * A i j * det n (mnr A k j)) = 0 := by
  have h := det_row_at n (stR A k (A i)) k hk
  rw [alt_at (det_alt _) hne hi hk _ (fun c _ => by rw [stR_at, stR_ne _ _ _ _ _ hne])] at h
  rw [h]
  refine sumN_congr fun j _ => ?_
  rw [stR_at, mnr_stR_same]
theorem det_col_at (n : Nat) (A : Mx) (j : Nat) (hj : j < n + 1) : det (n + 1) A = sumN (n + 1) fun i => sg (i + j) * A i j * det n (mnr A i j) := by
  rw [← det_tr, det_row_at n (trX A) j hj]
  refine sumN_congr fun i _ => ?_
  rw [mnr_trX, det_tr, Nat.add_comm j i]
  rfl
theorem det_col_other (n : Nat) (A : Mx) (j k : Nat) (hj : j < n + 1) (hk : k < n + 1) (hne : j ≠ k) : (sumN (n + 1) fun i => sg (i + k) * A i j * det n (mnr A i k)) = 0 := by
  rw [← det_row_other n (trX A) j k hj hk hne]
  refine sumN_congr fun i _ => ?_
  rw [mnr_trX, det_tr, Nat.add_comm k i]
  rfl
def adjX (n : Nat) (A : Mx) : Mx := fun j i => sg (i + j) * det n (mnr A i j)
theorem mul_adj (n : Nat) (A : Mx) (i k : Nat) (hi : i < n + 1) (hk : k < n + 1) : mulX (n + 1) A (adjX n A) i k = if i = k then det (n + 1) A else 0 := by
  show (sumN (n + 1) fun j => A i j * (sg (k + j) * det n (mnr A k j))) = _
  have e : (sumN (n + 1) fun j => A i j * (sg (k + j) * det n (mnr A k j))) = sumN (n + 1) fun j => sg (k + j) * A i j * det n (mnr A k j) := sumN_congr fun j _ => by grind
  rw [e]
  by_cases h : i = k
  · rw [if_pos h, h]; exact (det_row_at n A k hk).symm
  · rw [if_neg h]; exact det_row_other n A i k hi hk h
theorem adj_mul (n : Nat) (A : Mx) (i k : Nat) (hi : i < n + 1) (hk : k < n + 1) : mulX (n + 1) (adjX n A) A i k = if i = k then det (n + 1) A else 0 := by
  show (sumN (n + 1) fun j => sg (j + i) * det n (mnr A j i) * A j k) = _
  have e : (sumN (n + 1) fun j => sg (j + i) * det n (mnr A j i) * A j k) = sumN (n + 1) fun j => sg (j + i) * A j k * det n (mnr A j i) := sumN_congr fun j _ => by grind
  rw [e]
  by_cases h : i = k
  · subst h; rw [if_pos rfl]; exact (det_col_at n A i hi).symm
  · rw [if_neg h]; exact det_col_other n A k i hk hi (Ne.symm h)
end Go.Proofs.YtcapddcmnjeloaaGreatDoor
end

section
/-
  Plain mathematics of chapter 8: determinants over residues. Nothing of a program is used.
-/
namespace Go.Proofs.YtcapddcmnjeloaaGreatDoor
theorem det_cg {p : Int} {n : Nat} {A B : Mx} (h : ∀ i j, i < n → j < n → Cg p (A i j) (B i j)) : Cg p (det n A) (det n B) := by
  induction n generalizing A B with
  | zero => exact Cg.refl _ _
  | succ n ih =>
    rw [det_succ, det_succ]
    exact Cg.sum fun i hi => ((Cg.refl p (sg i)).mul (h i 0 hi (by omega))).mul (ih fun a b ha hb => h _ _ (skp_lt ha) (skp_lt hb))
theorem det_swap {n r s : Nat} (A : Mx) (hr : r < n) (hs : s < n) (h : r ≠ s) : det n (swR A r s) = -det n A := by
  refine swap_of (det_lin n) ?_ h hr hs A
  rcases Nat.lt_or_ge r s with h1 | h1
  · exact det_alt n r s h1 hs
  · exact fun A hA => det_alt n s r (by omega) hr A fun c hc => (hA c hc).symm
theorem det_scale {n t : Nat} (A : Mx) (z : Int) (ht : t < n) : det n (stR A t fun q => z * A t q) = z * det n A := by
  have h := det_lin n A t (A t) (A t) z 0 ht
  rw [stR_self, Int.zero_mul, Int.add_zero] at h
  rw [← h]
  refine congrArg _ ?_
  funext i j
  unfold stR
  split
  · show z * A t j = z * A t j + 0 * A t j
    rw [Int.zero_mul, Int.add_zero]
  · rfl
theorem det_less {n i t : Nat} (A : Mx) (x : Int) (hi : i < n) (ht : t < n) (h : i ≠ t) : det n (stR A i fun q => A i q - x * A t q) = det n A := by
  have h1 := det_lin n A i (A i) (A t) 1 (-x) hi
  have h0 : det n (stR A i (A t)) = 0 := by
    have e : ∀ c, stR A i (A t) i c = stR A i (A t) t c := fun c => by rw [stR_at, stR_ne _ _ _ _ _ (fun e => h e.symm)]
    rcases Nat.lt_or_ge i t with h2 | h2
    · exact det_alt n i t h2 ht _ fun c _ => e c
    · exact det_alt n t i (by omega) hi _ fun c _ => (e c).symm
  rw [stR_self, h0, Int.mul_zero, Int.add_zero, Int.one_mul] at h1
  rw [← h1]
  refine congrArg _ ?_
  funext a b
  unfold stR
  split
  · show A i b - x * A t b = 1 * A i b + -x * A t b
    rw [Int.one_mul, Int.neg_mul]; omega
  · rfl
theorem det_zero_row {p : Int} {n i : Nat} {A : Mx} (hi : i < n) (h : ∀ j, j < n → Cg p (A i j) 0) : Cg p (det n A) 0 := by
  have h1 : Cg p (det n A) (det n (stR A i fun q => 0 * A i q)) := det_cg fun a b ha hb => by
    unfold stR
    by_cases e : a = i
    · rw [if_pos e, e]
      show Cg p (A i b) (0 * A i b)
      rw [Int.zero_mul]; exact h b hb
    · rw [if_neg e]; exact Cg.refl _ _
  rw [det_scale A 0 hi, Int.zero_mul] at h1
  exact h1
theorem mulX_cg {p : Int} {n : Nat} {A B C D : Mx} (h : ∀ i j, i < n → j < n → Cg p (A i j) (B i j)) (h' : ∀ i j, i < n → j < n → Cg p (C i j) (D i j)) : ∀ i j, i < n → j < n → Cg p (mulX n A C i j) (mulX n B D i j) := fun i j hi hj => Cg.sum fun k hk => (h i k hi hk).mul (h' k j hk hj)
def InvX (p : Int) (n : Nat) (M V : Mx) : Prop := ∀ i j, i < n → j < n → Cg p (mulX n V M i j) (idX i j)
theorem InvX.dets {p : Int} {n : Nat} {M V : Mx} (h : InvX p n M V) : Cg p (det n V * det n M) 1 := by
  rw [← det_mul, ← det_id n]
  exact det_cg h
theorem InvX.ne {p : Int} (hp : Prm p) {n : Nat} {M V : Mx} (h : InvX p n M V) : ¬ p ∣ det n M := fun hd =>
  InvP.ne (a := det n M) (x := det n V) hp (by unfold InvP; rw [Int.mul_comm]; exact h.dets) hd
theorem mulX_one {n : Nat} (A : Mx) {i j : Nat} (hj : j < n) : mulX n A idX i j = A i j := by
  show (sumN n fun k => A i k * idX k j) = _
  rw [sumN_one (a := j) hj (fun k _ hne => by unfold idX; rw [if_neg hne, Int.mul_zero])]
  unfold idX
  rw [if_pos rfl, Int.mul_one]
theorem one_mulX {n : Nat} (A : Mx) {i j : Nat} (hi : i < n) : mulX n idX A i j = A i j := by
  show (sumN n fun k => idX i k * A k j) = _
  rw [sumN_one (a := i) hi (fun k _ hne => by unfold idX; rw [if_neg (fun e => hne e.symm), Int.zero_mul])]
  unfold idX
  rw [if_pos rfl, Int.one_mul]
theorem mulX_grp {n : Nat} (A B C : Mx) (i j : Nat) : mulX n (mulX n A B) C i j = mulX n A (mulX n B C) i j := by
  show (sumN n fun k => (sumN n fun l => A i l * B l k) * C k j) = sumN n fun l => A i l * sumN n fun k => B l k * C k j
  have e1 : (sumN n fun k => (sumN n fun l => A i l * B l k) * C k j) = sumN n fun k => sumN n fun l => A i l * B l k * C k j := sumN_congr fun k _ => sumN_mul _ _ _
  rw [e1, sumN_swap]
  refine sumN_congr fun l _ => ?_
  rw [sumN_mul_left]
  exact sumN_congr fun k _ => by rw [Int.mul_assoc]
theorem InvX.both {p : Int} {n : Nat} {M V W : Mx} (h : InvX p n M V) (h' : ∀ i j, i < n → j < n → Cg p (mulX n M W i j) (idX i j)) : ∀ i j, i < n → j < n → Cg p (V i j) (W i j) := fun i j hi hj => by
  have e1 : Cg p (mulX n V (mulX n M W) i j) (V i j) := (mulX_cg (fun a b _ _ => Cg.refl _ _) h' i j hi hj).trans (Cg.of_eq (mulX_one V hj))
  have e2 : Cg p (mulX n (mulX n V M) W i j) (W i j) := (mulX_cg h (fun a b _ _ => Cg.refl _ _) i j hi hj).trans (Cg.of_eq (one_mulX W hi))
  rw [mulX_grp] at e2
  exact e1.symm.trans e2
theorem InvX.right {p : Int} {n : Nat} {M V : Mx} (h : InvX p n M V) : ∀ i j, i < n → j < n → Cg p (mulX n M V i j) (idX i j) := by
  cases n with
  | zero => intro i j hi _; omega
  | succ n =>
    have hw : ∀ i j, i < n + 1 → j < n + 1 → Cg p (mulX (n + 1) M (fun a b => det (n + 1) V * adjX n M a b) i j) (idX i j) := fun i j hi hj => by
      have e : mulX (n + 1) M (fun a b => det (n + 1) V * adjX n M a b) i j = det (n + 1) V * mulX (n + 1) M (adjX n M) i j := by
        show (sumN (n + 1) fun k => M i k * (det (n + 1) V * adjX n M k j)) = det (n + 1) V * sumN (n + 1) fun k => M i k * adjX n M k j
        rw [sumN_mul_left]
        exact sumN_congr fun k _ => by grind
      rw [e, mul_adj n M i j hi hj]
      unfold idX
      by_cases hij : i = j
      · rw [if_pos hij, if_pos hij]; exact h.dets
      · rw [if_neg hij, if_neg hij, Int.mul_zero]; exact Cg.refl _ _
    have hb := h.both hw
    exact fun i j hi hj => (mulX_cg (fun a b _ _ => Cg.refl p (M a b)) hb i j hi hj).trans (hw i j hi hj)
end Go.Proofs.YtcapddcmnjeloaaGreatDoor
end

section
/-
  Plain mathematics of chapter 11: solutions by determinants, that there is only one, and lifting. Nothing of a program is used.
-/
namespace Go.Proofs.YtcapddcmnjeloaaGreatDoor
def rcX (A : Mx) (j : Nat) (b : Nat → Int) : Mx := fun i k => if k = j then b i else A i k
theorem mnr_rcX {A : Mx} {j i : Nat} {b : Nat → Int} : mnr (rcX A j b) i j = mnr A i j := by
  funext r c
  show (if skp j c = j then _ else _) = _
  rw [if_neg (skp_ne j c)]
  rfl
theorem cramer : ∀ {n : Nat} (A : Mx) (b : Nat → Int) {k : Nat}, k < n → (sumN n fun j => A k j * det n (rcX A j b)) = det n A * b k
  | 0, _, _, k, h => by omega
  | n + 1, A, b, k, hk => by
    have e : (sumN (n + 1) fun j => A k j * det (n + 1) (rcX A j b)) = sumN (n + 1) fun j => sumN (n + 1) fun i => A k j * adjX n A j i * b i := by
      refine sumN_congr fun j hj => ?_
      rw [det_col_at n (rcX A j b) j hj, sumN_mul_left]
      refine sumN_congr fun i _ => ?_
      rw [mnr_rcX]
      show A k j * (sg (i + j) * (if j = j then b i else A i j) * det n (mnr A i j)) = A k j * (sg (i + j) * det n (mnr A i j)) * b i
      rw [if_pos rfl]
      grind
    rw [e, sumN_swap]
    have e2 : (sumN (n + 1) fun i => sumN (n + 1) fun j => A k j * adjX n A j i * b i) = sumN (n + 1) fun i => (if k = i then det (n + 1) A else 0) * b i := by
      refine sumN_congr fun i hi => ?_
      rw [← sumN_mul, ← mul_adj n A k i hk hi]
      rfl
    rw [e2, sumN_one (a := k) hk (fun i _ hne => by rw [if_neg (fun e => hne e.symm), Int.zero_mul]), if_pos rfl]
theorem ker_zero : ∀ {n : Nat} (A : Mx) (z : Nat → Int), det n A ≠ 0 → (∀ i, i < n → (sumN n fun j => A i j * z j) = 0) → ∀ j, j < n → z j = 0
  | 0, _, _, _, _, j, hj => by omega
  | n + 1, A, z, hd, h, j, hj => by
    have e : (sumN (n + 1) fun i => adjX n A j i * sumN (n + 1) fun k => A i k * z k) = det (n + 1) A * z j := by
      have e1 : (sumN (n + 1) fun i => adjX n A j i * sumN (n + 1) fun k => A i k * z k) = sumN (n + 1) fun i => sumN (n + 1) fun k => adjX n A j i * A i k * z k := by
        refine sumN_congr fun i _ => ?_
        rw [sumN_mul_left]
        exact sumN_congr fun k _ => (Int.mul_assoc _ _ _).symm
      rw [e1, sumN_swap]
      have e2 : (sumN (n + 1) fun k => sumN (n + 1) fun i => adjX n A j i * A i k * z k) = sumN (n + 1) fun k => (if j = k then det (n + 1) A else 0) * z k := by
        refine sumN_congr fun k hk => ?_
        rw [← sumN_mul, ← adj_mul n A j k hj hk]
        rfl
      rw [e2, sumN_one (a := j) hj (fun i _ hne => by rw [if_neg (fun e => hne e.symm), Int.zero_mul]), if_pos rfl]
    rw [sumN_all_zero (fun i hi => by rw [h i hi, Int.mul_zero])] at e
    rcases Int.mul_eq_zero.mp e.symm with h1 | h1
    · exact absurd h1 hd
    · exact h1
theorem sol_uniq {n : Nat} {A : Mx} {b x y : Nat → Int} {s t : Int} (hd : det n A ≠ 0) (hx : ∀ i, i < n → (sumN n fun j => A i j * x j) = s * b i) (hy : ∀ i, i < n → (sumN n fun j => A i j * y j) = t * b i) : ∀ j, j < n → t * x j = s * y j := fun j hj => by
  have := ker_zero A (fun j => t * x j - s * y j) hd (fun i hi => by
    have e : (sumN n fun j => A i j * (t * x j - s * y j)) = t * (sumN n fun j => A i j * x j) + (-s) * sumN n fun j => A i j * y j := by
      rw [sumN_mul_left, sumN_mul_left, ← sumN_add]
      exact sumN_congr fun k _ => by grind
    rw [e, hx i hi, hy i hi]
    grind) j hj
  omega
structure LInv (n : Nat) (M : Mx) (b x rest : Nat → Int) (P : Int) : Prop where
  sum : ∀ i, i < n → (sumN n fun j => M i j * x j) + P * rest i = b i
  can : ∀ j, j < n → 0 ≤ x j ∧ x j < P
theorem LInv.start {n : Nat} {M : Mx} {b : Nat → Int} : LInv n M b (fun _ => 0) b 1 where
  sum := fun i _ => by rw [sumN_all_zero (fun k _ => Int.mul_zero _)]; omega
  can := fun _ _ => by decide
theorem LInv.step {n : Nat} {M : Mx} {b x rest dg r' : Nat → Int} {P p : Int} (h : LInv n M b x rest P) (hP : 0 < P) (hd : ∀ j, j < n → 0 ≤ dg j ∧ dg j < p) (hr : ∀ i, i < n → (rest i - sumN n fun j => M i j * dg j) = p * r' i) : LInv n M b (fun j => x j + P * dg j) r' (P * p) where
  sum := fun i hi => by
    have e : (sumN n fun j => M i j * (x j + P * dg j)) = (sumN n fun j => M i j * x j) + P * sumN n fun j => M i j * dg j := by
      rw [sumN_mul_left, ← sumN_add]
      exact sumN_congr fun k _ => by grind
    have h1 := h.sum i hi
    have h2 := hr i hi
    rw [e, Int.mul_assoc, ← h2, Int.mul_sub]
    omega
  can := fun j hj => by
    have h1 := h.can j hj
    have h2 := hd j hj
    have h3 := Int.mul_nonneg (Int.le_of_lt hP) h2.1
    have h4 := Int.mul_le_mul_of_nonneg_left (show dg j + 1 ≤ p by omega) (Int.le_of_lt hP)
    rw [Int.mul_add, Int.mul_one] at h4
    exact ⟨by omega, by omega⟩
theorem dig_dvd {n : Nat} {M V : Mx} {p : Int} {rest dg : Nat → Int} (h : InvX p n M V) (hd : ∀ j, j < n → Cg p (dg j) (sumN n fun k => V j k * rest k)) {i : Nat} (hi : i < n) : p ∣ rest i - sumN n fun j => M i j * dg j := by
  have h1 : Cg p (sumN n fun j => M i j * dg j) (sumN n fun j => sumN n fun k => M i j * V j k * rest k) := by
    refine Cg.sum fun j hj => ?_
    refine ((Cg.refl p _).mul (hd j hj)).trans (Cg.of_eq ?_)
    rw [sumN_mul_left]
    exact sumN_congr fun k _ => (Int.mul_assoc _ _ _).symm
  rw [sumN_swap] at h1
  have h2 : Cg p (sumN n fun k => sumN n fun j => M i j * V j k * rest k) (sumN n fun k => idX i k * rest k) := by
    refine Cg.sum fun k hk => ?_
    refine (Cg.of_eq ?_).trans ((h.right i k hi hk).mul (Cg.refl p (rest k)))
    unfold mulX
    rw [← sumN_mul]
  have h3 : (sumN n fun k => idX i k * rest k) = rest i := by
    rw [sumN_one (a := i) hi (fun k _ hne => by unfold idX; rw [if_neg (fun e => hne e.symm), Int.zero_mul])]
    unfold idX
    rw [if_pos rfl, Int.one_mul]
  rw [h3] at h2
  exact (h1.trans h2).symm
end Go.Proofs.YtcapddcmnjeloaaGreatDoor
end

section
/-
  Plain mathematics of chapter 2: lowest terms. Nothing of a program is imported.
-/
namespace Go.Proofs.YtcapddcmnjeloaaGreatDoor
def IsRatP (n d : Int) : Prop := 1 ≤ d ∧ d ≤ 400000000 ∧ -400000000 ≤ n ∧ n ≤ 400000000 ∧ Int.gcd n d = 1
instance (n d : Int) : Decidable (IsRatP n d) := by unfold IsRatP; exact inferInstance
def isRat (n d : Int) : Bool := decide (IsRatP n d)
def lowN (n d : Int) : Int := if d < 0 then -(n.tdiv (Int.gcd n d)) else n.tdiv (Int.gcd n d)
def lowD (n d : Int) : Int := if d < 0 then -(d.tdiv (Int.gcd n d)) else d.tdiv (Int.gcd n d)
def Fits (p q : Int) : Prop := -400000000 ≤ p ∧ p ≤ 400000000 ∧ -400000000 ≤ q ∧ q ≤ 400000000
instance (n d : Int) : Decidable (Fits n d) := by unfold Fits; exact inferInstance
def low (n d : Int) : Int × Int := if d = 0 then (0, 0) else if Fits (lowN n d) (lowD n d) then (lowN n d, lowD n d) else (0, 0)
theorem gcd_pos_of (n d : Int) (hd : d ≠ 0) : 0 < Int.gcd n d := by
  rcases Nat.eq_zero_or_pos (Int.gcd n d) with hz | hz
  · exact absurd (Int.gcd_eq_zero_iff.1 hz).2 hd
  · exact hz
theorem parts (n d : Int) (hd : d ≠ 0) : ∃ p q k : Int, 0 < q ∧ k ≠ 0 ∧ n = p * k ∧ d = q * k ∧ Int.gcd p q = 1 ∧ lowN n d = p ∧ lowD n d = q ∧ (Int.gcd n d : Int) = k.natAbs ∧ (d < 0 ↔ k < 0) := by
  have hg := gcd_pos_of n d hd
  have eN : lowN n d = if d < 0 then -(n.tdiv (Int.gcd n d)) else n.tdiv (Int.gcd n d) := rfl
  have eD : lowD n d = if d < 0 then -(d.tdiv (Int.gcd n d)) else d.tdiv (Int.gcd n d) := rfl
  obtain ⟨a, ha⟩ := Int.gcd_dvd_left (a := n) (b := d)
  obtain ⟨b, hb⟩ := Int.gcd_dvd_right (a := n) (b := d)
  rw [eN, eD]
  clear eN eD
  obtain ⟨g, hG⟩ : ∃ g, Int.gcd n d = g := ⟨_, rfl⟩
  rw [hG] at hg ha hb ⊢
  have hc : Int.gcd a b = 1 := by
    have e : Int.gcd ((g : Int) * a) ((g : Int) * b) = g := by rw [← ha, ← hb]; exact hG
    rw [Int.gcd_mul_left] at e
    have e : g * Int.gcd a b = g * 1 := by simpa using e
    exact Nat.eq_of_mul_eq_mul_left hg e
  have hgi : (g : Int) ≠ 0 := by omega
  have t1 : n.tdiv g = a := by rw [ha]; exact Int.mul_tdiv_cancel_left a hgi
  have t2 : d.tdiv g = b := by rw [hb]; exact Int.mul_tdiv_cancel_left b hgi
  rw [t1, t2]
  by_cases hs : d < 0
  · have hb0 : b < 0 := by
      rcases Int.lt_or_le b 0 with h | h
      · exact h
      · have := Int.mul_nonneg (show (0 : Int) ≤ (g : Int) by omega) h; omega
    rw [if_pos hs, if_pos hs]
    exact ⟨-a, -b, -(g : Int), by omega, by omega, by rw [Int.neg_mul_neg, Int.mul_comm]; exact ha, by rw [Int.neg_mul_neg, Int.mul_comm]; exact hb, by rw [Int.neg_gcd, Int.gcd_neg]; exact hc, rfl, rfl, by omega, by omega⟩
  · have hb0 : 0 < b := by
      rcases Int.lt_or_le 0 b with h | h
      · exact h
      · have := Int.mul_nonpos_of_nonneg_of_nonpos (show (0 : Int) ≤ (g : Int) by omega) h; omega
    rw [if_neg hs, if_neg hs]
    exact ⟨a, b, (g : Int), by omega, by omega, by rw [Int.mul_comm]; exact ha, by rw [Int.mul_comm]; exact hb, hc, rfl, rfl, by omega, by omega⟩
theorem dvd_of_coprime {a b c : Int} (h : a ∣ b * c) (hg : Int.gcd a b = 1) : a ∣ c := by
  rw [← Int.natAbs_dvd_natAbs] at h ⊢
  rw [Int.natAbs_mul] at h
  rw [Int.gcd_eq_natAbs_gcd_natAbs] at hg
  exact Nat.Coprime.dvd_of_dvd_mul_left hg h
theorem natAbs_mul_le (p k : Int) (hk : k ≠ 0) : p.natAbs ≤ (p * k).natAbs := by
  rw [Int.natAbs_mul]; exact Nat.le_mul_of_pos_right _ (by omega)
theorem low_bd (n d : Int) (hd : d ≠ 0) : (lowN n d).natAbs ≤ n.natAbs ∧ 1 ≤ lowD n d ∧ (lowD n d).natAbs ≤ d.natAbs ∧ Int.gcd (lowN n d) (lowD n d) = 1 := by
  obtain ⟨p, q, k, hq, hk, hn, hd', hg, e1, e2, _, _⟩ := parts n d hd
  rw [e1, e2]
  refine ⟨by rw [hn]; exact natAbs_mul_le p k hk, by omega, by rw [hd']; exact natAbs_mul_le q k hk, hg⟩
theorem low_fits {n d : Int} (hd : d ≠ 0) (h : Fits (lowN n d) (lowD n d)) : low n d = (lowN n d, lowD n d) ∧ IsRatP (lowN n d) (lowD n d) := by
  obtain ⟨_, b, _, g⟩ := low_bd n d hd
  unfold low
  rw [if_neg hd, if_pos h]
  exact ⟨rfl, b, h.2.2.2, h.1, h.2.1, g⟩
theorem low_none {n d : Int} (h : ¬ Fits (lowN n d) (lowD n d)) : low n d = (0, 0) := by
  unfold low; rw [if_neg h]; split <;> rfl
theorem low_zero (n : Int) : low n 0 = (0, 0) := by simp [low]
theorem not_isRat_zero : ¬ IsRatP 0 0 := by unfold IsRatP; omega
theorem low_unique {n d p q : Int} (hd : d ≠ 0) (hr : IsRatP p q) (h : n * q = p * d) : low n d = (p, q) := by
  obtain ⟨h1, h2, h3, h4, h5⟩ := hr
  obtain ⟨p', q', k, hq, hk, hn, hd', hg, e1, e2, _, _⟩ := parts n d hd
  have e : p' * q = p * q' := by
    have : (p' * q) * k = (p * q') * k := by
      calc (p' * q) * k = (p' * k) * q := by rw [Int.mul_right_comm]
        _ = n * q := by rw [← hn]
        _ = p * d := h
        _ = p * (q' * k) := by rw [← hd']
        _ = (p * q') * k := by rw [Int.mul_assoc]
    exact Int.eq_of_mul_eq_mul_right hk this
  have d1 : q' ∣ q := by
    have : q' ∣ p' * q := ⟨p, by rw [e, Int.mul_comm]⟩
    exact dvd_of_coprime this (by rw [Int.gcd_comm]; exact hg)
  have d2 : q ∣ q' := by
    have : q ∣ p * q' := ⟨p', by rw [← e, Int.mul_comm]⟩
    exact dvd_of_coprime this (by rw [Int.gcd_comm]; exact h5)
  have eq : q' = q := by
    have l1 := Int.le_of_dvd (by omega) d1
    have l2 := Int.le_of_dvd (by omega) d2
    omega
  subst eq
  have ep : p' = p := Int.eq_of_mul_eq_mul_right (show q' ≠ 0 by omega) e
  subst ep
  unfold low
  rw [if_neg hd, e1, e2, if_pos ⟨h3, h4, by omega, h2⟩]
theorem low_says {n d p q : Int} (h : low n d = (p, q)) (hr : IsRatP p q) : d ≠ 0 ∧ n * q = p * d := by
  by_cases hd : d = 0
  · subst hd; rw [low_zero] at h; cases h; exact absurd hr not_isRat_zero
  · refine ⟨hd, ?_⟩
    obtain ⟨p', q', k, hq, hk, hn, hd', hg, e1, e2, _, _⟩ := parts n d hd
    by_cases hf : Fits (lowN n d) (lowD n d)
    · rw [(low_fits hd hf).1, e1, e2] at h
      cases h
      calc n * q = (p * k) * q := by rw [← hn]
        _ = p * (q * k) := by rw [Int.mul_assoc, Int.mul_comm k q]
        _ = p * d := by rw [← hd']
    · rw [low_none hf] at h; cases h; exact absurd hr not_isRat_zero
theorem low_cases (n d : Int) : low n d = (0, 0) ∨ ∃ p q, low n d = (p, q) ∧ IsRatP p q := by
  by_cases hd : d = 0
  · subst hd; exact .inl (low_zero n)
  · by_cases hf : Fits (lowN n d) (lowD n d)
    · exact .inr ⟨_, _, (low_fits hd hf).1, (low_fits hd hf).2⟩
    · exact .inl (low_none hf)
theorem low_self {p q : Int} (hr : IsRatP p q) : low p q = (p, q) := low_unique (by have := hr.1; omega) hr rfl
theorem isRat_iff (n d : Int) (h : ¬ (n = 0 ∧ d = 0)) : IsRatP n d ↔ low n d = (n, d) := by
  constructor
  · exact low_self
  · intro e
    rcases low_cases n d with h0 | ⟨p, q, h1, h2⟩
    · rw [h0] at e; cases e; exact absurd ⟨rfl, rfl⟩ h
    · rw [h1] at e; cases e; exact h2
theorem isRat_in {n d : Int} (h : IsRatP n d) : (-400000000 ≤ n ∧ n ≤ 400000000) ∧ (-400000000 ≤ d ∧ d ≤ 400000000) := ⟨⟨h.2.2.1, h.2.2.2.1⟩, by have := h.1; omega, h.2.1⟩
def mkRat (n d : Int) : Int × Int := if (-400000000 ≤ n ∧ n ≤ 400000000) ∧ (-400000000 ≤ d ∧ d ≤ 400000000) then low n d else (0, 0)
theorem mkRat_in {n d : Int} (h : (-400000000 ≤ n ∧ n ≤ 400000000) ∧ (-400000000 ≤ d ∧ d ≤ 400000000)) : mkRat n d = low n d := if_pos h
theorem mkRat_out {n d : Int} (h : ¬ ((-400000000 ≤ n ∧ n ≤ 400000000) ∧ (-400000000 ≤ d ∧ d ≤ 400000000))) : mkRat n d = (0, 0) := if_neg h
theorem isRat_mk (n d : Int) (h : ¬ (n = 0 ∧ d = 0)) : isRat n d = decide (mkRat n d = (n, d)) := by
  unfold isRat
  by_cases hb : (-400000000 ≤ n ∧ n ≤ 400000000) ∧ (-400000000 ≤ d ∧ d ≤ 400000000)
  · rw [mkRat_in hb]; exact decide_eq_decide.2 (isRat_iff n d h)
  · rw [mkRat_out hb]
    have h1 : ¬ IsRatP n d := fun k => hb (isRat_in k)
    have h2 : ¬ ((0, 0) = (n, d)) := fun k => h (by cases k; exact ⟨rfl, rfl⟩)
    simp [h1, h2]
theorem mul_sm (a b : Int) (ha : -400000000 ≤ a ∧ a ≤ 400000000) (hb : -400000000 ≤ b ∧ b ≤ 400000000) : -160000000000000000 ≤ a * b ∧ a * b ≤ 160000000000000000 := by
  have e : (a * b).natAbs = a.natAbs * b.natAbs := Int.natAbs_mul a b
  have l : a.natAbs * b.natAbs ≤ 400000000 * 400000000 := Nat.mul_le_mul (by omega) (by omega)
  omega
end Go.Proofs.YtcapddcmnjeloaaGreatDoor
end

section
/-
  Plain mathematics of chapter 2: sums, products and quotients of ratios. Nothing of a program is used.
-/
namespace Go.Proofs.YtcapddcmnjeloaaGreatDoor
def addR (a b c d : Int) : Int × Int := if (isRat a b && isRat c d) = true then low (a * d + c * b) (b * d) else (0, 0)
def mulR (a b c d : Int) : Int × Int := if (isRat a b && isRat c d) = true then low (a * c) (b * d) else (0, 0)
def RatQ (z : Int × Int) : Prop := IsRatP z.1 z.2
theorem addR_back {a b c d : Int} (h : RatQ (addR a b c d)) : IsRatP a b ∧ IsRatP c d ∧ (a * d + c * b) * (addR a b c d).2 = (addR a b c d).1 * (b * d) := by
  unfold addR at h ⊢
  by_cases hh : (isRat a b && isRat c d) = true
  · rw [if_pos hh] at h ⊢
    rw [Bool.and_eq_true] at hh
    exact ⟨of_decide_eq_true hh.1, of_decide_eq_true hh.2, (low_says rfl h).2⟩
  · rw [if_neg hh] at h; exact absurd h not_isRat_zero
theorem mulR_back {a b c d : Int} (h : RatQ (mulR a b c d)) : IsRatP a b ∧ IsRatP c d ∧ a * c * (mulR a b c d).2 = (mulR a b c d).1 * (b * d) := by
  unfold mulR at h ⊢
  by_cases hh : (isRat a b && isRat c d) = true
  · rw [if_pos hh] at h ⊢
    rw [Bool.and_eq_true] at hh
    exact ⟨of_decide_eq_true hh.1, of_decide_eq_true hh.2, (low_says rfl h).2⟩
  · rw [if_neg hh] at h; exact absurd h not_isRat_zero
theorem addR_or (a b c d : Int) : addR a b c d = (0, 0) ∨ RatQ (addR a b c d) := by
  unfold addR
  split
  · rcases low_cases (a * d + c * b) (b * d) with h | ⟨p, q, h, hr⟩
    · exact .inl h
    · exact .inr (by rw [h]; exact hr)
  · exact .inl rfl
theorem rat_same {a b c d : Int} (h : IsRatP a b) (h' : IsRatP c d) (e : a * d = c * b) : a = c ∧ b = d := by
  have h1 := low_unique (by have := h.1; omega) h' e
  rw [low_self h] at h1
  cases h1
  exact ⟨rfl, rfl⟩
end Go.Proofs.YtcapddcmnjeloaaGreatDoor
end

section
/-
  Plain mathematics of chapter 9: the bound of a determinant by its rows, Chinese remainders, symmetric residues. Nothing of a program is used.
-/
namespace Go.Proofs.YtcapddcmnjeloaaGreatDoor
def prodI (f : Nat → Int) : Nat → Int
  | 0 => 1
  | k + 1 => prodI f k * f k
theorem prodI_congr {f g : Nat → Int} : ∀ {n : Nat}, (∀ i, i < n → f i = g i) → prodI f n = prodI g n
  | 0, _ => rfl
  | n + 1, h => by
    show prodI f n * f n = prodI g n * g n
    rw [prodI_congr fun i hi => h i (by omega), h n (by omega)]
theorem prodI_first (f : Nat → Int) : ∀ n, prodI f (n + 1) = f 0 * prodI (fun i => f (i + 1)) n
  | 0 => by show 1 * f 0 = f 0 * 1; omega
  | n + 1 => by
    show prodI f (n + 1) * f (n + 1) = f 0 * (prodI (fun i => f (i + 1)) n * f (n + 1))
    rw [prodI_first f n, Int.mul_assoc]
theorem prodI_nonneg {f : Nat → Int} : ∀ {n : Nat}, (∀ i, i < n → 0 ≤ f i) → 0 ≤ prodI f n
  | 0, _ => by show (0 : Int) ≤ 1; decide
  | n + 1, h => Int.mul_nonneg (prodI_nonneg fun i hi => h i (by omega)) (h n (by omega))
theorem prodI_pos {f : Nat → Int} : ∀ {n : Nat}, (∀ i, i < n → 0 < f i) → 0 < prodI f n
  | 0, _ => by show (0 : Int) < 1; decide
  | n + 1, h => Int.mul_pos (prodI_pos fun i hi => h i (by omega)) (h n (by omega))
theorem prodI_mono {f g : Nat → Int} : ∀ {n : Nat}, (∀ i, i < n → 0 ≤ f i ∧ f i ≤ g i) → prodI f n ≤ prodI g n
  | 0, _ => Int.le_refl _
  | n + 1, h => Int.mul_le_mul (prodI_mono fun i hi => h i (by omega)) (h n (by omega)).2 (h n (by omega)).1 (prodI_nonneg fun i hi => by have := h i (by omega); omega)
theorem prodI_dvd {f : Nat → Int} : ∀ {n i : Nat}, i < n → f i ∣ prodI f n
  | 0, i, h => by omega
  | n + 1, i, h => by
    rcases Nat.lt_or_ge i n with h1 | h1
    · exact Int.dvd_trans (prodI_dvd h1) (Int.dvd_mul_right _ _)
    · obtain rfl : i = n := by omega
      exact Int.dvd_mul_left _ _
theorem sumN_le {n : Nat} {f g : Nat → Int} (h : ∀ i, i < n → f i ≤ g i) : sumN n f ≤ sumN n g := by
  induction n with
  | zero => exact Int.le_refl _
  | succ n ih => exact Int.add_le_add (ih fun i hi => h i (by omega)) (h n (by omega))
theorem sumN_nonneg {n : Nat} {f : Nat → Int} (h : ∀ i, i < n → 0 ≤ f i) : 0 ≤ sumN n f := by
  have := sumN_le h
  rw [sumN_zero] at this
  exact this
theorem sumN_abs (n : Nat) (f : Nat → Int) : ((sumN n f).natAbs : Int) ≤ sumN n fun i => ((f i).natAbs : Int) := by
  induction n with
  | zero => exact Int.le_refl _
  | succ n ih =>
    show ((sumN n f + f n).natAbs : Int) ≤ (sumN n fun i => ((f i).natAbs : Int)) + ((f n).natAbs : Int)
    have := Int.natAbs_add_le (sumN n f) (f n)
    omega
theorem sumN_less {f : Nat → Int} (j : Nat) : ∀ n, j < n + 1 → (∀ i, i < n + 1 → 0 ≤ f i) → (sumN n fun k => f (skp j k)) ≤ sumN (n + 1) f := by
  intro n hj h
  have key : ∀ m, m ≤ n → (sumN m fun k => f (skp j k)) + (if j < m then f j - f m else 0) ≤ sumN m f := by
    intro m
    induction m with
    | zero => intro _; rw [if_neg (by omega)]; exact Int.le_refl _
    | succ m ih =>
      intro hm
      have i1 := ih (by omega)
      show (sumN m fun k => f (skp j k)) + f (skp j m) + (if j < m + 1 then f j - f (m + 1) else 0) ≤ sumN m f + f m
      by_cases h1 : j < m
      · rw [if_pos h1] at i1
        have e : skp j m = m + 1 := by unfold skp; rw [if_neg (by omega)]
        rw [if_pos (by omega), e]
        omega
      · rw [if_neg h1] at i1
        by_cases h2 : j = m
        · have e : skp j m = m + 1 := by unfold skp; rw [if_neg (by omega)]
          rw [if_pos (by omega), e]
          have : f j = f m := by rw [h2]
          omega
        · have e : skp j m = m := by unfold skp; rw [if_pos (by omega)]
          rw [if_neg (by omega), e]
          omega
  have k1 := key n (Nat.le_refl n)
  show _ ≤ sumN n f + f n
  have h1 := h j hj
  have h2 := h n (by omega)
  by_cases e : j < n
  · rw [if_pos e] at k1; omega
  · rw [if_neg e] at k1; omega
def absR (n : Nat) (A : Mx) (i : Nat) : Int := sumN n fun j => ((A i j).natAbs : Int)
theorem absR_nonneg (n : Nat) (A : Mx) (i : Nat) : 0 ≤ absR n A i := sumN_nonneg fun _ _ => Int.natCast_nonneg _
theorem det_bound : ∀ (n : Nat) (A : Mx), ((det n A).natAbs : Int) ≤ prodI (absR n A) n
  | 0, A => by show ((1 : Int).natAbs : Int) ≤ 1; decide
  | n + 1, A => by
    rw [det_row, prodI_first]
    refine Int.le_trans (sumN_abs _ _) ?_
    unfold absR
    rw [sumN_mul]
    refine sumN_le fun j hj => ?_
    have e : ((sg j * A 0 j * det n (mnr A 0 j)).natAbs : Int) = ((A 0 j).natAbs : Int) * ((det n (mnr A 0 j)).natAbs : Int) := by
      rw [Int.natAbs_mul, Int.natAbs_mul]
      have : (sg j).natAbs = 1 := by unfold sg; split <;> rfl
      rw [this, Nat.one_mul, Int.natCast_mul]
    rw [e]
    refine Int.mul_le_mul_of_nonneg_left ?_ (Int.natCast_nonneg _)
    refine Int.le_trans (det_bound n (mnr A 0 j)) (prodI_mono fun i hi => ⟨absR_nonneg _ _ _, ?_⟩)
    show (sumN n fun k => ((mnr A 0 j i k).natAbs : Int)) ≤ sumN (n + 1) fun k => ((A (i + 1) k).natAbs : Int)
    have h0 : skp 0 i = i + 1 := by unfold skp; rw [if_neg (by omega)]
    have := sumN_less (f := fun k => ((A (i + 1) k).natAbs : Int)) j n hj (fun _ _ => Int.natCast_nonneg _)
    refine Int.le_trans (Int.le_of_eq (sumN_congr fun k _ => ?_)) this
    show ((A (skp 0 i) (skp j k)).natAbs : Int) = _
    rw [h0]
theorem cop_mul {a b c : Int} (h : a.gcd b = 1) (ha : a ∣ c) (hb : b ∣ c) : a * b ∣ c := by
  rw [← Int.natAbs_dvd_natAbs, Int.natAbs_mul]
  exact Nat.Coprime.mul_dvd_of_dvd_of_dvd h (Int.natAbs_dvd_natAbs.mpr ha) (Int.natAbs_dvd_natAbs.mpr hb)
def Modu (ms : Nat → Int) (k : Nat) : Prop := ∀ i, i < k → 2 ≤ ms i ∧ (prodI ms i).gcd (ms i) = 1
theorem Modu.pos {ms : Nat → Int} {k : Nat} (h : Modu ms k) : 0 < prodI ms k := prodI_pos fun i hi => by have := (h i hi).1; omega
theorem Modu.less {ms : Nat → Int} {k l : Nat} (h : Modu ms k) (hl : l ≤ k) : Modu ms l := fun i hi => h i (by omega)
theorem Modu.join {ms : Nat → Int} {a b : Int} : ∀ {k : Nat}, Modu ms k → (∀ i, i < k → Cg (ms i) a b) → Cg (prodI ms k) a b
  | 0, _, _ => ⟨a - b, by show a - b = 1 * (a - b); omega⟩
  | k + 1, h, hc => cop_mul (h k (by omega)).2 (Modu.join (h.less (by omega)) fun i hi => hc i (by omega)) (hc k (by omega))
def ChiP (rs ms : Nat → Int) (k : Nat) (x : Int) : Prop := (0 ≤ x ∧ x < prodI ms k) ∧ ∀ i, i < k → Cg (ms i) x (rs i)
theorem ChiP.zero (rs ms : Nat → Int) : ChiP rs ms 0 0 := ⟨⟨Int.le_refl _, by show (0 : Int) < 1; decide⟩, fun i h => by omega⟩
theorem ChiP.uniq {rs ms : Nat → Int} {k : Nat} {x y : Int} (hm : Modu ms k) (h : ChiP rs ms k x) (h' : ChiP rs ms k y) : x = y :=
  Cg.eq h.1 h'.1 (hm.join fun i hi => (h.2 i hi).trans (h'.2 i hi).symm)
def chT (x r p u : Int) : Int := (r - x) % p * (u % p) % p
theorem chT_can {x r p u : Int} (hp : 0 < p) : 0 ≤ chT x r p u ∧ chT x r p u < p := ⟨Int.emod_nonneg _ (by omega), Int.emod_lt_of_pos _ hp⟩
theorem ChiP.step {rs ms : Nat → Int} {k : Nat} {x u : Int} (h : ChiP rs ms k x) (hp : 0 < ms k) (hP : 0 < prodI ms k) (hu : Cg (ms k) (prodI ms k * u) 1) : ChiP rs ms (k + 1) (x + prodI ms k * chT x (rs k) (ms k) u) := by
  have ht := chT_can (x := x) (r := rs k) (u := u) hp
  have e : Cg (ms k) (chT x (rs k) (ms k) u) ((rs k - x) * u) := (Cg.emod _ _).trans ((Cg.emod _ _).mul (Cg.emod _ _))
  generalize chT x (rs k) (ms k) u = t at ht e ⊢
  refine ⟨⟨?_, ?_⟩, fun i hi => ?_⟩
  · have := Int.mul_nonneg (Int.le_of_lt hP) ht.1
    have := h.1.1
    omega
  · show x + prodI ms k * t < prodI ms k * ms k
    have h1 : prodI ms k * (t + 1) ≤ prodI ms k * ms k := Int.mul_le_mul_of_nonneg_left (by omega) (Int.le_of_lt hP)
    rw [Int.mul_add, Int.mul_one] at h1
    have := h.1.2
    omega
  · rcases Nat.lt_or_ge i k with h1 | h1
    · have d : ms i ∣ prodI ms k * t := Int.dvd_trans (prodI_dvd h1) (Int.dvd_mul_right _ _)
      have := (h.2 i h1).add (Cg.zero.mpr d)
      rw [Int.add_zero] at this
      exact this
    · obtain rfl : i = k := by omega
      have e2 : Cg (ms i) (prodI ms i * t) (prodI ms i * ((rs i - x) * u)) := Cg.mul_left _ e
      have e3 : Cg (ms i) (prodI ms i * ((rs i - x) * u)) ((rs i - x) * 1) := by
        have : prodI ms i * ((rs i - x) * u) = (rs i - x) * (prodI ms i * u) := by grind
        rw [this]
        exact Cg.mul_left _ hu
      have e4 := (Cg.refl (ms i) x).add (e2.trans e3)
      refine e4.trans (Cg.of_eq ?_)
      omega
def symM (x m : Int) : Int := if m < 2 * (x % m) then x % m - m else x % m
theorem symM_says {x m : Int} (hm : 0 < m) : Cg m (symM x m) x ∧ 2 * symM x m ≤ m ∧ -m < 2 * symM x m := by
  have h1 : 0 ≤ x % m := Int.emod_nonneg _ (by omega)
  have h2 : x % m < m := Int.emod_lt_of_pos _ hm
  have h3 := Cg.emod m x
  unfold symM
  split
  · refine ⟨?_, by omega, by omega⟩
    have := h3.sub (Cg.zero.mpr (Int.dvd_refl m))
    rw [Int.sub_zero] at this
    exact this
  · exact ⟨h3, by omega, by omega⟩
theorem symM_uniq {x m y : Int} (h : Cg m y x) (h1 : 2 * y ≤ m) (h2 : -m < 2 * y) : symM x m = y := by
  have hm : 0 < m := by omega
  obtain ⟨e1, e2, e3⟩ := symM_says (x := x) hm
  have e := h.trans e1.symm
  generalize symM x m = z at e e1 e2 e3 ⊢
  obtain ⟨k, hk⟩ := e
  have h3 : k < 1 := Int.lt_of_mul_lt_mul_left (a := m) (by rw [Int.mul_one]; omega) (by omega)
  have h4 : -1 < k := Int.lt_of_mul_lt_mul_left (a := m) (by rw [Int.mul_neg, Int.mul_one]; omega) (by omega)
  obtain rfl : k = 0 := by omega
  rw [Int.mul_zero] at hk
  omega
theorem prm_cop {ms : Nat → Int} {p : Int} (hp : Prm p) : ∀ k, (∀ i, i < k → Prm (ms i) ∧ ms i ≠ p) → ¬ p ∣ prodI ms k
  | 0, _, hd => hp.one hd
  | k + 1, h, hd => by
    rcases hp.mul hd with h1 | h1
    · exact prm_cop hp k (fun i hi => h i (by omega)) h1
    · have h2 := h k (by omega)
      have := hp.1
      rcases h2.1.div (by omega) h1 with h3 | h3
      · omega
      · exact h2.2 h3.symm
theorem Modu.primes {ms : Nat → Int} {k : Nat} (hp : ∀ i, i < k → Prm (ms i)) (hd : ∀ i j, i < j → j < k → ms i ≠ ms j) : Modu ms k := fun i hi => by
  refine ⟨(hp i hi).1, ?_⟩
  have := (hp i hi).gcd (prm_cop (hp i hi) i fun j hj => ⟨hp j (by omega), hd j i hj hi⟩)
  omega
theorem chi_img {ms : Nat → Int} {k : Nat} {x d b : Int} (hm : Modu ms k) (hx : ChiP (fun i => d % ms i) ms k x) (hb : (d.natAbs : Int) ≤ b) (hP : 2 * b < prodI ms k) : symM x (prodI ms k) = d := by
  refine symM_uniq ?_ (by omega) (by omega)
  exact (hm.join fun i hi => (hx.2 i hi).trans (Cg.emod _ _)).symm
end Go.Proofs.YtcapddcmnjeloaaGreatDoor
end

section
/-
  Plain mathematics of chapter 11: sums of products with ratios; what it is that ratios solve equations; that there is only one solution. Nothing of a program is used.
-/
namespace Go.Proofs.YtcapddcmnjeloaaGreatDoor
def sumR (u : Nat → Int) (z : Nat → Int × Int) : Nat → Int × Int
  | 0 => (0, 1)
  | j + 1 => addR (sumR u z j).1 (sumR u z j).2 (mulR (u j) 1 (z j).1 (z j).2).1 (mulR (u j) 1 (z j).1 (z j).2).2
theorem sumR_succ (u : Nat → Int) (z : Nat → Int × Int) (j : Nat) : sumR u z (j + 1) = addR (sumR u z j).1 (sumR u z j).2 (mulR (u j) 1 (z j).1 (z j).2).1 (mulR (u j) 1 (z j).1 (z j).2).2 := rfl
theorem sumR_says {u : Nat → Int} {z : Nat → Int × Int} : ∀ {k : Nat}, RatQ (sumR u z k) → (∀ j, j < k → RatQ (z j)) ∧ ∀ (D : Int) (y : Nat → Int), (∀ j, j < k → y j * (z j).2 = (z j).1 * D) → (sumR u z k).1 * D = (sumR u z k).2 * sumN k fun j => u j * y j
  | 0, _ => ⟨fun j hj => absurd hj (by omega), fun D y _ => by show 0 * D = 1 * 0; omega⟩
  | k + 1, h => by
    rw [sumR_succ] at h
    obtain ⟨h1, h2, h3⟩ := addR_back h
    obtain ⟨-, g2, g3⟩ := mulR_back (h2 : RatQ (mulR (u k) 1 (z k).1 (z k).2))
    obtain ⟨i1, i2⟩ := sumR_says (k := k) h1
    refine ⟨fun j hj => ?_, fun D y hy => ?_⟩
    · rcases Nat.lt_or_ge j k with hk | hk
      · exact i1 j hk
      · obtain rfl : j = k := by omega
        exact g2
    · have e1 := i2 D y fun j hj => hy j (by omega)
      have e2 := hy k (by omega)
      rw [← sumR_succ] at h3
      show (sumR u z (k + 1)).1 * D = (sumR u z (k + 1)).2 * (sumN k (fun j => u j * y j) + u k * y k)
      generalize (sumR u z (k + 1)).1 = p' at h3 ⊢
      generalize (sumR u z (k + 1)).2 = q' at h3 ⊢
      have hq := h1.1
      have ht := h2.1
      have hd := g2.1
      generalize (sumR u z k).1 = p at *
      generalize (sumR u z k).2 = q at *
      generalize (mulR (u k) 1 (z k).1 (z k).2).1 = s at *
      generalize (mulR (u k) 1 (z k).1 (z k).2).2 = t at *
      generalize (z k).1 = n at *
      generalize (z k).2 = d at *
      generalize sumN k (fun j => u j * y j) = S at *
      generalize y k = v at *
      generalize u k = w at *
      have e3 : w * v * t = s * D := by
        refine Int.eq_of_mul_eq_mul_right (show d ≠ 0 by omega) ?_
        calc w * v * t * d = w * t * (v * d) := by grind
          _ = w * t * (n * D) := by rw [e2]
          _ = w * n * t * D := by grind
          _ = s * (1 * d) * D := by rw [g3]
          _ = s * D * d := by grind
      refine Int.eq_of_mul_eq_mul_right (show q * t ≠ 0 from Int.mul_ne_zero (by omega) (by omega)) ?_
      calc p' * D * (q * t) = p' * (q * t) * D := by grind
        _ = (p * t + s * q) * q' * D := by rw [← h3]
        _ = q' * (t * (p * D) + q * (s * D)) := by grind
        _ = q' * (t * (q * S) + q * (w * v * t)) := by rw [e1, e3]
        _ = q' * (S + w * v) * (q * t) := by grind
structure RSol (r c : Nat) (M : Mx) (b : Nat → Int) (z : Nat → Int × Int) : Prop where
  rat : ∀ j, j < c → RatQ (z j)
  sol : ∀ (D : Int) (y : Nat → Int), (∀ j, j < c → y j * (z j).2 = (z j).1 * D) → ∀ i, i < r → (sumN c fun j => M i j * y j) = D * b i
theorem common (z : Nat → Int × Int) (E : Int) (n : Nat) : ∃ y : Nat → Int, ∀ j, j < n → y j * (z j).2 = (z j).1 * (prodI (fun j => (z j).2) n * E) := by
  have h : ∀ j, ∃ v : Int, j < n → v * (z j).2 = (z j).1 * (prodI (fun j => (z j).2) n * E) := fun j => by
    by_cases hj : j < n
    · obtain ⟨q, hq⟩ := prodI_dvd (f := fun j => (z j).2) hj
      refine ⟨(z j).1 * q * E, fun _ => ?_⟩
      rw [hq]
      show (z j).1 * q * E * (z j).2 = (z j).1 * ((z j).2 * q * E)
      grind
    · exact ⟨0, fun h => absurd h hj⟩
  exact ⟨fun j => Classical.choose (h j), fun j hj => Classical.choose_spec (h j) hj⟩
theorem dens_pos {n : Nat} {z : Nat → Int × Int} (h : ∀ j, j < n → RatQ (z j)) : 0 < prodI (fun j => (z j).2) n := prodI_pos fun j hj => by have := (h j hj).1; omega
theorem RSol.uniq {n : Nat} {M : Mx} {b : Nat → Int} {z w : Nat → Int × Int} (hd : det n M ≠ 0) (h : RSol n n M b z) (h' : RSol n n M b w) : ∀ j, j < n → z j = w j := fun j hj => by
  have p1 := dens_pos h.rat
  have p2 := dens_pos h'.rat
  obtain ⟨y, hy⟩ := common z (prodI (fun j => (w j).2) n) n
  obtain ⟨x, hx⟩ := common w (prodI (fun j => (z j).2) n) n
  have eP : prodI (fun j => (w j).2) n * prodI (fun j => (z j).2) n = prodI (fun j => (z j).2) n * prodI (fun j => (w j).2) n := Int.mul_comm _ _
  rw [eP] at hx
  have hP : prodI (fun j => (z j).2) n * prodI (fun j => (w j).2) n ≠ 0 := Int.mul_ne_zero (by omega) (by omega)
  generalize prodI (fun j => (z j).2) n * prodI (fun j => (w j).2) n = D at *
  have e := sol_uniq hd (h.sol D y hy) (h'.sol D x hx) j hj
  have e1 : y j = x j := Int.eq_of_mul_eq_mul_left hP e
  have e2 := hy j hj
  have e3 := hx j hj
  rw [e1] at e2
  have e4 : (z j).1 * (w j).2 = (w j).1 * (z j).2 := by
    refine Int.eq_of_mul_eq_mul_right hP ?_
    calc (z j).1 * (w j).2 * D = (z j).1 * D * (w j).2 := by grind
      _ = x j * (z j).2 * (w j).2 := by rw [e2]
      _ = x j * (w j).2 * (z j).2 := by grind
      _ = (w j).1 * D * (z j).2 := by rw [e3]
      _ = (w j).1 * (z j).2 * D := by grind
  obtain ⟨a1, a2⟩ := rat_same (h.rat j hj) (h'.rat j hj) e4
  exact Prod.ext a1 a2
theorem RSol.cramer {n : Nat} {M : Mx} {b : Nat → Int} {z : Nat → Int × Int} (hd : det n M ≠ 0) (hz : ∀ j, j < n → RatQ (z j) ∧ det n (rcX M j b) * (z j).2 = (z j).1 * det n M) : RSol n n M b z where
  rat := fun j hj => (hz j hj).1
  sol := fun D y hy i hi => by
    have e : ∀ j, j < n → y j * det n M = D * det n (rcX M j b) := fun j hj => by
      have e1 := hy j hj
      obtain ⟨h1, h2⟩ := hz j hj
      refine Int.eq_of_mul_eq_mul_right (show (z j).2 ≠ 0 by have := h1.1; omega) ?_
      calc y j * det n M * (z j).2 = y j * (z j).2 * det n M := by grind
        _ = (z j).1 * D * det n M := by rw [e1]
        _ = D * ((z j).1 * det n M) := by grind
        _ = D * (det n (rcX M j b) * (z j).2) := by rw [h2]
        _ = D * det n (rcX M j b) * (z j).2 := by grind
    refine Int.eq_of_mul_eq_mul_right hd ?_
    rw [sumN_mul]
    have e2 : (sumN n fun j => M i j * y j * det n M) = sumN n fun j => D * (M i j * det n (rcX M j b)) := sumN_congr fun j hj => by
      show M i j * y j * det n M = D * (M i j * det n (rcX M j b))
      rw [Int.mul_assoc, e j hj]; grind
    rw [e2, ← sumN_mul_left, Go.Proofs.YtcapddcmnjeloaaGreatDoor.cramer M b hi]
    grind
theorem sumR_or (u : Nat → Int) (z : Nat → Int × Int) (k : Nat) : sumR u z k = (0, 0) ∨ RatQ (sumR u z k) := by
  cases k with
  | zero => exact .inr (by show IsRatP 0 1; decide)
  | succ k => exact addR_or _ _ _ _
theorem RSol.sums {r c : Nat} {M : Mx} {b : Nat → Int} {z : Nat → Int × Int} (hr : 0 < r ∨ c = 0) (h : ∀ i, i < r → sumR (M i) z c = (b i, 1)) : RSol r c M b z := by
  have hq : ∀ i, i < r → RatQ (sumR (M i) z c) := fun i hi => by
    rcases sumR_or (M i) z c with h0 | h0
    · rw [h i hi] at h0
      have := congrArg Prod.snd h0
      have : (1 : Int) = 0 := this
      omega
    · exact h0
  refine ⟨fun j hj => ?_, fun D y hy i hi => ?_⟩
  · rcases hr with hr | hr
    · exact (sumR_says (hq 0 hr)).1 j hj
    · omega
  · have := (sumR_says (hq i hi)).2 D y hy
    rw [h i hi] at this
    have : b i * D = 1 * sumN c fun j => M i j * y j := this
    rw [Int.one_mul] at this
    rw [← this, Int.mul_comm]
end Go.Proofs.YtcapddcmnjeloaaGreatDoor
end

section
/-
  Plain mathematics of chapter 6: a matrix without a row and a column is a minor. Nothing of a program is used.
-/
namespace Go.Proofs.YtcapddcmnjeloaaGreatDoor
def woL (C : Nat) (row col : Int) (xs : List Int) (p : Nat) : List Int := ((List.range p).filter fun q => decide (((q / C : Nat) : Int) ≠ row ∧ ((q % C : Nat) : Int) ≠ col)).map fun q => xs.getD q 0
theorem woL_zero (C : Nat) (row col : Int) (xs : List Int) : woL C row col xs 0 = [] := rfl
theorem woL_in {C : Nat} {row col : Int} {xs : List Int} {p : Nat} (h : ((p / C : Nat) : Int) ≠ row ∧ ((p % C : Nat) : Int) ≠ col) : woL C row col xs (p + 1) = woL C row col xs p ++ [xs.getD p 0] := by
  unfold woL
  rw [List.range_succ, List.filter_append, List.map_append, List.filter_cons_of_pos (p := (fun q : Nat => decide (((q / C : Nat) : Int) ≠ row ∧ ((q % C : Nat) : Int) ≠ col))) (a := p) (l := []) (decide_eq_true h)]
  rfl
theorem woL_out {C : Nat} {row col : Int} {xs : List Int} {p : Nat} (h : ¬ (((p / C : Nat) : Int) ≠ row ∧ ((p % C : Nat) : Int) ≠ col)) : woL C row col xs (p + 1) = woL C row col xs p := by
  unfold woL
  rw [List.range_succ, List.filter_append, List.map_append, List.filter_cons_of_neg (p := (fun q : Nat => decide (((q / C : Nat) : Int) ≠ row ∧ ((q % C : Nat) : Int) ≠ col))) (a := p) (l := []) (by show ¬ decide _ = true; rw [decide_eq_false h]; decide)]
  exact List.append_nil _
theorem tab_row (r c : Nat) (f : Nat → Nat → Int) : tab (r + 1) c f = tab r c f ++ (List.range c).map (f r) := by
  unfold tab
  rw [Nat.add_mul, Nat.one_mul, List.range_add, List.map_append, List.map_map]
  congr 1
  refine List.map_congr_left fun j hj => ?_
  have hj := List.mem_range.mp hj
  show f ((r * c + j) / c) ((r * c + j) % c) = f r j
  rw [idx_div hj, idx_mod hj]
def less (i k : Nat) : Nat := if i < k then k - 1 else k
theorem less_out {i : Nat} : less i (i + 1) = less i i := by unfold less; rw [if_pos (by omega), if_neg (by omega)]; omega
theorem less_in {i k : Nat} (h : k ≠ i) : less i (k + 1) = less i k + 1 ∧ skp i (less i k) = k := by
  unfold less skp
  by_cases h1 : i < k
  · rw [if_pos (show i < k + 1 by omega), if_pos h1, if_neg (show ¬ k - 1 < i by omega)]; omega
  · rw [if_neg (show ¬ i < k + 1 by omega), if_neg h1, if_pos (show k < i by omega)]; omega
theorem woL_row_out (C row col : Nat) (xs : List Int) (c : Nat) (hc : c ≤ C) : woL C row col xs (row * C + c) = woL C row col xs (row * C) := by
  induction c with
  | zero => rfl
  | succ c ih =>
    rw [← Nat.add_assoc, woL_out (by rw [idx_div (by omega)]; omega), ih (by omega)]
theorem woL_row_in (C row col : Nat) (xs : List Int) (r : Nat) (hr : r ≠ row) (c : Nat) (hc : c ≤ C) :
    woL C row col xs (r * C + c) = woL C row col xs (r * C) ++ (List.range (less col c)).map fun j => xs.getD (r * C + skp col j) 0 := by
  induction c with
  | zero => simp [less]
  | succ c ih =>
    rw [← Nat.add_assoc]
    by_cases h : c = col
    · subst h
      rw [woL_out (by rw [idx_mod (by omega)]; omega), ih (by omega), less_out]
    · obtain ⟨h1, h2⟩ := less_in h
      rw [woL_in (by rw [idx_div (by omega), idx_mod (by omega)]; omega), ih (by omega), h1, List.range_succ, List.map_append, List.append_assoc]
      simp only [List.map_cons, List.map_nil, h2]
theorem woL_rows (C row col : Nat) (xs : List Int) (hc : col < C) (r : Nat) : woL C row col xs (r * C) = tab (less row r) (C - 1) fun i j => xs.getD (skp row i * C + skp col j) 0 := by
  have hC : less col C = C - 1 := by unfold less; rw [if_pos hc]
  induction r with
  | zero => rw [Nat.zero_mul]; simp [less, woL_zero, tab]
  | succ r ih =>
    rw [Nat.add_mul, Nat.one_mul]
    by_cases h : r = row
    · subst h
      rw [woL_row_out _ _ _ _ _ (Nat.le_refl _), ih, less_out]
    · obtain ⟨h1, h2⟩ := less_in h
      rw [woL_row_in _ _ _ _ _ h _ (Nat.le_refl _), ih, h1, tab_row, hC, h2]
theorem woL_tab (n row col : Nat) (xs : List Int) (hr : row < n + 1) (hc : col < n + 1) : woL (n + 1) row col xs ((n + 1) * (n + 1)) = tab n n fun i j => xs.getD (skp row i * (n + 1) + skp col j) 0 := by
  rw [woL_rows _ _ _ _ hc]
  unfold less
  rw [if_pos hr]
  rfl
end Go.Proofs.YtcapddcmnjeloaaGreatDoor
end

section
/-
  What a call has built by append, whatever it is of.
-/
namespace Go.Proofs.YtcapddcmnjeloaaGreatDoor
open Go.RowKit
theorem ownB_ge2 {w : World} {base n k : Nat} {e : TypeId} {size : Nat} {v : Value} {xs : List Value} (h : w.ownsRow base e size v n xs) (hk : v.ownBlock = some k) : base ≤ k := (h.lt k hk).1
theorem rows_keep {w w' : World} {base n : Nat} {e : TypeId} {size : Nat} {v : Value} {xs : List Value} (h : w.ownsRow base e size v n xs) (hb : Below w.heap.size w w') : w'.ownsRow base e size v n xs := by
  obtain ⟨h1, ⟨h2, h3⟩ | ⟨g, cap, cur, e, hB, hg, rest⟩⟩ := h
  · exact ⟨h1, .inl ⟨h2, h3⟩⟩
  · exact ⟨h1, .inr ⟨g, cap, cur, e, hB, (hb.block g (lt_of_block hg)).trans hg, rest⟩⟩
theorem rows_form {w : World} {base n : Nat} {e : TypeId} {size : Nat} {v : Value} {xs : List Value} (h : w.ownsRow base e size v n xs) : ∃ a m c, v = .slice a m c := by
  obtain ⟨h1, ⟨h2, h3⟩ | ⟨g, cap, cur, e, hB, hg, rest⟩⟩ := h
  · exact ⟨_, _, _, h2⟩
  · exact ⟨_, _, _, e⟩
end Go.Proofs.YtcapddcmnjeloaaGreatDoor
end

section
/-
  Chapter 6, in the model: a matrix without a row and a column.
-/
namespace Go.Proofs.YtcapddcmnjeloaaGreatDoor
set_option maxRecDepth 100000
open Go.RowKit
end Go.Proofs.YtcapddcmnjeloaaGreatDoor
end

section
/-
  Elimination without fractions: the cells that are made are bordered minors, so each division is exact. Plain mathematics: nothing of a program is used.
-/
namespace Go.Proofs.YtcapddcmnjeloaaGreatDoor
def bdX (t i j : Nat) (A : Mx) : Mx := fun r c => A (if r < t then r else i) (if c < t then c else j)
def bm (t i j : Nat) (A : Mx) : Int := det (t + 1) (bdX t i j A)
end Go.Proofs.YtcapddcmnjeloaaGreatDoor
end

section
/-
  A block of four cells.
-/
namespace Go.Proofs.YtcapddcmnjeloaaGreatDoor
open Go.RowKit
end Go.Proofs.YtcapddcmnjeloaaGreatDoor
end

section
/-
  Chapter 5, in the model: sums and products with a mark for what is beyond the limit; IsRowOp.
-/
namespace Go.Proofs.YtcapddcmnjeloaaGreatDoor
open Go.RowKit
def badN : Int := -4611686018427387904
def fitB (n : Int) : Int := if NumP n then n else badN
def addB (a b : Int) : Int := if a = badN ∨ b = badN then badN else fitB (wrap64 (a + b))
def mulB (a b : Int) : Int := if a = badN ∨ b = badN then badN else fitB (wrap64 (a * b))
end Go.Proofs.YtcapddcmnjeloaaGreatDoor
end

section
/-
  Plain mathematics of chapter 5: an operation on rows, cell by cell. Nothing of a program is used.
-/
namespace Go.Proofs.YtcapddcmnjeloaaGreatDoor
def opAt (k : Int) (I J : Nat) (t : Int) (C : Nat) (xs : List Int) (p : Nat) : Int :=
  if k = 0 then (if p / C = I then xs.getD (J * C + p % C) 0 else if p / C = J then xs.getD (I * C + p % C) 0 else xs.getD p 0)
  else if k = 1 then (if p / C = I then mulB (xs.getD p 0) (-1) else xs.getD p 0)
  else (if p / C = I then addB (xs.getD p 0) (mulB (xs.getD (J * C + p % C) 0) t) else xs.getD p 0)
def opTo (k : Int) (I J : Nat) (t : Int) (C : Nat) (xs : List Int) (q : Nat) : List Int := (List.range xs.length).map fun p => if p % C < q then opAt k I J t C xs p else xs.getD p 0
def opL (k : Int) (I J : Nat) (t : Int) (C : Nat) (xs : List Int) : List Int := (List.range xs.length).map (opAt k I J t C xs)
theorem opTo_length (k : Int) (I J : Nat) (t : Int) (C : Nat) (xs : List Int) (q : Nat) : (opTo k I J t C xs q).length = xs.length := by simp [opTo]
theorem opL_length (k : Int) (I J : Nat) (t : Int) (C : Nat) (xs : List Int) : (opL k I J t C xs).length = xs.length := by simp [opL]
theorem opTo_getD (k : Int) (I J : Nat) (t : Int) (C : Nat) (xs : List Int) (q p : Nat) (hp : p < xs.length) : (opTo k I J t C xs q).getD p 0 = if p % C < q then opAt k I J t C xs p else xs.getD p 0 := by
  simp [opTo, List.getD, hp]
theorem opTo_zero (k : Int) (I J : Nat) (t : Int) (C : Nat) (xs : List Int) : opTo k I J t C xs 0 = xs := by
  refine list_getD (opTo_length _ _ _ _ _ _ _) fun p hp => ?_
  rw [opTo_length] at hp
  rw [opTo_getD _ _ _ _ _ _ _ _ hp, if_neg (by omega)]
theorem opTo_all (k : Int) (I J : Nat) (t : Int) (C : Nat) (xs : List Int) (h : xs.length = 0 ∨ 0 < C) : opTo k I J t C xs C = opL k I J t C xs := by
  unfold opTo opL
  refine List.map_congr_left fun p hp => ?_
  have hp := List.mem_range.mp hp
  rw [if_pos (Nat.mod_lt p (by omega))]
theorem opTo_at (k : Int) (I J : Nat) (t : Int) (C : Nat) (xs : List Int) (q i : Nat) (hq : q < C) (hp : i * C + q < xs.length) : (opTo k I J t C xs q).getD (i * C + q) 0 = xs.getD (i * C + q) 0 := by
  rw [opTo_getD _ _ _ _ _ _ _ _ hp, idx_mod hq, if_neg (by omega)]
theorem opTo_next {k : Int} {I J : Nat} {t : Int} {C : Nat} {xs L : List Int} {q : Nat} (hl : L.length = xs.length) (h : ∀ p : Nat, p < xs.length → L.getD p 0 = if p % C = q then opAt k I J t C xs p else (opTo k I J t C xs q).getD p 0) : L = opTo k I J t C xs (q + 1) := by
  refine list_getD (by rw [hl, opTo_length]) fun p hp => ?_
  rw [hl] at hp
  rw [h p hp, opTo_getD _ _ _ _ _ _ _ _ hp, opTo_getD _ _ _ _ _ _ _ _ hp]
  by_cases e : p % C = q
  · rw [if_pos e, if_pos (by omega)]
  · rw [if_neg e]
    by_cases e2 : p % C < q
    · rw [if_pos e2, if_pos (by omega)]
    · rw [if_neg e2, if_neg (by omega)]
theorem split_idx {C p q : Nat} (h : p % C = q) : p = p / C * C + q := by
  have := Nat.div_add_mod p C
  rw [Nat.mul_comm] at this
  omega
theorem op_swap (I J : Nat) (t : Int) (C R : Nat) (xs : List Int) (q : Nat) (hl : xs.length = R * C) (hI : I < R) (hJ : J < R) (hq : q < C) :
    ((opTo 0 I J t C xs q).set (I * C + q) (xs.getD (J * C + q) 0)).set (J * C + q) (xs.getD (I * C + q) 0) = opTo 0 I J t C xs (q + 1) ∨ I = J := by
  by_cases hIJ : I = J
  · exact .inr hIJ
  refine .inl (opTo_next (by rw [List.length_set, List.length_set, opTo_length]) fun p hp => ?_)
  have a1 : I * C + q < xs.length := by rw [hl]; exact idx_lt hI hq
  have a2 : J * C + q < xs.length := by rw [hl]; exact idx_lt hJ hq
  rw [getD_set _ _ _ _ (by rw [List.length_set, opTo_length]; exact a2), getD_set _ _ _ _ (by rw [opTo_length]; exact a1)]
  by_cases e : p % C = q
  · rw [if_pos e]
    have sp := split_idx e
    unfold opAt
    rw [if_pos rfl, e]
    by_cases e1 : p / C = I
    · have : p = I * C + q := by rw [← e1]; exact sp
      rw [if_pos e1, if_neg (fun h => hIJ (by rw [← e1, h, idx_div hq])), if_pos this]
    · rw [if_neg e1]
      by_cases e2 : p / C = J
      · have : p = J * C + q := by rw [← e2]; exact sp
        rw [if_pos e2, if_pos this]
      · rw [if_neg e2, if_neg (fun h => e2 (by rw [h, idx_div hq])), if_neg (fun h => e1 (by rw [h, idx_div hq])), opTo_getD _ _ _ _ _ _ _ _ hp, if_neg (by omega)]
  · rw [if_neg e, if_neg (fun h => e (by rw [h, idx_mod hq])), if_neg (fun h => e (by rw [h, idx_mod hq]))]
end Go.Proofs.YtcapddcmnjeloaaGreatDoor
end

section
/-
  Plain mathematics of chapter 6: the determinant by expansion along the first row, with a mark where one that is met is beyond the limit. Nothing of a program is used.
-/
namespace Go.Proofs.YtcapddcmnjeloaaGreatDoor
def mxL (n : Nat) (xs : List Int) : Mx := fun r c => xs.getD (r * n + c) 0
theorem mxL_tab (n : Nat) (f : Nat → Nat → Int) : EqX n (mxL n (tab n n f)) f := fun _ _ hr hc => tab_at n n f hr hc
def detAcc (g f : Nat → Int) : Nat → Option Int
  | 0 => some 0
  | j + 1 => match detAcc g f j with
    | none => none
    | some s => if g j = 0 then some s else if f j = badN then none else some (s + sg j * g j * f j)
theorem detAcc_skip {g f : Nat → Int} {j : Nat} {s : Int} (h : detAcc g f j = some s) (h0 : g j = 0) : detAcc g f (j + 1) = some s := by
  show (match detAcc g f j with | none => _ | some s => _) = _
  rw [h]
  exact if_pos h0
theorem detAcc_bad {g f : Nat → Int} {j : Nat} {s : Int} (h : detAcc g f j = some s) (h0 : g j ≠ 0) (h1 : f j = badN) : detAcc g f (j + 1) = none := by
  show (match detAcc g f j with | none => _ | some s => _) = _
  rw [h]
  show (if g j = 0 then _ else _) = _
  rw [if_neg h0, if_pos h1]
theorem detAcc_add {g f : Nat → Int} {j : Nat} {s : Int} (h : detAcc g f j = some s) (h0 : g j ≠ 0) (h1 : f j ≠ badN) : detAcc g f (j + 1) = some (s + sg j * g j * f j) := by
  show (match detAcc g f j with | none => _ | some s => _) = _
  rw [h]
  show (if g j = 0 then _ else _) = _
  rw [if_neg h0, if_neg h1]
theorem detAcc_none_succ {g f : Nat → Int} {j : Nat} (h : detAcc g f j = none) : detAcc g f (j + 1) = none := by
  show (match detAcc g f j with | none => _ | some s => _) = _
  rw [h]
theorem detAcc_none {g f : Nat → Int} {j k : Nat} (h : detAcc g f j = none) (hk : j ≤ k) : detAcc g f k = none := by
  induction k with
  | zero => obtain rfl : j = 0 := by omega
            exact h
  | succ k ih =>
    rcases Nat.lt_or_ge k j with h1 | h1
    · obtain rfl : j = k + 1 := by omega
      exact h
    · exact detAcc_none_succ (ih h1)
theorem detAcc_sum {g f : Nat → Int} {k : Nat} : ∀ {s : Int}, detAcc g f k = some s → s = sumN k fun j => sg j * g j * f j := by
  induction k with
  | zero => intro s h; exact (Option.some.inj h).symm
  | succ k ih =>
    intro s h
    cases h1 : detAcc g f k with
    | none => rw [detAcc_none_succ h1] at h; cases h
    | some s1 =>
      show s = sumN k _ + sg k * g k * f k
      by_cases h0 : g k = 0
      · rw [detAcc_skip h1 h0] at h
        rw [← Option.some.inj h, ih h1, h0, Int.mul_zero, Int.zero_mul, Int.add_zero]
      · by_cases h2 : f k = badN
        · rw [detAcc_bad h1 h0 h2] at h; cases h
        · rw [detAcc_add h1 h0 h2] at h
          rw [← Option.some.inj h, ih h1]
theorem detAcc_met {g f : Nat → Int} {k : Nat} : ∀ {s : Int}, detAcc g f k = some s → ∀ j, j < k → g j ≠ 0 → f j ≠ badN := by
  induction k with
  | zero => intro s _ j hj; omega
  | succ k ih =>
    intro s h j hj h0 h2
    cases h1 : detAcc g f k with
    | none => rw [detAcc_none_succ h1] at h; cases h
    | some s1 =>
      rcases Nat.lt_or_ge j k with h3 | h3
      · exact ih h1 j h3 h0 h2
      · obtain rfl : j = k := by omega
        rw [detAcc_bad h1 h0 h2] at h; cases h
theorem sg_or (k : Nat) : sg k = 1 ∨ sg k = -1 := by unfold sg; split <;> simp
theorem sg_num {k : Nat} {x : Int} (h : NumP x) : NumP (sg k * x) := by
  unfold NumP at *
  rcases sg_or k with e | e <;> rw [e] <;> omega
theorem detAcc_bd {g f : Nat → Int} {k : Nat} (hg : ∀ j, j < k → NumP (g j)) (hf : ∀ j, j < k → f j = badN ∨ NumP (f j)) : ∀ {s : Int}, detAcc g f k = some s → -((k : Int) * 160000000000000000) ≤ s ∧ s ≤ (k : Int) * 160000000000000000 := by
  induction k with
  | zero => intro s h; rw [← Option.some.inj h]; omega
  | succ k ih =>
    intro s h
    cases h1 : detAcc g f k with
    | none => rw [detAcc_none_succ h1] at h; cases h
    | some s1 =>
      have b := ih (fun j hj => hg j (by omega)) (fun j hj => hf j (by omega)) h1
      by_cases h0 : g k = 0
      · rw [detAcc_skip h1 h0] at h
        rw [← Option.some.inj h]; omega
      · by_cases h2 : f k = badN
        · rw [detAcc_bad h1 h0 h2] at h; cases h
        · rw [detAcc_add h1 h0 h2] at h
          have m := mul_num _ _ (sg_num (k := k) (hg k (by omega))) ((hf k (by omega)).resolve_left h2)
          rw [← Option.some.inj h]; omega
def detB : Nat → List Int → Int
  | 0, _ => 1
  | n + 1, xs => match detAcc (fun j => xs.getD j 0) (fun j => detB n (woL (n + 1) (0 : Int) (j : Int) xs ((n + 1) * (n + 1)))) (n + 1) with
    | none => badN
    | some s => fitB s
def mnB (n : Nat) (xs : List Int) (j : Nat) : Int := detB n (woL (n + 1) (0 : Int) (j : Int) xs ((n + 1) * (n + 1)))
theorem detB_none {n : Nat} {xs : List Int} (h : detAcc (fun j => xs.getD j 0) (mnB n xs) (n + 1) = none) : detB (n + 1) xs = badN := by
  show (match detAcc (fun j => xs.getD j 0) (mnB n xs) (n + 1) with | none => badN | some s => fitB s) = _
  rw [h]
theorem detB_some {n : Nat} {xs : List Int} {s : Int} (h : detAcc (fun j => xs.getD j 0) (mnB n xs) (n + 1) = some s) : detB (n + 1) xs = fitB s := by
  show (match detAcc (fun j => xs.getD j 0) (mnB n xs) (n + 1) with | none => badN | some s => fitB s) = _
  rw [h]
theorem fitB_or (z : Int) : fitB z = badN ∨ NumP (fitB z) := by
  unfold fitB
  by_cases h : NumP z
  · rw [if_pos h]; exact .inr h
  · rw [if_neg h]; exact .inl rfl
theorem detB_or (n : Nat) (xs : List Int) : detB n xs = badN ∨ NumP (detB n xs) := by
  cases n with
  | zero => exact .inr (by show NumP 1; decide)
  | succ n =>
    cases h : detAcc (fun j => xs.getD j 0) (mnB n xs) (n + 1) with
    | none => exact .inl (detB_none h)
    | some s => rw [detB_some h]; exact fitB_or s
theorem mxL_woL {n : Nat} {xs : List Int} {i j : Nat} (hi : i < n + 1) (hj : j < n + 1) : EqX n (mxL n (woL (n + 1) (i : Int) (j : Int) xs ((n + 1) * (n + 1)))) (mnr (mxL (n + 1) xs) i j) := by
  rw [woL_tab n i j xs hi hj]
  exact mxL_tab n _
theorem detB_det (n : Nat) : ∀ xs : List Int, detB n xs ≠ badN → detB n xs = det n (mxL n xs) := by
  induction n with
  | zero => intro xs _; rfl
  | succ n ih =>
    intro xs hb
    cases h : detAcc (fun j => xs.getD j 0) (mnB n xs) (n + 1) with
    | none => exact absurd (detB_none h) hb
    | some s =>
      rw [detB_some h] at hb ⊢
      have e : fitB s = s := by
        unfold fitB at hb ⊢
        by_cases hs : NumP s
        · rw [if_pos hs]
        · rw [if_neg hs] at hb; exact absurd rfl hb
      rw [e, detAcc_sum h, det_row]
      refine sumN_congr fun j hj => ?_
      have e0 : mxL (n + 1) xs 0 j = xs.getD j 0 := by unfold mxL; rw [Nat.zero_mul, Nat.zero_add]
      rw [e0]
      by_cases h0 : xs.getD j 0 = 0
      · simp only [h0, Int.mul_zero, Int.zero_mul]
      · have hm := detAcc_met h j hj h0
        have := ih _ hm
        show sg j * xs.getD j 0 * detB n _ = _
        rw [this, det_congr (show EqX n (mxL n (woL (n + 1) (0 : Int) (j : Int) xs ((n + 1) * (n + 1)))) (mnr (mxL (n + 1) xs) 0 j) from mxL_woL (i := 0) (by omega) hj)]
def detM (n : Nat) (xs : List Int) : Int × Bool := if detB n xs = badN then (0, false) else (detB n xs, true)
end Go.Proofs.YtcapddcmnjeloaaGreatDoor
end

section
/-
  A block of ints, cell by cell.
-/
namespace Go.Proofs.YtcapddcmnjeloaaGreatDoor
open Go.RowKit
theorem Rd.cells {w : World} {b o : Nat} {zs : List Int} (h : Rd w (some ⟨b, o, none⟩) zs) (j : Nat) (hj : j < zs.length) : w.cell? ⟨b, o + j, none⟩ = some (.int .i64 (zs.getD j 0)) := by
  obtain ⟨b', o', e, hc⟩ := h j hj
  injection e with e
  injection e with e1 e2
  subst e1 e2
  exact hc
theorem Rd.addr {w : World} {a : Option Addr} {zs : List Int} (h : Rd w a zs) (hz : 0 < zs.length) : ∃ b o : Nat, a = some ⟨b, o, none⟩ := by
  obtain ⟨b, o, e, -⟩ := h 0 hz
  exact ⟨b, o, e⟩
end Go.Proofs.YtcapddcmnjeloaaGreatDoor
end
