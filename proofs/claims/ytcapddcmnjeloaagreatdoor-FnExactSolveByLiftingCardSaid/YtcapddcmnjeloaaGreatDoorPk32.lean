/-
  Texts of this seat, joined: ZCLfB · ZCSqI · ZCSoLif · ZCMemI · ZCRatLaw · ZCLawRq · ZCMemQ · ZCMemL
-/
import Derived.IntWalk
import Derived.Deep.RegionHeld3
import Derived.Deep.DeepCutAuto
import Derived.Test.YtcapddcmnjeloaaGreatDoorPk23
import Derived.Test.YtcapddcmnjeloaaGreatDoorPk24
import Derived.Test.YtcapddcmnjeloaaGreatDoorPk26
import Derived.Test.YtcapddcmnjeloaaGreatDoorPk28
import Derived.Test.YtcapddcmnjeloaaGreatDoorPk30
import Derived.Test.YtcapddcmnjeloaaGreatDoorPk31

section
/-
  Chapter 11, in the program: byLifting.
-/
namespace Go.Proofs.YtcapddcmnjeloaaGreatDoor
set_option maxRecDepth 100000
open Go.RowKit Go.Shelf
attribute [local go_sem] Oper.semAt_some
def TabE (w : World) : Prop := w.cell? ⟨0, 0, none⟩ = some (.iface 185 (.agg #[.pointer (some ⟨7, 93, none⟩)]))
theorem TabE.below {w w' : World} (h : TabE w) (hb : Below w.heap.size w w') : TabE w' := (hb.cell (World.block_lt_of_cell? w _ h)).trans h
theorem asNil (t : Value) (w : World) : Calls Tryz.prog 86 #[.nilIface, t] w fun e w' => e = .returned (.bool false) ∧ Below w.heap.size w w' := (av_nil t w).mono fun e w' ⟨h1, h2⟩ => ⟨h1, by rw [h2]; exact Below.refl _ _⟩
theorem asMiss (v : Value) (g : Nat) (w : World) (tb : TabE w) : Calls Tryz.prog 86 #[.iface 95 v, .iface 106 (.pointer (some ⟨g, 0, none⟩))] w fun e w' => e = .returned (.bool false) ∧ Below w.heap.size w w' := (am_miss v ⟨g, 0, none⟩ w tb).mono fun e w' ⟨h1, h2⟩ => ⟨h1, by
  rw [h2]
  exact (((Below.refl _ w).alloc (Nat.le_refl _) _).alloc (by simp) _).alloc (by simp; omega) _⟩
theorem asHit (p : Int) (g : Nat) (z : Value) (w : World) (tb : TabE w) (hz : Blk1 w g 104 z) : Calls Tryz.prog 86 #[.iface 104 (.agg #[.int .i64 p]), .iface 106 (.pointer (some ⟨g, 0, none⟩))] w fun e w' => e = .returned (.bool true) ∧ Below g w w' := (av_hit ⟨g, 0, none⟩ (.int .i64 p) z w rfl tb hz.cell0 (hz.free 0)).mono fun e w' ⟨h1, h2⟩ => ⟨h1, by
  have := hz.lt
  rw [h2]
  exact (((((Below.refl g w).alloc (by omega) _).alloc (by simp; omega) _).alloc (by simp; omega) _).alloc (by simp; omega) _).setCell (by show g ≤ g; omega) _⟩
theorem OwnR.move {B : Nat} {w w' : World} {v : Value} {l : List (Int × Int)} (h : OwnR B w v l) (hb : ∀ k, v.ownBlock = some k → w'.heap[k]? = w.heap[k]?) : OwnR B w' v l := by
  obtain ⟨h1, ⟨h2, h3⟩ | ⟨g, cap, cur, rfl, hB, hg, rest⟩⟩ := h
  · exact ⟨h1, .inl ⟨h2, h3⟩⟩
  · exact ⟨h1, .inr ⟨g, cap, cur, rfl, hB, (hb g rfl).trans hg, rest⟩⟩
theorem OwnR.lt {B : Nat} {w : World} {v : Value} {l : List (Int × Int)} (h : OwnR B w v l) {k : Nat} (hk : v.ownBlock = some k) : B ≤ k ∧ k < w.heap.size := World.ownsRow.lt h k hk
theorem sl_none {n : Nat} {xs bs : List Int} (h : ∀ q : Nat, 101 ≤ q → q ≤ 199 → prmB (q : Int) = true → (ivX n n q xs).ok = false) : slX n n xs bs = ([], false) := slX_none fun q h1 h2 => by
  obtain ⟨k, rfl⟩ := Int.eq_ofNat_of_zero_le (show 0 ≤ q by omega)
  cases hp : prmB (k : Int) with
  | true => exact h k (by omega) (by omega) hp
  | false =>
    cases hv : (ivX n n k xs).ok with
    | false => rfl
    | true =>
      obtain ⟨_, -, -, -, hp2, -⟩ := ivX_says hv
      rw [hp] at hp2; cases hp2
theorem sl_first {n x : Nat} {xs bs : List Int} (hs : sysB n n xs bs = true) (h1 : 101 ≤ x) (h2 : x ≤ 199) (hi : (ivX n n x xs).ok = true) (h : ∀ q : Nat, 101 ≤ q → q < x → prmB (q : Int) = true → (ivX n n q xs).ok = false) : slX n n xs bs = slQ x n xs bs := slX_at hs ⟨by omega, by omega, hi, fun q h3 h4 => by
  obtain ⟨k, rfl⟩ := Int.eq_ofNat_of_zero_le (show 0 ≤ q by omega)
  cases hp : prmB (k : Int) with
  | true => exact h k (by omega) (by omega) hp
  | false =>
    cases hv : (ivX n n k xs).ok with
    | false => rfl
    | true =>
      obtain ⟨_, -, -, -, hp2, -⟩ := ivX_says hv
      rw [hp] at hp2; cases hp2⟩
theorem mem_prm {pre : List PrmQ} {m q : Nat} (h : prmV pre = prmTo m) (hq : q < m) (hp : prmB (q : Int) = true) : ∃ y ∈ pre, y.1 = q := by
  have : (q : Int) ∈ prmV pre := by rw [h]; exact prmTo_mem.mpr ⟨q, rfl, hq, hp⟩
  obtain ⟨y, hy, e⟩ := List.mem_map.mp this
  exact ⟨y, hy, by omega⟩
structure LbW (w : World) (n L Lb m mb : Nat) (a ab : Option Addr) (W : World) : Prop where
  mat : Blk3 W w.heap.size 26 (.int .i64 n) (.int .i64 n) (.slice a L m)
  rhs : Blk1 W (w.heap.size + 1) 24 (.slice ab Lb mb)
  res : Blk1 W (w.heap.size + 1 + 1) 29 (.slice none 0 0)
  err : Blk1 W (w.heap.size + 1 + 1 + 1) 93 .nilIface
  bel : Below w.heap.size w W
theorem LbW.ab {w : World} {n L Lb m mb : Nat} {a ab : Option Addr} {W W' : World} {row : Option Nat} (h : LbW w n L Lb m mb a ab W) (hg : W.grownBy W' row) (hr : ∀ r, row = some r → w.heap.size + 4 ≤ r) : LbW w n L Lb m mb a ab W' := by
  have keep : ∀ g, g < W.heap.size → g < w.heap.size + 4 → W'.heap[g]? = W.heap[g]? := fun g hl h1 => hg.block g hl (fun e => by have := hr g e.symm; omega)
  exact ⟨(keep _ h.mat.lt (by omega)).trans h.mat, (keep _ h.rhs.lt (by omega)).trans h.rhs, (keep _ h.res.lt (by omega)).trans h.res, (keep _ h.err.lt (by omega)).trans h.err, h.bel.grown hg h.bel.size (fun r e => by have := hr r e; omega)⟩
theorem LbW.below {w : World} {n L Lb m mb B : Nat} {a ab : Option Addr} {W W' : World} (h : LbW w n L Lb m mb a ab W) (hb : Below B W W') (hB : w.heap.size + 4 ≤ B) : LbW w n L Lb m mb a ab W' :=
  ⟨h.mat.keep hb (by omega), (hb.block _ (by omega)).trans h.rhs, (hb.block _ (by omega)).trans h.res, (hb.block _ (by omega)).trans h.err, h.bel.trans (hb.mono (by omega))⟩
def lbI (w : World) (n L Lb m mb : Nat) (a ab : Option Addr) (bad : Nat → Prop) (pre : List PrmQ) (_ : Nat → Prop) (W : World) : Prop := (∀ x ∈ pre, 101 ≤ x.1 → x.1 ≤ 199 → bad x.1) ∧ LbW w n L Lb m mb a ab W
def lbE (w : World) (n L Lb m mb : Nat) (a ab : Option Addr) (bad : Nat → Prop) (RS : Nat → List (Int × Int) × Bool) (c : Code) (pre : List PrmQ) (M : Nat → Prop) (W : World) : Prop :=
  ∃ (ini : List PrmQ) (x : PrmQ), pre = ini ++ [x] ∧ (∀ y ∈ ini, 101 ≤ y.1 → y.1 ≤ 199 → bad y.1) ∧
    ((c = .exit 0 ∧ 199 < x.1 ∧ LbW w n L Lb m mb a ab W) ∨
     (c = .ret ∧ 101 ≤ x.1 ∧ x.1 ≤ 199 ∧ ¬ bad x.1 ∧ ∃ (qa : Option Addr) (qc : Nat) (ev : Value), Blk1 W (w.heap.size + 1 + 1) 29 (.slice qa (RS x.1).1.length qc) ∧ Blk1 W (w.heap.size + 1 + 1 + 1) 93 ev ∧ OwnR w.heap.size W (.slice qa (RS x.1).1.length qc) (RS x.1).1 ∧ (∀ k, (Value.slice qa (RS x.1).1.length qc).ownBlock = some k → M k) ∧ (((RS x.1).2 = true ∧ ev = .nilIface) ∨ ((RS x.1).2 = false ∧ ∃ t u, ev = .iface t u)) ∧ Below w.heap.size w W))
theorem lbI.ab (w : World) (n L Lb m mb : Nat) (a ab : Option Addr) (bad : Nat → Prop) : AbY (w.heap.size + 4) (lbI w n L Lb m mb a ab bad) := fun _ _ _ _ _ h hg hr => ⟨h.1, h.2.ab hg (fun r e => (hr r e).1)⟩
theorem lbE.ab (w : World) (n L Lb m mb : Nat) (a ab : Option Addr) (bad : Nat → Prop) (RS : Nat → List (Int × Int) × Bool) (c : Code) : AbY (w.heap.size + 4) (lbE w n L Lb m mb a ab bad RS c) := fun _ _ _ _ _ h hg hr => by
  obtain ⟨ini, x, e, hi, ⟨h1, h2, h3⟩ | ⟨h1, h2, h3, h4, qa, qc, ev, c2, c3, ho, hm, hev, hB⟩⟩ := h
  · exact ⟨ini, x, e, hi, .inl ⟨h1, h2, h3.ab hg (fun r e => (hr r e).1)⟩⟩
  · refine ⟨ini, x, e, hi, .inr ⟨h1, h2, h3, h4, qa, qc, ev, (hg.block _ c2.lt (fun e => by have := hr _ e.symm; omega)).trans c2, (hg.block _ c3.lt (fun e => by have := hr _ e.symm; omega)).trans c3, ho.move (fun k hk => hg.block k (ho.lt hk).2 (fun e => (hr k e.symm).2 (hm k hk))), hm, hev, hB.grown hg hB.size (fun r e => by have := hr r e; omega)⟩⟩
set_option maxHeartbeats 8000000 in
theorem iByLif (n : Nat) (a : Option Addr) (m : Nat) (xs : List Int) (ab : Option Addr) (mb : Nat) (bs : List Int) (w : World) (h : Rd w a xs) (hc : CelA a xs.length m) (hs : sysB n n xs bs = true) (hb : Rd w ab bs) (tb : TabE w) :
    Calls Tryz.prog 42 #[.agg #[.int .i64 n, .int .i64 n, .slice a xs.length m], .slice ab bs.length mb] w (RoadRes (slX n n xs bs).1 (slX n n xs bs).2 w) := by
  have LT : Hid (∀ (d : Nat) (w' : World), 101 ≤ d → d ≤ 199 → Below w.heap.size w w' → Calls Tryz.prog 85 #[.agg #[.int .i64 n, .int .i64 n, .slice a xs.length m], .slice ab bs.length mb, .int .i64 (d : Int)] w' (LiftRes d (ivX n n d xs).ok (slQ d n xs bs).1 (slQ d n xs bs).2 w')) := fun d w' h1 h2 hb' => iLifted d n a m xs ab mb bs w' (by omega) (by omega) (h.below hb') hc hs (hb.below hb')
  have HN : Hid ((∀ q : Nat, 101 ≤ q → q ≤ 199 → prmB (q : Int) = true → (ivX n n q xs).ok = false) → slX n n xs bs = ([], false)) := fun h => sl_none h
  have HY : Hid (∀ x : Nat, 101 ≤ x → x ≤ 199 → ¬ (ivX n n x xs).ok = false → (∀ q : Nat, 101 ≤ q → q < x → prmB (q : Int) = true → (ivX n n q xs).ok = false) → slX n n xs bs = slQ x n xs bs) := fun x h1 h2 h3 h4 => sl_first hs h1 h2 (by simpa using h3) h4
  have TB := Lib.hid tb
  generalize slX n n xs bs = RES at HN HY ⊢
  obtain ⟨bad, hbad⟩ : ∃ bad : Nat → Prop, bad = fun (d : Nat) => (ivX n n (d : Int) xs).ok = false := ⟨_, rfl⟩
  obtain ⟨RS, hRS⟩ : ∃ RS : Nat → List (Int × Int) × Bool, RS = fun (d : Nat) => slQ (d : Int) n xs bs := ⟨_, rfl⟩
  have HB := Lib.hid hbad
  have HR := Lib.hid hRS
  obtain ⟨L, hL⟩ : ∃ L, xs.length = L := ⟨_, rfl⟩
  obtain ⟨Lb, hLb⟩ : ∃ Lb, bs.length = Lb := ⟨_, rfl⟩
  rw [hL, hLb] at LT ⊢
  clear h hc hs hb tb hbad hRS hL hLb
  refine (callsIn_wide (n := 4)).1 ?_
  refine callsIn_of_wp_marks Tryz.func42 rfl trivial ?_ rfl
  simp only [Tryz.ntmps42, List.size_toArray, List.length_cons, List.length_nil, Nat.reduceAdd, Nat.reduceSub, Array.replicate_succ, Array.replicate_zero, List.push_toArray, List.append_toArray, List.nil_append, List.cons_append]
  gi_wp2_with (refine ⟨trivial, ?_⟩; gi_at_call 61; refine (callsIn_wide.2 (iPrimes _)).mono ?_; rintro e w' ⟨rfl, rfl⟩)
  have J0 : Hid (lbI w n L Lb m mb a ab bad [] (fun _ => False) ((((w.alloc (.cells #[.int .i64 n, .int .i64 n, .slice a L m] 26)).alloc (.cells #[.slice ab Lb mb] 24)).alloc (.cells #[.slice none 0 0] 29)).alloc (.cells #[.nilIface] 93))) :=
    ⟨fun x hx => by simp at hx, ((((Blk3.at_ _ _ _ _ rfl).old _).old _).old _), (((Blk1.at_ _ _ (by simp)).old _).old _), ((Blk1.at_ _ _ (by simp)).old _), (Blk1.at_ _ _ (by simp)), ((((Below.refl _ w).alloc (Nat.le_refl _) _).alloc (by simp) _).alloc (by simp; omega) _).alloc (by simp; omega) _⟩
  have SZ : ((((w.alloc (.cells #[.int .i64 n, .int .i64 n, .slice a L m] 26)).alloc (.cells #[.slice ab Lb mb] 24)).alloc (.cells #[.slice none 0 0] 29)).alloc (.cells #[.nilIface] 93)).heap.size = w.heap.size + 4 := by simp
  generalize ((((w.alloc (.cells #[.int .i64 n, .int .i64 n, .slice a L m] 26)).alloc (.cells #[.slice ab Lb mb] 24)).alloc (.cells #[.slice none 0 0] 29)).alloc (.cells #[.nilIface] 93)) = W0 at J0 SZ ⊢
  refine wpIn_rangeY (F := Fence.wide) rfl (by omega) (gf := 103) rfl trivial (enters_of Tryz.func103 (by kernel_rfl) rfl) (seqPrimesY 3 (by omega)) (fun _ => rfl) (lbI w n L Lb m mb a ab bad) (lbE w n L Lb m mb a ab bad RS) (by rw [SZ]; exact lbI.ab w n L Lb m mb a ab bad) (fun c => by rw [SZ]; exact lbE.ab w n L Lb m mb a ab bad RS c) J0.out
    (fun x => { tmps := #[.agg #[.int .i64 n, .int .i64 n, .slice a L m], .slice ab Lb mb, .pointer (some ⟨w.heap.size, 0, none⟩), .pointer (some ⟨w.heap.size + 1, 0, none⟩), .pointer (some ⟨w.heap.size + 1 + 1, 0, none⟩), .pointer (some ⟨w.heap.size + 1 + 1 + 1, 0, none⟩), .int .i64 (x.1 : Int), undef, undef, undef, .func (.func 103) #[] #[], .int .i64 (x.1 : Int), undef, undef, undef, undef, undef, undef, undef, undef, undef, undef, undef, undef, undef, undef, undef, undef, undef, undef], defers := [] }) ?assign ?body ?done ?stop
  case assign =>
    intro l x W K hK
    gi_wp2
    exact hK
  case body =>
    rintro l pre x M W ⟨hbad, hW⟩ hM hNx hSz
    rw [SZ] at hM hSz ⊢
    have J := Lib.hid hW
    have HM := Lib.hid hM
    have HBD := Lib.hid hbad
    obtain ⟨d, hd⟩ : ∃ d : Nat, x.1 = d := ⟨_, rfl⟩
    have DD := Lib.hid hd
    have x2 := x.2.1
    rw [hd] at x2 ⊢
    clear hW hM hbad hd hNx J0
    by_cases h1 : 199 < d
    · gi_wp2
      exact ⟨M, ⟨Nat.le_refl _, fun _ _ _ _ => rfl, fun g hg => ⟨.inl hg, (HM.out g hg).2⟩⟩, pre, x, rfl, HBD.out, .inl ⟨rfl, by rw [DD.out]; exact h1, J.out⟩⟩
    by_cases h2 : d < 101
    · gi_wp2
      exact ⟨M, ⟨Nat.le_refl _, fun _ _ _ _ => rfl, fun g hg => ⟨.inl hg, (HM.out g hg).2⟩⟩, fun y hy h3 h4 => (List.mem_append.1 hy).elim (fun h => HBD.out y h h3 h4) (fun e => by simp at e; subst e; have := DD.out; omega), J.out⟩
    have y0 := J.out.mat.cell0
    have y1 := J.out.mat.cell1
    have y2 := J.out.mat.cell2
    have y3 := J.out.rhs.cell0
    have LTd := Lib.hid (LT.out d W (by omega) (by omega) J.out.bel)
    have c1 : ((199 : Int) < (d : Int)) = False := by simp; omega
    have c2 : ((d : Int) < 101) = False := by simp; omega
    gi_wp2_with (refine ⟨trivial, ?_⟩; gi_at_call 85; refine (callsIn_wide.2 LTd.out).mono ?_; rintro e w2 ⟨v, ev, rfl, hb2, hv⟩)
    have sW := hSz
    have lz := hb2.size
    have J2 := Lib.hid ((J.out.below hb2 (by omega)).below ((Below.refl w2.heap.size w2).alloc (Nat.le_refl _) (.cells #[.int .i64 0] 104)) (by omega))
    have B2 : Hid (Below W.heap.size W (w2.alloc (.cells #[.int .i64 0] 104))) := hb2.alloc hb2.size _
    have TB2 := Lib.hid (TB.out.below J2.out.bel)
    have KP : Hid (∀ w', Below W.heap.size W w' → KpY (w.heap.size + 4) M M W w') := fun w' hb => ⟨hb.size, fun k _ hk _ => hb.block k hk, fun k hk => ⟨.inl hk, Nat.lt_of_lt_of_le (HM.out k hk).2 hb.size⟩⟩
    have BAD : Hid (bad d ↔ (ivX n n d xs).ok = false) := by show _ ↔ _; rw [HB.out]
    have RSD : Hid (RS d = slQ d n xs bs) := by show _ = _; rw [HR.out]
    rcases hv with ⟨hi, rfl, rfl⟩ | ⟨hi, ho, hev⟩
    · have Z2 : Hid (Blk1 (w2.alloc (.cells #[.int .i64 0] 104)) w2.heap.size 104 (.int .i64 0)) := Blk1.at_ _ _ rfl
      have BD : Hid (bad d) := BAD.out.2 hi
      clear hi hb2 y0 y1 y2 y3
      refine ⟨trivial, ?_⟩
      refine (callsIn_wide.2 (asHit d w2.heap.size _ _ TB2.out Z2.out)).mono ?_
      rintro e w3 ⟨rfl, hb3⟩
      have J3 := Lib.hid (J2.out.below hb3 (by omega))
      have B3 := Lib.hid (B2.out.trans (hb3.mono lz))
      clear hb3
      gi_wp2
      exact ⟨M, KP.out _ B3.out, fun y hy h3 h4 => (List.mem_append.1 hy).elim (fun h => HBD.out y h h3 h4) (fun e => by simp at e; subst e; rw [DD.out]; exact BD.out), J3.out⟩
    · obtain ⟨qa, qc, rfl⟩ := ho.form
      have ND : Hid (¬ bad d) := fun hb => by have := BAD.out.1 hb; rw [hi] at this; cases this
      have O2 := Lib.hid (ho.old (.cells #[.int .i64 0] 104))
      rw [← RSD.out] at O2 hev ⊢
      have FIN : Hid (∀ (w3 : World) (ev : Value), Below w2.heap.size (w2.alloc (.cells #[.int .i64 0] 104)) w3 → True) := fun _ _ _ => trivial
      clear hi hb2 y0 y1 y2 y3 ho
      have AS : Hid (CallsIn (Fence.wide.inRound l) 1 Tryz.prog 86 #[ev, .iface 106 (.pointer (some ⟨w2.heap.size, 0, none⟩))] (w2.alloc (.cells #[.int .i64 0] 104)) fun e w' => e = .returned (.bool false) ∧ Below (w2.alloc (.cells #[.int .i64 0] 104)).heap.size (w2.alloc (.cells #[.int .i64 0] 104)) w') := by
        rcases hev with ⟨-, rfl⟩ | ⟨-, s, rfl⟩
        · exact callsIn_wide.2 (asNil _ _)
        · exact callsIn_wide.2 (asMiss _ _ _ TB2.out)
      have HEV : Hid (((RS d).2 = true ∧ ev = .nilIface) ∨ ((RS d).2 = false ∧ ∃ t u, ev = .iface t u)) := hev.imp id (fun ⟨h1, s, h2⟩ => ⟨h1, _, _, h2⟩)
      refine ⟨trivial, ?_⟩
      refine AS.out.mono ?_
      rintro e w3 ⟨rfl, hb3⟩
      have J3 := Lib.hid (J2.out.below hb3 (by simp; omega))
      have B3 := Lib.hid (B2.out.trans (hb3.mono B2.out.size))
      have O3 := Lib.hid (O2.out.keep hb3)
      have r0 := J3.out.res.cell0
      have r1 := J3.out.res.free 0
      have e0 := J3.out.err.cell0
      have e1 := J3.out.err.free 0
      have R4 := Lib.hid ((J3.out.res.set0 (.slice qa (RS d).1.length qc)).far (a := ⟨w.heap.size + 1 + 1 + 1, 0, none⟩) (by show w.heap.size + 1 + 1 ≠ w.heap.size + 1 + 1 + 1; omega) ev)
      have E4 := Lib.hid ((J3.out.err.far (a := ⟨w.heap.size + 1 + 1, 0, none⟩) (by show w.heap.size + 1 + 1 + 1 ≠ w.heap.size + 1 + 1; omega) (.slice qa (RS d).1.length qc)).set0 ev)
      have O4 : Hid (OwnR W.heap.size ((w3.setCell ⟨w.heap.size + 1 + 1, 0, none⟩ (.slice qa (RS d).1.length qc)).setCell ⟨w.heap.size + 1 + 1 + 1, 0, none⟩ ev) (.slice qa (RS d).1.length qc) (RS d).1) := O3.out.move fun k hk => by
        have := (O3.out.lt hk).1
        exact (Below.heap_setCell _ ⟨w.heap.size + 1 + 1 + 1, 0, none⟩ ev k (by show k ≠ w.heap.size + 1 + 1 + 1; omega)).trans (Below.heap_setCell _ ⟨w.heap.size + 1 + 1, 0, none⟩ _ k (by show k ≠ w.heap.size + 1 + 1; omega))
      have B4 := Lib.hid ((J3.out.bel.setCell (p := ⟨w.heap.size + 1 + 1, 0, none⟩) (by show w.heap.size ≤ w.heap.size + 1 + 1; omega) (.slice qa (RS d).1.length qc)).setCell (p := ⟨w.heap.size + 1 + 1 + 1, 0, none⟩) (by show w.heap.size ≤ w.heap.size + 1 + 1 + 1; omega) ev)
      have K4 : Hid (KpY (w.heap.size + 4) M (fun k => (Value.slice qa (RS d).1.length qc).ownBlock = some k) W ((w3.setCell ⟨w.heap.size + 1 + 1, 0, none⟩ (.slice qa (RS d).1.length qc)).setCell ⟨w.heap.size + 1 + 1 + 1, 0, none⟩ ev)) := by
        refine ⟨by simp [World.setCell]; exact B3.out.size, fun k h3 h4 _ => ?_, fun k hk => ⟨.inr (O4.out.lt hk).1, (O4.out.lt hk).2⟩⟩
        exact ((Below.heap_setCell _ ⟨w.heap.size + 1 + 1 + 1, 0, none⟩ ev k (by show k ≠ w.heap.size + 1 + 1 + 1; omega)).trans (Below.heap_setCell _ ⟨w.heap.size + 1 + 1, 0, none⟩ _ k (by show k ≠ w.heap.size + 1 + 1; omega))).trans (B3.out.block k h4)
      have oc : ev.oneCell' = true := by rcases HEV.out with ⟨-, h⟩ | ⟨-, t, u, h⟩ <;> rw [h] <;> rfl
      clear hb3 AS hev
      rcases HEV.out with ⟨k1, rfl⟩ | ⟨k1, t, u, rfl⟩
      · have HE1 := Lib.hid k1
        clear k1 HEV
        gi_wp2
        refine ⟨_, K4.out, pre, x, rfl, HBD.out, .inr ⟨rfl, by rw [DD.out]; omega, by rw [DD.out]; omega, by rw [DD.out]; exact ND.out, ?_⟩⟩
        rw [DD.out]
        exact ⟨qa, qc, _, R4.out, E4.out, O4.out.le (by omega), fun k hk => hk, .inl ⟨HE1.out, rfl⟩, B4.out⟩
      · have HE2 := Lib.hid k1
        clear k1 HEV
        gi_wp2
        refine ⟨_, K4.out, pre, x, rfl, HBD.out, .inr ⟨rfl, by rw [DD.out]; omega, by rw [DD.out]; omega, by rw [DD.out]; exact ND.out, ?_⟩⟩
        rw [DD.out]
        exact ⟨qa, qc, _, R4.out, E4.out, O4.out.le (by omega), fun k hk => hk, .inr ⟨HE2.out, _, _, rfl⟩, B4.out⟩
  case done =>
    rintro ys M W hS ⟨hbad, hW⟩ hM hK
    rw [SZ] at hK ⊢
    have V : Hid (RES = ([], false)) := HN.out fun q h1 h2 hp => by
      obtain ⟨y, hy, e⟩ := mem_prm hS (show q < 10001 by omega) hp
      have := hbad y hy (by omega) (by omega)
      rw [HB.out, e] at this
      exact this
    have J := Lib.hid hW
    have HK := Lib.hid hK
    have r0 := hW.res.cell0
    have r1 := hW.res.free 0
    have e0 := hW.err.cell0
    have e1 := hW.err.free 0
    clear hbad hW hM hK hS J0
    obtain ⟨sv, hsv⟩ : ∃ sv : Value, sv = .iface 95 (.string ⟨#[110, 111, 32, 105, 110, 118, 101, 114, 115, 101, 32, 109, 111, 100, 117, 108, 111, 32, 97, 110, 121, 32, 111, 102, 32, 116, 104, 101, 32, 112, 114, 105, 109, 101, 115]⟩) := ⟨_, rfl⟩
    have R4 := Lib.hid ((J.out.res.set0 (.slice none 0 0)).far (a := ⟨w.heap.size + 1 + 1 + 1, 0, none⟩) (by show w.heap.size + 1 + 1 ≠ w.heap.size + 1 + 1 + 1; omega) sv)
    have E4 := Lib.hid ((J.out.err.far (a := ⟨w.heap.size + 1 + 1, 0, none⟩) (by show w.heap.size + 1 + 1 + 1 ≠ w.heap.size + 1 + 1; omega) (.slice none 0 0)).set0 sv)
    have B4 := Lib.hid ((J.out.bel.setCell (p := ⟨w.heap.size + 1 + 1, 0, none⟩) (by show w.heap.size ≤ w.heap.size + 1 + 1; omega) (.slice none 0 0)).setCell (p := ⟨w.heap.size + 1 + 1 + 1, 0, none⟩) (by show w.heap.size ≤ w.heap.size + 1 + 1 + 1; omega) sv)
    have D4 : Hid (((W.setCell ⟨w.heap.size + 1 + 1, 0, none⟩ (.slice none 0 0)).setCell ⟨w.heap.size + 1 + 1 + 1, 0, none⟩ sv).heap[w.heap.size + 4]? = some (.deferred (some []))) := (Below.heap_setCell _ ⟨w.heap.size + 1 + 1 + 1, 0, none⟩ sv _ (by show w.heap.size + 4 ≠ w.heap.size + 1 + 1 + 1; omega)).trans ((Below.heap_setCell _ ⟨w.heap.size + 1 + 1, 0, none⟩ _ _ (by show w.heap.size + 4 ≠ w.heap.size + 1 + 1; omega)).trans HK.out)
    gi_wp2
    rw [← hsv]
    generalize (W.setCell ⟨w.heap.size + 1 + 1, 0, none⟩ (.slice none 0 0)).setCell ⟨w.heap.size + 1 + 1 + 1, 0, none⟩ sv = W5 at R4 E4 B4 D4 ⊢
    refine ⟨by simp, .inl ⟨_, _, rfl, run_takeDeferred D4.out, ?_⟩⟩
    have hc5 := (put_blk R4.out (D := w.heap.size + 4) (by omega) (.deferred none)).cell0
    have hc6 := (put_blk E4.out (D := w.heap.size + 4) (by omega) (.deferred none)).cell0
    refine ⟨.tuple #[.slice none 0 0, sv], by simp [results, Tryz.f42, go_sem, hc5, hc6], ?_⟩
    rw [V.out]
    exact ⟨_, _, rfl, OwnR.nil _ _, B4.out.grown (grownBy_putObj' _ _ _) B4.out.size (fun k e => by cases e; omega), .inr ⟨rfl, _, _, hsv⟩⟩
  case stop =>
    rintro c pre M W ⟨ini', x', e', hS⟩ ⟨ini, x, e0, hbad, ⟨rfl, hx, hW⟩ | ⟨rfl, h1, h2, h3, qa, qc, ev, c2, c3, ho, hm, hev, hB⟩⟩ hM hK
    · rw [SZ] at hK ⊢
      rw [e'] at e0
      obtain ⟨rfl, e5⟩ := List.append_inj' e0 rfl
      obtain rfl : x' = x := by simpa using e5
      have V : Hid (RES = ([], false)) := HN.out fun q h1 h2 hp => by
        obtain ⟨y, hy, e⟩ := mem_prm hS (show q < x'.1 by omega) hp
        have := hbad y hy (by omega) (by omega)
        rw [HB.out, e] at this
        exact this
      clear e0 e5 e' hx
      have J := Lib.hid hW
      have HK := Lib.hid hK
      have r0 := hW.res.cell0
      have r1 := hW.res.free 0
      have e0 := hW.err.cell0
      have e1 := hW.err.free 0
      clear hbad hW hM hK hS J0
      obtain ⟨sv, hsv⟩ : ∃ sv : Value, sv = .iface 95 (.string ⟨#[110, 111, 32, 105, 110, 118, 101, 114, 115, 101, 32, 109, 111, 100, 117, 108, 111, 32, 97, 110, 121, 32, 111, 102, 32, 116, 104, 101, 32, 112, 114, 105, 109, 101, 115]⟩) := ⟨_, rfl⟩
      have R4 := Lib.hid ((J.out.res.set0 (.slice none 0 0)).far (a := ⟨w.heap.size + 1 + 1 + 1, 0, none⟩) (by show w.heap.size + 1 + 1 ≠ w.heap.size + 1 + 1 + 1; omega) sv)
      have E4 := Lib.hid ((J.out.err.far (a := ⟨w.heap.size + 1 + 1, 0, none⟩) (by show w.heap.size + 1 + 1 + 1 ≠ w.heap.size + 1 + 1; omega) (.slice none 0 0)).set0 sv)
      have B4 := Lib.hid ((J.out.bel.setCell (p := ⟨w.heap.size + 1 + 1, 0, none⟩) (by show w.heap.size ≤ w.heap.size + 1 + 1; omega) (.slice none 0 0)).setCell (p := ⟨w.heap.size + 1 + 1 + 1, 0, none⟩) (by show w.heap.size ≤ w.heap.size + 1 + 1 + 1; omega) sv)
      have D4 : Hid (((W.setCell ⟨w.heap.size + 1 + 1, 0, none⟩ (.slice none 0 0)).setCell ⟨w.heap.size + 1 + 1 + 1, 0, none⟩ sv).heap[w.heap.size + 4]? = some (.deferred (some []))) := (Below.heap_setCell _ ⟨w.heap.size + 1 + 1 + 1, 0, none⟩ sv _ (by show w.heap.size + 4 ≠ w.heap.size + 1 + 1 + 1; omega)).trans ((Below.heap_setCell _ ⟨w.heap.size + 1 + 1, 0, none⟩ _ _ (by show w.heap.size + 4 ≠ w.heap.size + 1 + 1; omega)).trans HK.out)
      gi_wp2
      rw [← hsv]
      generalize (W.setCell ⟨w.heap.size + 1 + 1, 0, none⟩ (.slice none 0 0)).setCell ⟨w.heap.size + 1 + 1 + 1, 0, none⟩ sv = W5 at R4 E4 B4 D4 ⊢
      refine ⟨by simp, .inl ⟨_, _, rfl, run_takeDeferred D4.out, ?_⟩⟩
      have hc5 := (put_blk R4.out (D := w.heap.size + 4) (by omega) (.deferred none)).cell0
      have hc6 := (put_blk E4.out (D := w.heap.size + 4) (by omega) (.deferred none)).cell0
      refine ⟨.tuple #[.slice none 0 0, sv], by simp [results, Tryz.f42, go_sem, hc5, hc6], ?_⟩
      rw [V.out]
      exact ⟨_, _, rfl, OwnR.nil _ _, B4.out.grown (grownBy_putObj' _ _ _) B4.out.size (fun k e => by cases e; omega), .inr ⟨rfl, _, _, hsv⟩⟩
    · rw [SZ] at hK ⊢
      rw [e'] at e0
      obtain ⟨rfl, e5⟩ := List.append_inj' e0 rfl
      obtain rfl : x' = x := by simpa using e5
      have V : Hid (RES = RS x'.1) := by
        show _ = _
        rw [HR.out]
        refine HY.out x'.1 h1 h2 (by rw [HB.out] at h3; exact h3) fun q h4 h5 hp => ?_
        obtain ⟨y, hy, e⟩ := mem_prm hS h5 hp
        have := hbad y hy (by omega) (by omega)
        rw [HB.out, e] at this
        exact this
      have C2 := Lib.hid c2
      have C3 := Lib.hid c3
      have O2 := Lib.hid ho
      have B2 := Lib.hid hB
      have HEV := Lib.hid hev
      have HMM := Lib.hid hm
      have HM := Lib.hid hM
      have D2 := Lib.hid hK
      clear e0 e5 e' h1 h2 h3 hbad hS c2 c3 ho hm hev hB hM hK HN HY LT J0
      gi_wp2
      refine ⟨by simp, .inl ⟨_, _, rfl, run_takeDeferred D2.out, ?_⟩⟩
      have hc5 := (put_blk C2.out (D := w.heap.size + 4) (by omega) (.deferred none)).cell0
      have hc6 := (put_blk C3.out (D := w.heap.size + 4) (by omega) (.deferred none)).cell0
      refine ⟨.tuple #[.slice qa (RS x'.1).1.length qc, ev], by simp [results, Tryz.f42, go_sem, hc5, hc6], ?_⟩
      rw [V.out]
      refine ⟨_, _, rfl, O2.out.move fun k hk => (World.putObj_heap_other ?_), B2.out.grown (grownBy_putObj' _ _ _) B2.out.size (fun k e => by cases e; omega), HEV.out⟩
      have h7 := HM.out k (HMM.out k hk)
      rw [SZ] at h7
      omega
end Go.Proofs.YtcapddcmnjeloaaGreatDoor
end

section
/-
  Chapter 6, in the program: IsSquare.
-/
namespace Go.Proofs.YtcapddcmnjeloaaGreatDoor
set_option maxRecDepth 100000
open Go.RowKit
set_option maxHeartbeats 1000000 in
theorem iIsSq (r c : Int) (a : Option Addr) (m : Nat) (xs : List Int) (w : World) (h : Rd w a xs) (hn : xs.length ≤ 16777216) :
    Calls Tryz.prog 73 #[.agg #[.int .i64 r, .int .i64 c, .slice a xs.length m]] w (Gives (.bool (isSq r c xs)) w) := by
  have H := Lib.hid h
  obtain ⟨n, hx⟩ : ∃ n, xs.length = n := ⟨_, rfl⟩
  have HX := Lib.hid hx
  rw [hx] at hn ⊢
  clear hx h
  have B0 : ∀ o1, Below w.heap.size w (w.alloc o1) := fun o1 => (Below.refl _ _).alloc (Nat.le_refl _) _
  have BH := Lib.hid B0
  clear B0
  have fin : ∀ b (w' : World), isSq r c xs = b → Below w.heap.size w w' → Gives (.bool (isSq r c xs)) w (.returned (.bool b)) w' := fun b w' h1 h2 => ⟨by rw [h1], h2⟩
  have FIN := Lib.hid fin
  clear fin
  go_enter Tryz.func73, Tryz.ntmps73
  go_wp2_with fail
  have ST := iIsMat r c a m xs _ (H.out.below (BH.out (.cells #[.int .i64 r, .int .i64 c, .slice a n m] 26))) (by rw [HX.out]; omega)
  rw [HX.out] at ST
  refine ST.mono ?_
  clear ST
  rintro e w1 ⟨rfl, hb⟩
  have K0 : Hid (Blk3 w1 w.heap.size 26 (.int .i64 r) (.int .i64 c) (.slice a n m)) := (Blk3.at_ _ _ _ _ rfl).keep hb (by simp)
  have B : Hid (Below w.heap.size w w1) := (BH.out _).trans (hb.mono (by simp))
  clear hb
  obtain ⟨ca0, ca1, ca2, -, -, -⟩ := K0.out.all
  obtain ⟨bm, hbm⟩ : ∃ b, isMat r c xs = b := ⟨_, rfl⟩
  rw [hbm]
  cases bm with
  | false =>
    have V : Hid (isSq r c xs = false) := by show isSq r c xs = false; unfold isSq; rw [hbm]; rfl
    clear hbm
    go_wp2_with fail
    go_ret
    exact FIN.out _ _ V.out B.out
  | true =>
    by_cases h1 : r = c
    · by_cases h2 : r ≤ 6
      · have V : Hid (isSq r c xs = true) := by show isSq r c xs = true; unfold isSq; rw [hbm, decide_eq_true h1, decide_eq_true h2]; rfl
        clear hbm
        subst h1
        go_wp2_with fail
        go_ret
        exact FIN.out _ _ V.out B.out
      · have V : Hid (isSq r c xs = false) := by show isSq r c xs = false; unfold isSq; rw [hbm, decide_eq_false h2]; simp
        clear hbm
        subst h1
        go_wp2_with fail
        go_ret
        exact FIN.out _ _ (by rw [V.out]; exact (decide_eq_false (by omega)).symm) B.out
    · have V : Hid (isSq r c xs = false) := by show isSq r c xs = false; unfold isSq; rw [hbm, decide_eq_false h1]; simp
      have n1 : (r == c) = false := by simpa using h1
      clear hbm
      go_wp2_with fail
      go_ret
      exact FIN.out _ _ V.out B.out
end Go.Proofs.YtcapddcmnjeloaaGreatDoor
end

section
/-
  Chapter 11, in the program: SolveByLifting.
-/
namespace Go.Proofs.YtcapddcmnjeloaaGreatDoor
set_option maxRecDepth 100000
open Go.RowKit
theorem sysRLif {r c : Int} {xs bs : List Int} (h : isSq r c xs = true) : fitR r bs = sysB r c xs bs := by
  obtain ⟨n, rfl, -, h6, -, -⟩ := isSq_says h
  rw [fitR_eq (by omega)]
  unfold sysB
  rw [h, Bool.true_and]
set_option maxHeartbeats 2000000 in
theorem iSolveLif (r c : Int) (a : Option Addr) (m : Nat) (xs : List Int) (ab : Option Addr) (mb : Nat) (bs : List Int) (w : World) (h : Rd w a xs) (hn : xs.length ≤ 16777216) (hb : Rd w ab bs) (hbn : bs.length ≤ 16777216) (zs : List (Int × Int)) (ok : Bool)
    (HN : sysB r c xs bs = false → zs = [] ∧ ok = false) (HY : sysB r c xs bs = true → ∀ w', Below w.heap.size w w' → Calls Tryz.prog 42 #[.agg #[.int .i64 r, .int .i64 c, .slice a xs.length m], .slice ab bs.length mb] w' (RoadRes zs ok w')) :
    Calls Tryz.prog 35 #[.agg #[.int .i64 r, .int .i64 c, .slice a xs.length m], .slice ab bs.length mb, .func (.func 42) #[] #[]] w (QRes zs ok w) := by
  have SQ : Hid (∀ w', Below w.heap.size w w' → Calls Tryz.prog 73 #[.agg #[.int .i64 r, .int .i64 c, .slice a xs.length m]] w' (Gives (.bool (isSq r c xs)) w')) := fun w' hb' => iIsSq r c a m xs w' (h.below hb') hn
  have FT : Hid (∀ w', Below w.heap.size w w' → Calls Tryz.prog 74 #[.agg #[.int .i64 r, .int .i64 c, .slice a xs.length m], .slice ab bs.length mb] w' (Gives (.bool (fitR r bs)) w')) := fun w' hb' => iFits r c a xs.length m ab mb bs w' (hb.below hb') hbn
  have HN := Lib.hid HN
  have HY := Lib.hid HY
  have K0 : Hid (Blk3 (w.alloc (.cells #[.int .i64 r, .int .i64 c, .slice a xs.length m] 26)) w.heap.size 26 (.int .i64 r) (.int .i64 c) (.slice a xs.length m)) := Blk3.at_ _ _ _ _ rfl
  have B0 : Hid (Below w.heap.size w (w.alloc (.cells #[.int .i64 r, .int .i64 c, .slice a xs.length m] 26))) := (Below.refl _ _).alloc (Nat.le_refl _) _
  have NS : Hid (isSq r c xs = false → sysB r c xs bs = false) := fun h => sysB_false (.inl h)
  have YS : Hid (isSq r c xs = true → fitR r bs = sysB r c xs bs) := fun h => sysRLif h
  generalize sysB r c xs bs = sb at HN HY NS YS
  generalize isSq r c xs = sq at SQ NS YS
  generalize fitR r bs = ft at FT YS
  generalize xs.length = L at SQ FT HY K0 B0 hn ⊢
  generalize bs.length = Lb at FT HY hbn ⊢
  clear h hb
  obtain ⟨z0, z1, z2, -, -, -⟩ := K0.out.all
  go_enter Tryz.func35, Tryz.ntmps35
  go_wp2_with fail
  refine (SQ.out _ B0.out).mono ?_
  rintro e w1 ⟨rfl, hb1⟩
  have K1 := Lib.hid (K0.out.step hb1)
  have B1 := Lib.hid (B0.out.trans (hb1.mono B0.out.size))
  clear hb1 z0 z1 z2 K0 B0 SQ
  obtain ⟨z0, z1, z2, -, -, -⟩ := K1.out.all
  cases sq with
  | false =>
    obtain ⟨e1, e2⟩ := HN.out (NS.out rfl)
    subst e1 e2
    go_wp2_with fail
    go_ret2
    exact ⟨_, rfl, OwnR.nil _ _, B1.out⟩
  | true =>
    have e3 : ft = sb := YS.out rfl
    subst e3
    go_wp2_with fail
    refine (FT.out _ B1.out).mono ?_
    rintro e w2 ⟨rfl, hb2⟩
    have K2 := Lib.hid (K1.out.step hb2)
    have B2 := Lib.hid (B1.out.trans (hb2.mono B1.out.size))
    clear hb2 z0 z1 z2 K1 B1 FT
    obtain ⟨z0, z1, z2, -, -, -⟩ := K2.out.all
    cases ft with
    | false =>
      obtain ⟨e1, e2⟩ := HN.out rfl
      subst e1 e2
      go_wp2_with fail
      go_ret2
      exact ⟨_, rfl, OwnR.nil _ _, B2.out⟩
    | true =>
      have HR : Hid (∀ w', Below w.heap.size w w' → Calls Tryz.prog 42 #[.agg #[.int .i64 r, .int .i64 c, .slice a L m], .slice ab Lb mb] w' (RoadRes zs ok w')) := HY.out rfl
      go_wp2_with fail
      refine (HR.out _ B2.out).mono ?_
      rintro e w3 ⟨v, ev, rfl, own, hb3, hev⟩
      obtain ⟨qa, qc, rfl⟩ := own.form
      have B3 := Lib.hid (B2.out.trans (hb3.mono B2.out.size))
      have OW := Lib.hid (own.le B2.out.size)
      clear hb3 own z0 z1 z2 K2
      rcases hev with ⟨rfl, rfl⟩ | ⟨rfl, ty, u, rfl⟩
      · go_wp2_with fail
        go_quiet (fail)
        go_wp2_with fail
        go_ret2
        exact ⟨_, rfl, OW.out, below_drewN B3.out _⟩
      · go_wp2_with fail
        go_quiet (fail)
        go_wp2_with fail
        go_ret2
        exact ⟨_, rfl, OW.out, below_drewN B3.out _⟩
theorem iSl (r c : Int) (a : Option Addr) (m : Nat) (xs : List Int) (ab : Option Addr) (mb : Nat) (bs : List Int) (w : World) (h : Rd w a xs) (hc : CelA a xs.length m) (hn : xs.length ≤ 16777216) (hb : Rd w ab bs) (hbn : bs.length ≤ 16777216) (tb : TabE w) :
    Calls Tryz.prog 11 #[.agg #[.int .i64 r, .int .i64 c, .slice a xs.length m], .slice ab bs.length mb] w (QRes (slX r c xs bs).1 (slX r c xs bs).2 w) := by
  have SV : Hid (∀ w', Below w.heap.size w w' → Calls Tryz.prog 35 #[.agg #[.int .i64 r, .int .i64 c, .slice a xs.length m], .slice ab bs.length mb, .func (.func 42) #[] #[]] w' (QRes (slX r c xs bs).1 (slX r c xs bs).2 w')) := fun w' hb' => iSolveLif r c a m xs ab mb bs w' (h.below hb') hn (hb.below hb') hbn _ _ (fun h => by rw [slX_sys h]; exact ⟨rfl, rfl⟩) (fun hs w2 hb2 => by
    obtain ⟨n, rfl, rfl, -⟩ := sysB_says hs
    exact iByLif n a m xs ab mb bs w2 ((h.below hb').below hb2) hc hs ((hb.below hb').below hb2) ((tb.below hb').below hb2))
  have B0 : Hid (Below w.heap.size w (w.alloc (.cells #[.int .i64 r, .int .i64 c, .slice a xs.length m] 26))) := (Below.refl _ _).alloc (Nat.le_refl _) _
  have K0 : Hid (Blk3 (w.alloc (.cells #[.int .i64 r, .int .i64 c, .slice a xs.length m] 26)) w.heap.size 26 (.int .i64 r) (.int .i64 c) (.slice a xs.length m)) := Blk3.at_ _ _ _ _ rfl
  generalize slX r c xs bs = RES at SV ⊢
  generalize xs.length = L at SV K0 B0 ⊢
  generalize bs.length = Lb at SV ⊢
  clear h hn hb hbn hc tb
  obtain ⟨z0, z1, z2, -, -, -⟩ := K0.out.all
  go_enter Tryz.func11, Tryz.ntmps11
  go_wp2_with fail
  refine (SV.out _ B0.out).mono ?_
  rintro e w1 ⟨v, rfl, own, hb1⟩
  obtain ⟨qa, qc, rfl⟩ := own.form
  have B1 := Lib.hid (B0.out.trans (hb1.mono B0.out.size))
  have OW := Lib.hid (own.le B0.out.size)
  clear hb1 own z0 z1 z2 K0
  go_wp2_with fail
  go_ret2
  exact ⟨_, rfl, OW.out, B1.out⟩
end Go.Proofs.YtcapddcmnjeloaaGreatDoor
end

section
/-
  Memory in a law's walk: slices of ints as results.
-/
namespace Go.Proofs.YtcapddcmnjeloaaGreatDoor
open Go.RowKit
theorem eqI_g (a b : Option Addr) (c d : Nat) (zs : List Int) (w : World) (h : Rd w a zs) (h' : Rd w b zs) (hn : zs.length ≤ 16777216) :
    Calls Tryz.prog 29 #[.slice a zs.length c, .slice b zs.length d] w (Gives (.bool true) w) :=
  (eqI_t a b c d zs w h h' hn).mono fun _ _ ⟨h1, k, h2⟩ => ⟨h1, by rw [h2]; exact below_drewN (Below.refl _ _) k⟩
theorem markInI {B T : Nat} (a : Option Addr) (n cap : Nat) (zs : List Int) (k : Int) (w : World) (h : In B T w (.slice a n cap) zs) (hk0 : 0 ≤ k) (hk : k ≤ 16777216) :
    Calls Tryz.prog 31 #[.slice a n cap, .int .i64 k] w fun e w' => e = .returned (.int .i64 (k + n)) ∧ In B T w' (.slice a n cap) (marks k n) ∧ Chg B T w w' := by
  rcases h with ⟨hv, rfl⟩ | ⟨g, cap', hv, h1, h2, hi, hl, hc⟩
  · injection hv with v1 v2 v3
    subst v1 v2 v3
    exact (markI_nil 0 k w).mono fun e w' ⟨he, hw⟩ => ⟨by rw [he]; simp, .inl ⟨rfl, rfl⟩, by rw [← hw]; exact Chg.of_below (Below.refl _ _)⟩
  · injection hv with v1 v2 v3
    subst v1 v2 v3
    refine (markI g cap zs.length zs k w hi (Nat.le_refl _) hc hk0 hk).mono fun e w' ⟨he, hi', hg⟩ => ⟨he, .inr ⟨g, cap, by rw [marks_length], h1, h2, ?_, by rw [marks_length]; exact hl, by rw [marks_length]; exact hc⟩, Chg.of_one hg h1 h2⟩
    rw [List.drop_length, List.append_nil] at hi'
    exact hi'
end Go.Proofs.YtcapddcmnjeloaaGreatDoor
end

section
/-
  Chapter 2, the laws' own helpers: a ratio carried over, two ratios held against each other.
-/
namespace Go.Proofs.YtcapddcmnjeloaaGreatDoor
open Go.RowKit
theorem eqRat_t (a b : Int) (w : World) : Calls Tryz.prog 69 #[.agg #[.int .i64 a, .int .i64 b], .agg #[.int .i64 a, .int .i64 b]] w (Gives (.bool true) w) := by
  go_enter Tryz.func69, Tryz.ntmps69
  go_wp2
  go_ret
  exact ⟨rfl, ((Below.refl _ _).alloc (Nat.le_refl _) _).alloc (by simp) _⟩
end Go.Proofs.YtcapddcmnjeloaaGreatDoor
end

section
/-
  The laws' own helpers for lists of ratios.
-/
namespace Go.Proofs.YtcapddcmnjeloaaGreatDoor
open Go.RowKit
theorem qsF2 {w w' : World} {b2 o2 b3 o3 q : Nat} {l : List (Int × Int)} {u : Int × Int} (h : RdQ w (some ⟨b2, o2, none⟩) l) (h' : RdQ w (some ⟨b3, o3, none⟩) l) (hq : q < l.length) (hu : l.getD q (0, 0) = u) (hb : Below w.heap.size w w') :
    w'.cell? ⟨b2, o2 + q * 2, none⟩ = some (.int .i64 u.1) ∧ w'.cell? ⟨b2, o2 + q * 2 + 1, none⟩ = some (.int .i64 u.2) ∧ w'.cell? ⟨b3, o3 + q * 2, none⟩ = some (.int .i64 u.1) ∧ w'.cell? ⟨b3, o3 + q * 2 + 1, none⟩ = some (.int .i64 u.2) := by
  subst hu
  obtain ⟨b4, o4, e, -, h0, h1⟩ := (h.below hb) q hq
  simp only [Option.some.injEq, Addr.mk.injEq] at e
  obtain ⟨rfl, rfl, -⟩ := e
  obtain ⟨b4, o4, e, -, k0, k1⟩ := (h'.below hb) q hq
  simp only [Option.some.injEq, Addr.mk.injEq] at e
  obtain ⟨rfl, rfl, -⟩ := e
  exact ⟨h0, h1, k0, k1⟩
set_option maxRecDepth 100000 in
set_option maxHeartbeats 4000000 in
theorem eqQS (a b : Option Addr) (c d : Nat) (l : List (Int × Int)) (w : World) (h : RdQ w a l) (h' : RdQ w b l) (hn : l.length ≤ 16777216) :
    Calls Tryz.prog 27 #[.slice a l.length c, .slice b l.length d] w (Gives (.bool true) w) := by
  have H := Lib.hid h
  have H' := Lib.hid h'
  clear h h'
  obtain ⟨n, hnn⟩ : ∃ n, l.length = n := ⟨_, rfl⟩
  rw [hnn] at hn ⊢
  have HN := Lib.hid hnn
  clear hnn
  go_enter Tryz.func27, Tryz.ntmps27
  go_wp2_with fail
  go_loopw [5] (fun i wr => ∃ k : Nat, i = .int .i64 k ∧ k ≤ n ∧ Below w.heap.size w wr) (fun i _ => n - (intOf i).toNat)
  case atStart => exact ⟨0, rfl, by omega, Below.refl _ _⟩
  case round =>
    obtain ⟨k, rfl, hk, hb⟩ := hrel
    have B := Lib.hid hb
    clear hb
    by_cases hlt : k < n
    · have HQ : Hid (k < l.length) := by show k < l.length; rw [HN.out]; exact hlt
      obtain ⟨b2, o2, rfl, -, -⟩ := H.out k HQ.out
      obtain ⟨b3, o3, rfl, -, -⟩ := H'.out k HQ.out
      have R2 := Lib.hid (H.out.below B.out)
      have R3 := Lib.hid (H'.out.below B.out)
      obtain ⟨u, hu⟩ : ∃ u, l.getD k (0, 0) = u := ⟨_, rfl⟩
      have HU := Lib.hid hu
      clear hu
      go_upto_region 6 with fail
      refine wp_region_held_drew (S := fun w' => Below wr.heap.size wr w') (by kernel_rfl) (Below.refl _ _).drew (fun hH => ?_)
      refine wpAnyH_take (i := 0) (v := ?_) (by simp only [List.getElem?_toArray, List.getElem?_cons_zero]; rfl) (by kernel_rfl) (by kernel_rfl) (by kernel_rfl) (by exact fun _ _ _ h => h) (Or.inl ⟨by rfl, ?_⟩) hH ?_
      rotate_left
      · (intro wS hS; clear hS; go_simp; try rfl)
      try simp only [Act.put, List.setIfInBounds_toArray, List.set_cons_zero, List.set_cons_succ]
      refine wpAnyH_take (i := 1) (v := ?_) (by simp only [List.getElem?_toArray, List.getElem?_cons_succ, List.getElem?_cons_zero]; rfl) (by kernel_rfl) (by kernel_rfl) (by kernel_rfl) (by exact fun _ _ _ h => h) (Or.inl ⟨by rfl, ?_⟩) hH ?_
      rotate_left
      · (intro wS hS; clear hS; go_simp; try rfl)
      try simp only [Act.put, List.setIfInBounds_toArray, List.set_cons_zero, List.set_cons_succ]
      refine wpAnyH_take (i := 2) (v := ?_) (by simp only [List.getElem?_toArray, List.getElem?_cons_succ, List.getElem?_cons_zero]; rfl) (by kernel_rfl) (by kernel_rfl) (by kernel_rfl) (by exact fun _ _ _ h => h) (Or.inl ⟨by rfl, ?_⟩) hH ?_
      rotate_left
      · (intro wS hS; clear hS; go_simp; try rfl)
      try simp only [Act.put, List.setIfInBounds_toArray, List.set_cons_zero, List.set_cons_succ]
      refine wpAnyH_take (i := 3) (v := ?_) (by simp only [List.getElem?_toArray, List.getElem?_cons_succ, List.getElem?_cons_zero]; rfl) (by kernel_rfl) (by kernel_rfl) (by kernel_rfl) (by exact fun _ _ _ h => h) (Or.inl ⟨by rfl, ?_⟩) hH ?_
      rotate_left
      · (intro wS hS; (try dsimp only at hS); obtain ⟨k1, k2, k3, k4⟩ := qsF2 R2.out R3.out HQ.out HU.out hS; go_simp; try rfl)
      try simp only [Act.put, List.setIfInBounds_toArray, List.set_cons_zero, List.set_cons_succ]
      refine wpAnyH_take (i := 4) (v := ?_) (by simp only [List.getElem?_toArray, List.getElem?_cons_succ, List.getElem?_cons_zero]; rfl) (by kernel_rfl) (by kernel_rfl) (by kernel_rfl) (by exact fun _ _ _ h => h) (Or.inl ⟨by rfl, ?_⟩) hH ?_
      rotate_left
      · (intro wS hS; clear hS; go_simp; try rfl)
      try simp only [Act.put, List.setIfInBounds_toArray, List.set_cons_zero, List.set_cons_succ]
      refine wpAnyH_take (i := 5) (v := ?_) (by simp only [List.getElem?_toArray, List.getElem?_cons_succ, List.getElem?_cons_zero]; rfl) (by kernel_rfl) (by kernel_rfl) (by kernel_rfl) (by exact fun _ _ _ h => h) (Or.inl ⟨by rfl, ?_⟩) hH ?_
      rotate_left
      · (intro wS hS; clear hS; go_simp; try rfl)
      try simp only [Act.put, List.setIfInBounds_toArray, List.set_cons_zero, List.set_cons_succ]
      refine wpAnyH_take (i := 6) (v := ?_) (by simp only [List.getElem?_toArray, List.getElem?_cons_succ, List.getElem?_cons_zero]; rfl) (by kernel_rfl) (by kernel_rfl) (by kernel_rfl) (by exact fun _ _ _ h => h) (Or.inl ⟨by rfl, ?_⟩) hH ?_
      rotate_left
      · (intro wS hS; clear hS; go_simp; try rfl)
      try simp only [Act.put, List.setIfInBounds_toArray, List.set_cons_zero, List.set_cons_succ]
      refine wpAnyH_take (i := 7) (v := ?_) (by simp only [List.getElem?_toArray, List.getElem?_cons_succ, List.getElem?_cons_zero]; rfl) (by kernel_rfl) (by kernel_rfl) (by kernel_rfl) (by exact fun _ _ _ h => h) (Or.inl ⟨by rfl, ?_⟩) hH ?_
      rotate_left
      · (intro wS hS; (try dsimp only at hS); obtain ⟨k1, k2, k3, k4⟩ := qsF2 R2.out R3.out HQ.out HU.out hS; go_simp; try rfl)
      try simp only [Act.put, List.setIfInBounds_toArray, List.set_cons_zero, List.set_cons_succ]
      refine wpAnyH_ready (rs := [8]) (by kernel_rfl) (by simp) ?_
      refine AllReadyH.cons (by simp only [List.getElem?_toArray, List.getElem?_cons_succ, List.getElem?_cons_zero]; rfl) (fun K hK => ?_) AllReadyH.nil
      go_simp
      (with_reducible refine (eqRat_t u.1 u.2 _).mono ?_)
      rintro e v1 ⟨rfl, hb1⟩
      try dsimp only
      refine hK.out _ _ ?_ (fun hH2 => ?_)
      · exact hH.trans (hb1.mono hH.size)
      clear hK K hH
      have hH := hH2
      clear hH2
      try simp only [Act.put, List.setIfInBounds_toArray, List.set_cons_zero, List.set_cons_succ]
      refine wpAnyH_take (i := 9) (v := ?_) (by simp only [List.getElem?_toArray, List.getElem?_cons_succ, List.getElem?_cons_zero]; rfl) (by kernel_rfl) (by kernel_rfl) (by kernel_rfl) (by exact fun _ _ _ h => h) (Or.inl ⟨by rfl, ?_⟩) hH ?_
      rotate_left
      · (intro wS hS; clear hS; go_simp; try rfl)
      try simp only [Act.put, List.setIfInBounds_toArray, List.set_cons_zero, List.set_cons_succ]
      refine wpAnyH_done (by kernel_rfl) ?_ _
      go_wp2_with fail
      go_roundw
      case rel => exact ⟨k + 1, by go_num, by omega, B.out.trans (hH.mono B.out.size)⟩
      case measure => simp [intOf]; omega
    · have hkn : k = n := by omega
      subst hkn
      go_wp2_with fail
      go_ret
      exact ⟨rfl, B.out⟩
def marksQ (c : Int) (n : Nat) : List (Int × Int) := (List.range n).map fun (q : Nat) => (c + 2 * (q : Int), c + 2 * (q : Int) + 1)
theorem marksQ_length (c : Int) (n : Nat) : (marksQ c n).length = n := by simp [marksQ]
theorem marksQ_getD (c : Int) (n q : Nat) (h : q < n) : (marksQ c n).getD q (0, 0) = (c + 2 * (q : Int), c + 2 * (q : Int) + 1) := by simp [marksQ, List.getD, h]
theorem markQ_step (l : List (Int × Int)) (c : Int) (q : Nat) (hq : q < l.length) : (marksQ c q ++ l.drop q).set q (c + 2 * (q : Int), c + 2 * (q : Int) + 1) = marksQ c (q + 1) ++ l.drop (q + 1) := by
  have e : marksQ c (q + 1) = marksQ c q ++ [(c + 2 * (q : Int), c + 2 * (q : Int) + 1)] := by simp [marksQ, List.range_succ]
  rw [e, List.append_assoc, List.set_append_right (h := by rw [marksQ_length]; exact Nat.le_refl _), marksQ_length, Nat.sub_self, List.drop_eq_getElem_cons hq]
  rfl
set_option maxRecDepth 100000 in
set_option maxHeartbeats 4000000 in
theorem markQS (g cap : Nat) (l : List (Int × Int)) (c : Int) (w : World) (h : QsB w g l) (hm : l.length ≤ 16777216) (hc0 : 0 ≤ c) (hc : c ≤ 16777216) :
    Calls Tryz.prog 32 #[.slice (some ⟨g, 0, none⟩) l.length cap, .int .i64 c] w fun e w' => e = .returned (.int .i64 (c + 2 * l.length)) ∧ QsB w' g (marksQ c l.length) ∧ w.grownBy w' (some g) := by
  have H := Lib.hid h
  clear h
  obtain ⟨n, hnn⟩ : ∃ n, l.length = n := ⟨_, rfl⟩
  rw [hnn] at hm ⊢
  have HN := Lib.hid hnn
  clear hnn
  go_enter Tryz.func32, Tryz.ntmps32
  go_wp2_with fail
  go_loopw [1, 5] (fun j i wr => ∃ q : Nat, i = .int .i64 q ∧ j = .int .i64 (c + 2 * (q : Int)) ∧ q ≤ n ∧ QsB wr g (marksQ c q ++ l.drop q) ∧ w.grownBy wr (some g)) (fun _ i _ => n - (intOf i).toNat)
  case atStart => exact ⟨0, rfl, by simp, by omega, by simpa [marksQ] using H.out, World.grownBy.refl _ _⟩
  case round =>
    obtain ⟨q, rfl, rfl, hk, hi, hg⟩ := hrel
    have I := Lib.hid hi
    have G := Lib.hid hg
    clear hi hg
    by_cases hlt : q < n
    · have HQ : Hid (q < l.length) := by show q < l.length; rw [HN.out]; exact hlt
      have KL : Hid (q < (marksQ c q ++ l.drop q).length) := by show q < _; have := HQ.out; simp [marksQ_length]; omega
      obtain ⟨d0, d1⟩ := I.out.cells KL.out
      have f0 := I.out.free (q * 2)
      have f1 := I.out.free (q * 2 + 1)
      go_wp2_with fail
      go_roundw
      case rel =>
        refine ⟨q + 1, by go_num, by go_num, by omega, ?_, ?_⟩
        · rw [← markQ_step l c q HQ.out]
          exact I.out.set KL.out (c + 2 * (q : Int), c + 2 * (q : Int) + 1)
        · exact grown_set_one (grown_set_one G.out rfl _) rfl _
      case measure => simp [intOf]; omega
    · have hkn : q = n := by omega
      subst hkn
      have e : marksQ c q ++ l.drop q = marksQ c q := by rw [← HN.out]; simp
      go_wp2_with fail
      go_ret
      exact ⟨rfl, by rw [← e]; exact I.out, G.out⟩
theorem markQS_nil (cap : Nat) (c : Int) (w : World) :
    Calls Tryz.prog 32 #[.slice none 0 cap, .int .i64 c] w fun e w' => e = .returned (.int .i64 c) ∧ w = w' := by
  go_enter Tryz.func32, Tryz.ntmps32
  go_wp2_with fail
  go_loopw [1, 5] (fun j i wr => j = .int .i64 c ∧ i = .int .i64 0 ∧ wr = w) (fun _ _ _ => 0)
  case atStart => exact ⟨rfl, rfl, rfl⟩
  case round =>
    obtain ⟨rfl, rfl, rfl⟩ := hrel
    go_wp2_with fail
    go_ret
    exact ⟨rfl, rfl⟩
set_option maxRecDepth 100000 in
set_option maxHeartbeats 4000000 in
theorem heldQS (a : Option Addr) (cap n : Nat) (c : Int) (w : World) (h : RdQ w a (marksQ c n)) (hm : n ≤ 16777216) (hc0 : 0 ≤ c) (hc : c ≤ 16777216) :
    Calls Tryz.prog 33 #[.slice a n cap, .int .i64 c] w (Gives (.int .i64 (c + 2 * n)) w) := by
  have H := Lib.hid h
  clear h
  go_enter Tryz.func33, Tryz.ntmps33
  go_wp2_with fail
  go_loopw [1, 5] (fun j i wr => ∃ q : Nat, i = .int .i64 q ∧ j = .int .i64 (c + 2 * (q : Int)) ∧ q ≤ n ∧ Below w.heap.size w wr) (fun _ i _ => n - (intOf i).toNat)
  case atStart => exact ⟨0, rfl, by simp, by omega, Below.refl _ _⟩
  case round =>
    obtain ⟨q, rfl, rfl, hk, hb⟩ := hrel
    have B := Lib.hid hb
    clear hb
    by_cases hlt : q < n
    · obtain ⟨b2, o2, rfl, hlt2, c0, c1⟩ := (H.out.below B.out) q (by rw [marksQ_length]; exact hlt)
      rw [marksQ_getD c n q hlt] at c0 c1
      dsimp only at c0 c1
      go_wp2_with fail
      go_roundw
      case rel => exact ⟨q + 1, by go_num, by go_num, by omega, B.out⟩
      case measure => simp [intOf]; omega
    · have hkn : q = n := by omega
      subst hkn
      go_wp2_with fail
      go_ret
      exact ⟨rfl, B.out⟩
end Go.Proofs.YtcapddcmnjeloaaGreatDoor
end

section
/-
  Memory in a law's walk: lists of ratios.
-/
namespace Go.Proofs.YtcapddcmnjeloaaGreatDoor
open Go.RowKit
def InQ (B T : Nat) (w : World) (v : Value) (l : List (Int × Int)) : Prop :=
  (v = .slice none 0 0 ∧ l = []) ∨ ∃ (g cap : Nat), v = .slice (some ⟨g, 0, none⟩) l.length cap ∧ B ≤ g ∧ g < T ∧ QsB w g l ∧ l.length ≤ 1048576
theorem OwnR.inn {B : Nat} {w : World} {v : Value} {l : List (Int × Int)} (h : OwnR B w v l) (hl : l.length ≤ 1048576) : InQ B w.heap.size w v l := by
  rcases h.blk with h | ⟨g, cap, hv, hB, hi, -⟩
  · exact .inl h
  · exact .inr ⟨g, cap, hv, hB, hi.lt, hi, hl⟩
theorem InQ.rd {B T : Nat} {w : World} {a : Option Addr} {n cap : Nat} {l : List (Int × Int)} (h : InQ B T w (.slice a n cap) l) : n = l.length ∧ RdQ w a l ∧ l.length ≤ 1048576 := by
  rcases h with ⟨hv, rfl⟩ | ⟨g, cap', hv, _, _, hi, hl⟩
  · injection hv with e1 e2 e3
    exact ⟨e2, RdQ.nil _ _, by simp⟩
  · injection hv with e1 e2 e3
    subst e1
    exact ⟨e2, hi.rd, hl⟩
theorem InQ.chg {B T B' T' : Nat} {w w' : World} {v : Value} {l : List (Int × Int)} (h : InQ B T w v l) (hc : Chg B' T' w w') (hd : T ≤ B' ∨ T' ≤ B) : InQ B T w' v l := by
  rcases h with h | ⟨g, cap, hv, h1, h2, hi, hl⟩
  · exact .inl h
  · exact .inr ⟨g, cap, hv, h1, h2, hi.move (hc.block g hi.lt (by omega)), hl⟩
theorem InQ.keep {B T : Nat} {w w' : World} {v : Value} {l : List (Int × Int)} (h : InQ B T w v l) (hb : Below w.heap.size w w') : InQ B T w' v l := by
  rcases h with h | ⟨g, cap, hv, h1, h2, hi, hl⟩
  · exact .inl h
  · exact .inr ⟨g, cap, hv, h1, h2, hi.keep hb hi.lt, hl⟩
theorem InQ.old {B T : Nat} {w : World} {v : Value} {l : List (Int × Int)} (h : InQ B T w v l) (o : Obj) : InQ B T (w.alloc o) v l := h.keep ((Below.refl _ _).alloc (Nat.le_refl _) o)
theorem markInQ {B T : Nat} (a : Option Addr) (cap : Nat) (l : List (Int × Int)) (k : Int) (w : World) (h : InQ B T w (.slice a l.length cap) l) (hk0 : 0 ≤ k) (hk : k ≤ 16777216) :
    Calls Tryz.prog 32 #[.slice a l.length cap, .int .i64 k] w fun e w' => e = .returned (.int .i64 (k + 2 * l.length)) ∧ InQ B T w' (.slice a l.length cap) (marksQ k l.length) ∧ Chg B T w w' := by
  rcases h with ⟨hv, rfl⟩ | ⟨g, cap', hv, h1, h2, hi, hl⟩
  · injection hv with v1 v2 v3
    subst v1 v3
    exact (markQS_nil 0 k w).mono fun e w' ⟨he, hw⟩ => ⟨by rw [he]; simp, .inl ⟨rfl, rfl⟩, by rw [← hw]; exact Chg.of_below (Below.refl _ _)⟩
  · injection hv with v1 v2 v3
    subst v1 v3
    exact (markQS g cap l k w hi (by omega) hk0 hk).mono fun e w' ⟨he, hi', hg⟩ => ⟨he, .inr ⟨g, cap, by rw [marksQ_length], h1, h2, hi', by rw [marksQ_length]; exact hl⟩, Chg.of_one hg h1 h2⟩
end Go.Proofs.YtcapddcmnjeloaaGreatDoor
end

section
/-
  A list of ints copied by the law's own helper, its block named.
-/
namespace Go.Proofs.YtcapddcmnjeloaaGreatDoor
open Go.RowKit
theorem toIg (a : Option Addr) (cap : Nat) (zs : List Int) (w : World) (h : Rd w a zs) (hn : zs.length ≤ 1048576) :
    Calls Tryz.prog 26 #[.slice a zs.length cap] w (fun e w' => ∃ g : Nat, e = .returned (.slice (some ⟨g, 0, none⟩) zs.length zs.length) ∧ g = w.heap.size ∧ Ints w' g zs ∧ Below w.heap.size w w') :=
  (toI a cap zs w h hn).mono fun _ _ h => ⟨_, h.1, rfl, h.2.1, h.2.2⟩
end Go.Proofs.YtcapddcmnjeloaaGreatDoor
end
