/-
  Texts of this seat, joined: ZBAsM · ZBLfB · ZBSoLif · ZBSameQ · ZBDraw · ZBFr · ZBDraw3 · ZBDraw4 · ZBDrwR · ZBDraw7 · ZBCode · ZBAnyM · ZBDrawP · ZBDrawR · ZBDrawY · ZBRatLaw
-/
import Derived.BigQuiet
import Derived.Deep.QuietTactic
import Derived.Test.YtcapddcmnjeloaaGreatDoorRows
import Derived.WalkKit
import Derived.Deep.RegionHeld3
import Derived.Deep.DeepCutAuto
import Derived.StillTailTactics
import Derived.IntWalk
import Derived.ProofKit
import Derived.OpenShut
import Derived.Test.YtcapddcmnjeloaaGreatDoorPk12
import Derived.Test.YtcapddcmnjeloaaGreatDoorPk13
import Derived.Test.YtcapddcmnjeloaaGreatDoorPk15
import Derived.Test.YtcapddcmnjeloaaGreatDoorPk17
import Derived.Test.YtcapddcmnjeloaaGreatDoorPk18
import Derived.Test.YtcapddcmnjeloaaGreatDoorPk19
import Derived.Test.YtcapddcmnjeloaaGreatDoorPk21

section
/- errors.As: the error's type is not the target's element type (after the kit's worked example ToyasAs). -/
namespace Go.Proofs.YtcapddcmnjeloaaGreatDoor
open Go.RowKit Go.Extern.Stop Go.Stop Go.Extern
theorem Tryz.am_typeOf (v : Value) (w : World) : (ReflectliteType.typeOf #[.iface 95 v]).run Tryz.prog w = .ok (.iface 185 (.agg #[.pointer (some ⟨7, 95, none⟩)])) w := by kernel_rfl
theorem Tryz.am_assignable (w : World) : (ReflectliteType.relation "AssignableTo" ReflectliteType.assignableTo #[.agg #[.pointer (some ⟨7, 95, none⟩)], .iface 185 (.agg #[.pointer (some ⟨7, 104, none⟩)])]).run Tryz.prog w = .ok (.bool false) w := by kernel_rfl
@[go_sem] theorem Tryz.am_as (v : Value) (w : World) : (Instr.typeAssert (.iface 95 v) 93 190 true).run Tryz.prog w = .ok (.tuple #[.nilIface, .bool false]) w := run_typeAssert_lacksB Tryz.underlying190 (by kernel_rfl) (by kernel_rfl) v 93 w
@[go_sem] theorem Tryz.am_unwrap (v : Value) (w : World) : (Instr.typeAssert (.iface 95 v) 93 193 true).run Tryz.prog w = .ok (.tuple #[.nilIface, .bool false]) w := run_typeAssert_lacksB Tryz.underlying193 (by kernel_rfl) (by kernel_rfl) v 93 w
@[go_sem] theorem Tryz.am_unwraps (v : Value) (w : World) : (Instr.typeAssert (.iface 95 v) 93 195 true).run Tryz.prog w = .ok (.tuple #[.nilIface, .bool false]) w := run_typeAssert_lacksB Tryz.underlying195 (by kernel_rfl) (by kernel_rfl) v 93 w
set_option maxHeartbeats 4000000 in
theorem am_miss (v : Value) (t : Addr) (w : World) (hg : w.cell? ⟨0, 0, none⟩ = some (.iface 185 (.agg #[.pointer (some ⟨7, 93, none⟩)]))) :
    Calls Tryz.prog 86 #[.iface 95 v, .iface 106 (.pointer (some t))] w fun ev w' => ev = .returned (.bool false) ∧ w' = (((w.alloc (.cells #[.pointer (some t)] 106)).alloc (.cells #[.pointer (some ⟨7, 106, none⟩), .pointer (some ⟨w.heap.size, 0, none⟩), .int .u64 150] 155)).alloc (.cells #[.pointer (some ⟨7, 106, none⟩), .pointer (some ⟨w.heap.size, 0, none⟩), .int .u64 150] 155)) := by
  have h6 := @run_callFunc_extern Tryz.prog 138 _ (fun args => ReflectliteValue.unpack (args.getD 0 (.tuple #[]))) Tryz.func138 (by kernel_rfl) (by kernel_rfl) (by kernel_rfl) (by kernel_rfl)
  have h7 := @run_callFunc_extern Tryz.prog 139 _ (ReflectliteValue.methodAny (ReflectliteValue.valueError "reflectlite.Value.Type" 0) (fun t _ _ _ => ReflectliteType.toType t)) Tryz.func139 (by kernel_rfl) (by kernel_rfl) (by kernel_rfl) (by kernel_rfl)
  have h8 := @run_callFunc_extern Tryz.prog 140 _ (ReflectliteValue.method (ReflectliteValue.valueError "reflectlite.Value.IsNil" 0) ReflectliteValue.isNil) Tryz.func140 (by kernel_rfl) (by kernel_rfl) (by kernel_rfl) (by kernel_rfl)
  have h27 := @run_callFunc_extern Tryz.prog 228 _ (ReflectliteType.abiMethod fun t => do pure (.int .u8 (← Rtype.kind t))) Tryz.func228 (by kernel_rfl) (by kernel_rfl) (by kernel_rfl) (by kernel_rfl)
  have h37 := @run_callFunc_extern Tryz.prog 239 _ (ReflectliteType.method ReflectliteType.elem) Tryz.func239 (by kernel_rfl) (by kernel_rfl) (by kernel_rfl) (by kernel_rfl)
  have h38 := @run_callFunc_extern Tryz.prog 240 _ (ReflectliteType.relation "Implements" ReflectliteType.implements_) Tryz.func240 (by kernel_rfl) (by kernel_rfl) (by kernel_rfl) (by kernel_rfl)
  have h10 := @run_callFunc_extern Tryz.prog 168 _ ReflectliteType.typeOf Tryz.func168 (by kernel_rfl) (by kernel_rfl) (by kernel_rfl) (by kernel_rfl)
  have h35 := @run_callFunc_extern Tryz.prog 237 _ (ReflectliteType.relation "AssignableTo" ReflectliteType.assignableTo) Tryz.func237 (by kernel_rfl) (by kernel_rfl) (by kernel_rfl) (by kernel_rfl)
  have tO := Tryz.am_typeOf
  have mA := Tryz.av_methodAssignableTo
  have a25 := Tryz.am_assignable
  have f6 := Tryz.av_valueOf27
  have f7 := Tryz.av_type27
  have mK := Tryz.av_methodKind
  have mE := Tryz.av_methodElem
  have mI := Tryz.av_methodImplements
  have k27 := Tryz.av_kind27
  have k25 := Tryz.av_kind25
  have e27 := Tryz.av_elem27
  have i25 := Tryz.av_implements25
  have n8 := Tryz.av_isNil27 ⟨w.heap.size, 0, none⟩ t ((w.alloc (.cells #[.pointer (some t)] 106)).alloc (.cells #[.pointer (some ⟨7, 106, none⟩), .pointer (some ⟨w.heap.size, 0, none⟩), .int .u64 150] 155)) (by simp)
  have hlt : 0 < w.heap.size := by
    rcases Nat.eq_zero_or_pos w.heap.size with h0 | h
    · simp [World.cell?, h0] at hg
    · exact h
  have hg2 : ((w.alloc (.cells #[.pointer (some t)] 106)).alloc (.cells #[.pointer (some ⟨7, 106, none⟩), .pointer (some ⟨w.heap.size, 0, none⟩), .int .u64 150] 155)).cell? ⟨0, 0, none⟩ = some (.iface 185 (.agg #[.pointer (some ⟨7, 93, none⟩)])) := by
    rw [World.cell?_alloc_lt _ _ ⟨0, 0, none⟩ (by simp), World.cell?_alloc_lt _ _ ⟨0, 0, none⟩ hlt]; exact hg
  go_enter Tryz.func86, Tryz.ntmps86
  go_wp2
  refine wp_loop_rounds 1 ?_
  rw [rounds_succ]
  go_wp2
  go_ret
  exact ⟨rfl, rfl⟩
end Go.Proofs.YtcapddcmnjeloaaGreatDoor
end

section
/-
  Chapter 11, in the program: byLifting.
-/
namespace Go.Proofs.YtcapddcmnjeloaaGreatDoor
set_option maxRecDepth 100000
open Go.RowKit Go.Shelf
attribute [local go_sem] Oper.semAt_some
def TabE (w : World) : Prop := w.cell? ⟨0, 0, none⟩ = some (.iface 185 (.agg #[.pointer (some ⟨7, 93, none⟩)]))
theorem TabE.below {w w' : World} (h : TabE w) (hb : Below w.heap.size w w') : TabE w' := (hb.cell (World.block_lt_of_cell? w _ h)).trans h
theorem asNil (t : Value) (w : World) : Calls Tryz.prog 86 #[.nilIface, t] w fun e w' => e = .returned (.bool false) ∧ Below w.heap.size w w' := (av_nil t w).mono fun e w' ⟨h1, h2⟩ => ⟨h1, by rw [h2]; exact Below.refl _ _⟩
theorem asMiss (v : Value) (g : Nat) (w : World) (tb : TabE w) : Calls Tryz.prog 86 #[.iface 95 v, .iface 106 (.pointer (some ⟨g, 0, none⟩))] w fun e w' => e = .returned (.bool false) ∧ Below w.heap.size w w' := (am_miss v ⟨g, 0, none⟩ w tb).mono fun e w' ⟨h1, h2⟩ => ⟨h1, by
  rw [h2]
  exact (((Below.refl _ w).alloc (Nat.le_refl _) _).alloc (by simp) _).alloc (by simp; omega) _⟩
theorem asHit (p : Int) (g : Nat) (z : Value) (w : World) (tb : TabE w) (hz : Blk1 w g 104 z) : Calls Tryz.prog 86 #[.iface 104 (.agg #[.int .i64 p]), .iface 106 (.pointer (some ⟨g, 0, none⟩))] w fun e w' => e = .returned (.bool true) ∧ Below g w w' := (av_hit ⟨g, 0, none⟩ (.int .i64 p) z w rfl tb hz.cell0 (hz.free 0)).mono fun e w' ⟨h1, h2⟩ => ⟨h1, by
  have := hz.lt
  rw [h2]
  exact (((((Below.refl g w).alloc (by omega) _).alloc (by simp; omega) _).alloc (by simp; omega) _).alloc (by simp; omega) _).setCell (by show g ≤ g; omega) _⟩
theorem OwnR.move {B : Nat} {w w' : World} {v : Value} {l : List (Int × Int)} (h : OwnR B w v l) (hb : ∀ k, v.ownBlock = some k → w'.heap[k]? = w.heap[k]?) : OwnR B w' v l := by
  obtain ⟨h1, ⟨h2, h3⟩ | ⟨g, cap, cur, rfl, hB, hg, rest⟩⟩ := h
  · exact ⟨h1, .inl ⟨h2, h3⟩⟩
  · exact ⟨h1, .inr ⟨g, cap, cur, rfl, hB, (hb g rfl).trans hg, rest⟩⟩
theorem OwnR.lt {B : Nat} {w : World} {v : Value} {l : List (Int × Int)} (h : OwnR B w v l) {k : Nat} (hk : v.ownBlock = some k) : B ≤ k ∧ k < w.heap.size := World.ownsRow.lt h k hk
theorem sl_none {n : Nat} {xs bs : List Int} (h : ∀ q : Nat, 101 ≤ q → q ≤ 199 → prmB (q : Int) = true → (ivX n n q xs).ok = false) : slX n n xs bs = ([], false) := slX_none fun q h1 h2 => by
  obtain ⟨k, rfl⟩ := Int.eq_ofNat_of_zero_le (show 0 ≤ q by omega)
  cases hp : prmB (k : Int) with
  | true => exact h k (by omega) (by omega) hp
  | false =>
    cases hv : (ivX n n k xs).ok with
    | false => rfl
    | true =>
      obtain ⟨_, -, -, -, hp2, -⟩ := ivX_says hv
      rw [hp] at hp2; cases hp2
theorem sl_first {n x : Nat} {xs bs : List Int} (hs : sysB n n xs bs = true) (h1 : 101 ≤ x) (h2 : x ≤ 199) (hi : (ivX n n x xs).ok = true) (h : ∀ q : Nat, 101 ≤ q → q < x → prmB (q : Int) = true → (ivX n n q xs).ok = false) : slX n n xs bs = slQ x n xs bs := slX_at hs ⟨by omega, by omega, hi, fun q h3 h4 => by
  obtain ⟨k, rfl⟩ := Int.eq_ofNat_of_zero_le (show 0 ≤ q by omega)
  cases hp : prmB (k : Int) with
  | true => exact h k (by omega) (by omega) hp
  | false =>
    cases hv : (ivX n n k xs).ok with
    | false => rfl
    | true =>
      obtain ⟨_, -, -, -, hp2, -⟩ := ivX_says hv
      rw [hp] at hp2; cases hp2⟩
theorem mem_prm {pre : List PrmQ} {m q : Nat} (h : prmV pre = prmTo m) (hq : q < m) (hp : prmB (q : Int) = true) : ∃ y ∈ pre, y.1 = q := by
  have : (q : Int) ∈ prmV pre := by rw [h]; exact prmTo_mem.mpr ⟨q, rfl, hq, hp⟩
  obtain ⟨y, hy, e⟩ := List.mem_map.mp this
  exact ⟨y, hy, by omega⟩
structure LbW (w : World) (n L Lb m mb : Nat) (a ab : Option Addr) (W : World) : Prop where
  mat : Blk3 W w.heap.size 26 (.int .i64 n) (.int .i64 n) (.slice a L m)
  rhs : Blk1 W (w.heap.size + 1) 24 (.slice ab Lb mb)
  res : Blk1 W (w.heap.size + 1 + 1) 29 (.slice none 0 0)
  err : Blk1 W (w.heap.size + 1 + 1 + 1) 93 .nilIface
  bel : Below w.heap.size w W
theorem LbW.ab {w : World} {n L Lb m mb : Nat} {a ab : Option Addr} {W W' : World} {row : Option Nat} (h : LbW w n L Lb m mb a ab W) (hg : W.grownBy W' row) (hr : ∀ r, row = some r → w.heap.size + 4 ≤ r) : LbW w n L Lb m mb a ab W' := by
  have keep : ∀ g, g < W.heap.size → g < w.heap.size + 4 → W'.heap[g]? = W.heap[g]? := fun g hl h1 => hg.block g hl (fun e => by have := hr g e.symm; omega)
  exact ⟨(keep _ h.mat.lt (by omega)).trans h.mat, (keep _ h.rhs.lt (by omega)).trans h.rhs, (keep _ h.res.lt (by omega)).trans h.res, (keep _ h.err.lt (by omega)).trans h.err, h.bel.grown hg h.bel.size (fun r e => by have := hr r e; omega)⟩
theorem LbW.below {w : World} {n L Lb m mb B : Nat} {a ab : Option Addr} {W W' : World} (h : LbW w n L Lb m mb a ab W) (hb : Below B W W') (hB : w.heap.size + 4 ≤ B) : LbW w n L Lb m mb a ab W' :=
  ⟨h.mat.keep hb (by omega), (hb.block _ (by omega)).trans h.rhs, (hb.block _ (by omega)).trans h.res, (hb.block _ (by omega)).trans h.err, h.bel.trans (hb.mono (by omega))⟩
def lbI (w : World) (n L Lb m mb : Nat) (a ab : Option Addr) (bad : Nat → Prop) (pre : List PrmQ) (_ : Nat → Prop) (W : World) : Prop := (∀ x ∈ pre, 101 ≤ x.1 → x.1 ≤ 199 → bad x.1) ∧ LbW w n L Lb m mb a ab W
def lbE (w : World) (n L Lb m mb : Nat) (a ab : Option Addr) (bad : Nat → Prop) (RS : Nat → List (Int × Int) × Bool) (c : Code) (pre : List PrmQ) (M : Nat → Prop) (W : World) : Prop :=
  ∃ (ini : List PrmQ) (x : PrmQ), pre = ini ++ [x] ∧ (∀ y ∈ ini, 101 ≤ y.1 → y.1 ≤ 199 → bad y.1) ∧
    ((c = .exit 0 ∧ 199 < x.1 ∧ LbW w n L Lb m mb a ab W) ∨
     (c = .ret ∧ 101 ≤ x.1 ∧ x.1 ≤ 199 ∧ ¬ bad x.1 ∧ ∃ (qa : Option Addr) (qc : Nat) (ev : Value), Blk1 W (w.heap.size + 1 + 1) 29 (.slice qa (RS x.1).1.length qc) ∧ Blk1 W (w.heap.size + 1 + 1 + 1) 93 ev ∧ OwnR w.heap.size W (.slice qa (RS x.1).1.length qc) (RS x.1).1 ∧ (∀ k, (Value.slice qa (RS x.1).1.length qc).ownBlock = some k → M k) ∧ (((RS x.1).2 = true ∧ ev = .nilIface) ∨ ((RS x.1).2 = false ∧ ∃ t u, ev = .iface t u)) ∧ Below w.heap.size w W))
theorem lbI.ab (w : World) (n L Lb m mb : Nat) (a ab : Option Addr) (bad : Nat → Prop) : AbY (w.heap.size + 4) (lbI w n L Lb m mb a ab bad) := fun _ _ _ _ _ h hg hr => ⟨h.1, h.2.ab hg (fun r e => (hr r e).1)⟩
theorem lbE.ab (w : World) (n L Lb m mb : Nat) (a ab : Option Addr) (bad : Nat → Prop) (RS : Nat → List (Int × Int) × Bool) (c : Code) : AbY (w.heap.size + 4) (lbE w n L Lb m mb a ab bad RS c) := fun _ _ _ _ _ h hg hr => by
  obtain ⟨ini, x, e, hi, ⟨h1, h2, h3⟩ | ⟨h1, h2, h3, h4, qa, qc, ev, c2, c3, ho, hm, hev, hB⟩⟩ := h
  · exact ⟨ini, x, e, hi, .inl ⟨h1, h2, h3.ab hg (fun r e => (hr r e).1)⟩⟩
  · refine ⟨ini, x, e, hi, .inr ⟨h1, h2, h3, h4, qa, qc, ev, (hg.block _ c2.lt (fun e => by have := hr _ e.symm; omega)).trans c2, (hg.block _ c3.lt (fun e => by have := hr _ e.symm; omega)).trans c3, ho.move (fun k hk => hg.block k (ho.lt hk).2 (fun e => (hr k e.symm).2 (hm k hk))), hm, hev, hB.grown hg hB.size (fun r e => by have := hr r e; omega)⟩⟩
set_option maxHeartbeats 8000000 in
theorem iByLif (n : Nat) (a : Option Addr) (m : Nat) (xs : List Int) (ab : Option Addr) (mb : Nat) (bs : List Int) (w : World) (h : Rd w a xs) (hc : CelA a xs.length m) (hs : sysB n n xs bs = true) (hb : Rd w ab bs) (tb : TabE w) :
    Calls Tryz.prog 42 #[.agg #[.int .i64 n, .int .i64 n, .slice a xs.length m], .slice ab bs.length mb] w (RoadRes (slX n n xs bs).1 (slX n n xs bs).2 w) := by
  have LT : Hid (∀ (d : Nat) (w' : World), 101 ≤ d → d ≤ 199 → Below w.heap.size w w' → Calls Tryz.prog 85 #[.agg #[.int .i64 n, .int .i64 n, .slice a xs.length m], .slice ab bs.length mb, .int .i64 (d : Int)] w' (LiftRes d (ivX n n d xs).ok (slQ d n xs bs).1 (slQ d n xs bs).2 w')) := fun d w' h1 h2 hb' => iLifted d n a m xs ab mb bs w' (by omega) (by omega) (h.below hb') hc hs (hb.below hb')
  have HN : Hid ((∀ q : Nat, 101 ≤ q → q ≤ 199 → prmB (q : Int) = true → (ivX n n q xs).ok = false) → slX n n xs bs = ([], false)) := fun h => sl_none h
  have HY : Hid (∀ x : Nat, 101 ≤ x → x ≤ 199 → ¬ (ivX n n x xs).ok = false → (∀ q : Nat, 101 ≤ q → q < x → prmB (q : Int) = true → (ivX n n q xs).ok = false) → slX n n xs bs = slQ x n xs bs) := fun x h1 h2 h3 h4 => sl_first hs h1 h2 (by simpa using h3) h4
  have TB := Lib.hid tb
  generalize slX n n xs bs = RES at HN HY ⊢
  obtain ⟨bad, hbad⟩ : ∃ bad : Nat → Prop, bad = fun (d : Nat) => (ivX n n (d : Int) xs).ok = false := ⟨_, rfl⟩
  obtain ⟨RS, hRS⟩ : ∃ RS : Nat → List (Int × Int) × Bool, RS = fun (d : Nat) => slQ (d : Int) n xs bs := ⟨_, rfl⟩
  have HB := Lib.hid hbad
  have HR := Lib.hid hRS
  obtain ⟨L, hL⟩ : ∃ L, xs.length = L := ⟨_, rfl⟩
  obtain ⟨Lb, hLb⟩ : ∃ Lb, bs.length = Lb := ⟨_, rfl⟩
  rw [hL, hLb] at LT ⊢
  clear h hc hs hb tb hbad hRS hL hLb
  refine (callsIn_wide (n := 4)).1 ?_
  refine callsIn_of_wp_marks Tryz.func42 rfl trivial ?_ rfl
  simp only [Tryz.ntmps42, List.size_toArray, List.length_cons, List.length_nil, Nat.reduceAdd, Nat.reduceSub, Array.replicate_succ, Array.replicate_zero, List.push_toArray, List.append_toArray, List.nil_append, List.cons_append]
  gi_wp2_with (refine ⟨trivial, ?_⟩; gi_at_call 61; refine (callsIn_wide.2 (iPrimes _)).mono ?_; rintro e w' ⟨rfl, rfl⟩)
  have J0 : Hid (lbI w n L Lb m mb a ab bad [] (fun _ => False) ((((w.alloc (.cells #[.int .i64 n, .int .i64 n, .slice a L m] 26)).alloc (.cells #[.slice ab Lb mb] 24)).alloc (.cells #[.slice none 0 0] 29)).alloc (.cells #[.nilIface] 93))) :=
    ⟨fun x hx => by simp at hx, ((((Blk3.at_ _ _ _ _ rfl).old _).old _).old _), (((Blk1.at_ _ _ (by simp)).old _).old _), ((Blk1.at_ _ _ (by simp)).old _), (Blk1.at_ _ _ (by simp)), ((((Below.refl _ w).alloc (Nat.le_refl _) _).alloc (by simp) _).alloc (by simp; omega) _).alloc (by simp; omega) _⟩
  have SZ : ((((w.alloc (.cells #[.int .i64 n, .int .i64 n, .slice a L m] 26)).alloc (.cells #[.slice ab Lb mb] 24)).alloc (.cells #[.slice none 0 0] 29)).alloc (.cells #[.nilIface] 93)).heap.size = w.heap.size + 4 := by simp
  generalize ((((w.alloc (.cells #[.int .i64 n, .int .i64 n, .slice a L m] 26)).alloc (.cells #[.slice ab Lb mb] 24)).alloc (.cells #[.slice none 0 0] 29)).alloc (.cells #[.nilIface] 93)) = W0 at J0 SZ ⊢
  refine wpIn_rangeY (F := Fence.wide) rfl (by omega) (gf := 103) rfl trivial (enters_of Tryz.func103 (by kernel_rfl) rfl) (seqPrimesY 3 (by omega)) (fun _ => rfl) (lbI w n L Lb m mb a ab bad) (lbE w n L Lb m mb a ab bad RS) (by rw [SZ]; exact lbI.ab w n L Lb m mb a ab bad) (fun c => by rw [SZ]; exact lbE.ab w n L Lb m mb a ab bad RS c) J0.out
    (fun x => { tmps := #[.agg #[.int .i64 n, .int .i64 n, .slice a L m], .slice ab Lb mb, .pointer (some ⟨w.heap.size, 0, none⟩), .pointer (some ⟨w.heap.size + 1, 0, none⟩), .pointer (some ⟨w.heap.size + 1 + 1, 0, none⟩), .pointer (some ⟨w.heap.size + 1 + 1 + 1, 0, none⟩), .int .i64 (x.1 : Int), undef, undef, undef, .func (.func 103) #[] #[], .int .i64 (x.1 : Int), undef, undef, undef, undef, undef, undef, undef, undef, undef, undef, undef, undef, undef, undef, undef, undef, undef, undef], defers := [] }) ?assign ?body ?done ?stop
  case assign =>
    intro l x W K hK
    gi_wp2
    exact hK
  case body =>
    rintro l pre x M W ⟨hbad, hW⟩ hM hNx hSz
    rw [SZ] at hM hSz ⊢
    have J := Lib.hid hW
    have HM := Lib.hid hM
    have HBD := Lib.hid hbad
    obtain ⟨d, hd⟩ : ∃ d : Nat, x.1 = d := ⟨_, rfl⟩
    have DD := Lib.hid hd
    have x2 := x.2.1
    rw [hd] at x2 ⊢
    clear hW hM hbad hd hNx J0
    by_cases h1 : 199 < d
    · gi_wp2
      exact ⟨M, ⟨Nat.le_refl _, fun _ _ _ _ => rfl, fun g hg => ⟨.inl hg, (HM.out g hg).2⟩⟩, pre, x, rfl, HBD.out, .inl ⟨rfl, by rw [DD.out]; exact h1, J.out⟩⟩
    by_cases h2 : d < 101
    · gi_wp2
      exact ⟨M, ⟨Nat.le_refl _, fun _ _ _ _ => rfl, fun g hg => ⟨.inl hg, (HM.out g hg).2⟩⟩, fun y hy h3 h4 => (List.mem_append.1 hy).elim (fun h => HBD.out y h h3 h4) (fun e => by simp at e; subst e; have := DD.out; omega), J.out⟩
    have y0 := J.out.mat.cell0
    have y1 := J.out.mat.cell1
    have y2 := J.out.mat.cell2
    have y3 := J.out.rhs.cell0
    have LTd := Lib.hid (LT.out d W (by omega) (by omega) J.out.bel)
    have c1 : ((199 : Int) < (d : Int)) = False := by simp; omega
    have c2 : ((d : Int) < 101) = False := by simp; omega
    gi_wp2_with (refine ⟨trivial, ?_⟩; gi_at_call 85; refine (callsIn_wide.2 LTd.out).mono ?_; rintro e w2 ⟨v, ev, rfl, hb2, hv⟩)
    have sW := hSz
    have lz := hb2.size
    have J2 := Lib.hid ((J.out.below hb2 (by omega)).below ((Below.refl w2.heap.size w2).alloc (Nat.le_refl _) (.cells #[.int .i64 0] 104)) (by omega))
    have B2 : Hid (Below W.heap.size W (w2.alloc (.cells #[.int .i64 0] 104))) := hb2.alloc hb2.size _
    have TB2 := Lib.hid (TB.out.below J2.out.bel)
    have KP : Hid (∀ w', Below W.heap.size W w' → KpY (w.heap.size + 4) M M W w') := fun w' hb => ⟨hb.size, fun k _ hk _ => hb.block k hk, fun k hk => ⟨.inl hk, Nat.lt_of_lt_of_le (HM.out k hk).2 hb.size⟩⟩
    have BAD : Hid (bad d ↔ (ivX n n d xs).ok = false) := by show _ ↔ _; rw [HB.out]
    have RSD : Hid (RS d = slQ d n xs bs) := by show _ = _; rw [HR.out]
    rcases hv with ⟨hi, rfl, rfl⟩ | ⟨hi, ho, hev⟩
    · have Z2 : Hid (Blk1 (w2.alloc (.cells #[.int .i64 0] 104)) w2.heap.size 104 (.int .i64 0)) := Blk1.at_ _ _ rfl
      have BD : Hid (bad d) := BAD.out.2 hi
      clear hi hb2 y0 y1 y2 y3
      refine ⟨trivial, ?_⟩
      refine (callsIn_wide.2 (asHit d w2.heap.size _ _ TB2.out Z2.out)).mono ?_
      rintro e w3 ⟨rfl, hb3⟩
      have J3 := Lib.hid (J2.out.below hb3 (by omega))
      have B3 := Lib.hid (B2.out.trans (hb3.mono lz))
      clear hb3
      gi_wp2
      exact ⟨M, KP.out _ B3.out, fun y hy h3 h4 => (List.mem_append.1 hy).elim (fun h => HBD.out y h h3 h4) (fun e => by simp at e; subst e; rw [DD.out]; exact BD.out), J3.out⟩
    · obtain ⟨qa, qc, rfl⟩ := ho.form
      have ND : Hid (¬ bad d) := fun hb => by have := BAD.out.1 hb; rw [hi] at this; cases this
      have O2 := Lib.hid (ho.old (.cells #[.int .i64 0] 104))
      rw [← RSD.out] at O2 hev ⊢
      have FIN : Hid (∀ (w3 : World) (ev : Value), Below w2.heap.size (w2.alloc (.cells #[.int .i64 0] 104)) w3 → True) := fun _ _ _ => trivial
      clear hi hb2 y0 y1 y2 y3 ho
      have AS : Hid (CallsIn (Fence.wide.inRound l) 1 Tryz.prog 86 #[ev, .iface 106 (.pointer (some ⟨w2.heap.size, 0, none⟩))] (w2.alloc (.cells #[.int .i64 0] 104)) fun e w' => e = .returned (.bool false) ∧ Below (w2.alloc (.cells #[.int .i64 0] 104)).heap.size (w2.alloc (.cells #[.int .i64 0] 104)) w') := by
        rcases hev with ⟨-, rfl⟩ | ⟨-, s, rfl⟩
        · exact callsIn_wide.2 (asNil _ _)
        · exact callsIn_wide.2 (asMiss _ _ _ TB2.out)
      have HEV : Hid (((RS d).2 = true ∧ ev = .nilIface) ∨ ((RS d).2 = false ∧ ∃ t u, ev = .iface t u)) := hev.imp id (fun ⟨h1, s, h2⟩ => ⟨h1, _, _, h2⟩)
      refine ⟨trivial, ?_⟩
      refine AS.out.mono ?_
      rintro e w3 ⟨rfl, hb3⟩
      have J3 := Lib.hid (J2.out.below hb3 (by simp; omega))
      have B3 := Lib.hid (B2.out.trans (hb3.mono B2.out.size))
      have O3 := Lib.hid (O2.out.keep hb3)
      have r0 := J3.out.res.cell0
      have r1 := J3.out.res.free 0
      have e0 := J3.out.err.cell0
      have e1 := J3.out.err.free 0
      have R4 := Lib.hid ((J3.out.res.set0 (.slice qa (RS d).1.length qc)).far (a := ⟨w.heap.size + 1 + 1 + 1, 0, none⟩) (by show w.heap.size + 1 + 1 ≠ w.heap.size + 1 + 1 + 1; omega) ev)
      have E4 := Lib.hid ((J3.out.err.far (a := ⟨w.heap.size + 1 + 1, 0, none⟩) (by show w.heap.size + 1 + 1 + 1 ≠ w.heap.size + 1 + 1; omega) (.slice qa (RS d).1.length qc)).set0 ev)
      have O4 : Hid (OwnR W.heap.size ((w3.setCell ⟨w.heap.size + 1 + 1, 0, none⟩ (.slice qa (RS d).1.length qc)).setCell ⟨w.heap.size + 1 + 1 + 1, 0, none⟩ ev) (.slice qa (RS d).1.length qc) (RS d).1) := O3.out.move fun k hk => by
        have := (O3.out.lt hk).1
        exact (Below.heap_setCell _ ⟨w.heap.size + 1 + 1 + 1, 0, none⟩ ev k (by show k ≠ w.heap.size + 1 + 1 + 1; omega)).trans (Below.heap_setCell _ ⟨w.heap.size + 1 + 1, 0, none⟩ _ k (by show k ≠ w.heap.size + 1 + 1; omega))
      have B4 := Lib.hid ((J3.out.bel.setCell (p := ⟨w.heap.size + 1 + 1, 0, none⟩) (by show w.heap.size ≤ w.heap.size + 1 + 1; omega) (.slice qa (RS d).1.length qc)).setCell (p := ⟨w.heap.size + 1 + 1 + 1, 0, none⟩) (by show w.heap.size ≤ w.heap.size + 1 + 1 + 1; omega) ev)
      have K4 : Hid (KpY (w.heap.size + 4) M (fun k => (Value.slice qa (RS d).1.length qc).ownBlock = some k) W ((w3.setCell ⟨w.heap.size + 1 + 1, 0, none⟩ (.slice qa (RS d).1.length qc)).setCell ⟨w.heap.size + 1 + 1 + 1, 0, none⟩ ev)) := by
        refine ⟨by simp [World.setCell]; exact B3.out.size, fun k h3 h4 _ => ?_, fun k hk => ⟨.inr (O4.out.lt hk).1, (O4.out.lt hk).2⟩⟩
        exact ((Below.heap_setCell _ ⟨w.heap.size + 1 + 1 + 1, 0, none⟩ ev k (by show k ≠ w.heap.size + 1 + 1 + 1; omega)).trans (Below.heap_setCell _ ⟨w.heap.size + 1 + 1, 0, none⟩ _ k (by show k ≠ w.heap.size + 1 + 1; omega))).trans (B3.out.block k h4)
      have oc : ev.oneCell' = true := by rcases HEV.out with ⟨-, h⟩ | ⟨-, t, u, h⟩ <;> rw [h] <;> rfl
      clear hb3 AS hev
      rcases HEV.out with ⟨k1, rfl⟩ | ⟨k1, t, u, rfl⟩
      · have HE1 := Lib.hid k1
        clear k1 HEV
        gi_wp2
        refine ⟨_, K4.out, pre, x, rfl, HBD.out, .inr ⟨rfl, by rw [DD.out]; omega, by rw [DD.out]; omega, by rw [DD.out]; exact ND.out, ?_⟩⟩
        rw [DD.out]
        exact ⟨qa, qc, _, R4.out, E4.out, O4.out.le (by omega), fun k hk => hk, .inl ⟨HE1.out, rfl⟩, B4.out⟩
      · have HE2 := Lib.hid k1
        clear k1 HEV
        gi_wp2
        refine ⟨_, K4.out, pre, x, rfl, HBD.out, .inr ⟨rfl, by rw [DD.out]; omega, by rw [DD.out]; omega, by rw [DD.out]; exact ND.out, ?_⟩⟩
        rw [DD.out]
        exact ⟨qa, qc, _, R4.out, E4.out, O4.out.le (by omega), fun k hk => hk, .inr ⟨HE2.out, _, _, rfl⟩, B4.out⟩
  case done =>
    rintro ys M W hS ⟨hbad, hW⟩ hM hK
    rw [SZ] at hK ⊢
    have V : Hid (RES = ([], false)) := HN.out fun q h1 h2 hp => by
      obtain ⟨y, hy, e⟩ := mem_prm hS (show q < 10001 by omega) hp
      have := hbad y hy (by omega) (by omega)
      rw [HB.out, e] at this
      exact this
    have J := Lib.hid hW
    have HK := Lib.hid hK
    have r0 := hW.res.cell0
    have r1 := hW.res.free 0
    have e0 := hW.err.cell0
    have e1 := hW.err.free 0
    clear hbad hW hM hK hS J0
    obtain ⟨sv, hsv⟩ : ∃ sv : Value, sv = .iface 95 (.string ⟨#[110, 111, 32, 105, 110, 118, 101, 114, 115, 101, 32, 109, 111, 100, 117, 108, 111, 32, 97, 110, 121, 32, 111, 102, 32, 116, 104, 101, 32, 112, 114, 105, 109, 101, 115]⟩) := ⟨_, rfl⟩
    have R4 := Lib.hid ((J.out.res.set0 (.slice none 0 0)).far (a := ⟨w.heap.size + 1 + 1 + 1, 0, none⟩) (by show w.heap.size + 1 + 1 ≠ w.heap.size + 1 + 1 + 1; omega) sv)
    have E4 := Lib.hid ((J.out.err.far (a := ⟨w.heap.size + 1 + 1, 0, none⟩) (by show w.heap.size + 1 + 1 + 1 ≠ w.heap.size + 1 + 1; omega) (.slice none 0 0)).set0 sv)
    have B4 := Lib.hid ((J.out.bel.setCell (p := ⟨w.heap.size + 1 + 1, 0, none⟩) (by show w.heap.size ≤ w.heap.size + 1 + 1; omega) (.slice none 0 0)).setCell (p := ⟨w.heap.size + 1 + 1 + 1, 0, none⟩) (by show w.heap.size ≤ w.heap.size + 1 + 1 + 1; omega) sv)
    have D4 : Hid (((W.setCell ⟨w.heap.size + 1 + 1, 0, none⟩ (.slice none 0 0)).setCell ⟨w.heap.size + 1 + 1 + 1, 0, none⟩ sv).heap[w.heap.size + 4]? = some (.deferred (some []))) := (Below.heap_setCell _ ⟨w.heap.size + 1 + 1 + 1, 0, none⟩ sv _ (by show w.heap.size + 4 ≠ w.heap.size + 1 + 1 + 1; omega)).trans ((Below.heap_setCell _ ⟨w.heap.size + 1 + 1, 0, none⟩ _ _ (by show w.heap.size + 4 ≠ w.heap.size + 1 + 1; omega)).trans HK.out)
    gi_wp2
    rw [← hsv]
    generalize (W.setCell ⟨w.heap.size + 1 + 1, 0, none⟩ (.slice none 0 0)).setCell ⟨w.heap.size + 1 + 1 + 1, 0, none⟩ sv = W5 at R4 E4 B4 D4 ⊢
    refine ⟨by simp, .inl ⟨_, _, rfl, run_takeDeferred D4.out, ?_⟩⟩
    have hc5 := (put_blk R4.out (D := w.heap.size + 4) (by omega) (.deferred none)).cell0
    have hc6 := (put_blk E4.out (D := w.heap.size + 4) (by omega) (.deferred none)).cell0
    refine ⟨.tuple #[.slice none 0 0, sv], by simp [results, Tryz.f42, go_sem, hc5, hc6], ?_⟩
    rw [V.out]
    exact ⟨_, _, rfl, OwnR.nil _ _, B4.out.grown (grownBy_putObj' _ _ _) B4.out.size (fun k e => by cases e; omega), .inr ⟨rfl, _, _, hsv⟩⟩
  case stop =>
    rintro c pre M W ⟨ini', x', e', hS⟩ ⟨ini, x, e0, hbad, ⟨rfl, hx, hW⟩ | ⟨rfl, h1, h2, h3, qa, qc, ev, c2, c3, ho, hm, hev, hB⟩⟩ hM hK
    · rw [SZ] at hK ⊢
      rw [e'] at e0
      obtain ⟨rfl, e5⟩ := List.append_inj' e0 rfl
      obtain rfl : x' = x := by simpa using e5
      have V : Hid (RES = ([], false)) := HN.out fun q h1 h2 hp => by
        obtain ⟨y, hy, e⟩ := mem_prm hS (show q < x'.1 by omega) hp
        have := hbad y hy (by omega) (by omega)
        rw [HB.out, e] at this
        exact this
      clear e0 e5 e' hx
      have J := Lib.hid hW
      have HK := Lib.hid hK
      have r0 := hW.res.cell0
      have r1 := hW.res.free 0
      have e0 := hW.err.cell0
      have e1 := hW.err.free 0
      clear hbad hW hM hK hS J0
      obtain ⟨sv, hsv⟩ : ∃ sv : Value, sv = .iface 95 (.string ⟨#[110, 111, 32, 105, 110, 118, 101, 114, 115, 101, 32, 109, 111, 100, 117, 108, 111, 32, 97, 110, 121, 32, 111, 102, 32, 116, 104, 101, 32, 112, 114, 105, 109, 101, 115]⟩) := ⟨_, rfl⟩
      have R4 := Lib.hid ((J.out.res.set0 (.slice none 0 0)).far (a := ⟨w.heap.size + 1 + 1 + 1, 0, none⟩) (by show w.heap.size + 1 + 1 ≠ w.heap.size + 1 + 1 + 1; omega) sv)
      have E4 := Lib.hid ((J.out.err.far (a := ⟨w.heap.size + 1 + 1, 0, none⟩) (by show w.heap.size + 1 + 1 + 1 ≠ w.heap.size + 1 + 1; omega) (.slice none 0 0)).set0 sv)
      have B4 := Lib.hid ((J.out.bel.setCell (p := ⟨w.heap.size + 1 + 1, 0, none⟩) (by show w.heap.size ≤ w.heap.size + 1 + 1; omega) (.slice none 0 0)).setCell (p := ⟨w.heap.size + 1 + 1 + 1, 0, none⟩) (by show w.heap.size ≤ w.heap.size + 1 + 1 + 1; omega) sv)
      have D4 : Hid (((W.setCell ⟨w.heap.size + 1 + 1, 0, none⟩ (.slice none 0 0)).setCell ⟨w.heap.size + 1 + 1 + 1, 0, none⟩ sv).heap[w.heap.size + 4]? = some (.deferred (some []))) := (Below.heap_setCell _ ⟨w.heap.size + 1 + 1 + 1, 0, none⟩ sv _ (by show w.heap.size + 4 ≠ w.heap.size + 1 + 1 + 1; omega)).trans ((Below.heap_setCell _ ⟨w.heap.size + 1 + 1, 0, none⟩ _ _ (by show w.heap.size + 4 ≠ w.heap.size + 1 + 1; omega)).trans HK.out)
      gi_wp2
      rw [← hsv]
      generalize (W.setCell ⟨w.heap.size + 1 + 1, 0, none⟩ (.slice none 0 0)).setCell ⟨w.heap.size + 1 + 1 + 1, 0, none⟩ sv = W5 at R4 E4 B4 D4 ⊢
      refine ⟨by simp, .inl ⟨_, _, rfl, run_takeDeferred D4.out, ?_⟩⟩
      have hc5 := (put_blk R4.out (D := w.heap.size + 4) (by omega) (.deferred none)).cell0
      have hc6 := (put_blk E4.out (D := w.heap.size + 4) (by omega) (.deferred none)).cell0
      refine ⟨.tuple #[.slice none 0 0, sv], by simp [results, Tryz.f42, go_sem, hc5, hc6], ?_⟩
      rw [V.out]
      exact ⟨_, _, rfl, OwnR.nil _ _, B4.out.grown (grownBy_putObj' _ _ _) B4.out.size (fun k e => by cases e; omega), .inr ⟨rfl, _, _, hsv⟩⟩
    · rw [SZ] at hK ⊢
      rw [e'] at e0
      obtain ⟨rfl, e5⟩ := List.append_inj' e0 rfl
      obtain rfl : x' = x := by simpa using e5
      have V : Hid (RES = RS x'.1) := by
        show _ = _
        rw [HR.out]
        refine HY.out x'.1 h1 h2 (by rw [HB.out] at h3; exact h3) fun q h4 h5 hp => ?_
        obtain ⟨y, hy, e⟩ := mem_prm hS h5 hp
        have := hbad y hy (by omega) (by omega)
        rw [HB.out, e] at this
        exact this
      have C2 := Lib.hid c2
      have C3 := Lib.hid c3
      have O2 := Lib.hid ho
      have B2 := Lib.hid hB
      have HEV := Lib.hid hev
      have HMM := Lib.hid hm
      have HM := Lib.hid hM
      have D2 := Lib.hid hK
      clear e0 e5 e' h1 h2 h3 hbad hS c2 c3 ho hm hev hB hM hK HN HY LT J0
      gi_wp2
      refine ⟨by simp, .inl ⟨_, _, rfl, run_takeDeferred D2.out, ?_⟩⟩
      have hc5 := (put_blk C2.out (D := w.heap.size + 4) (by omega) (.deferred none)).cell0
      have hc6 := (put_blk C3.out (D := w.heap.size + 4) (by omega) (.deferred none)).cell0
      refine ⟨.tuple #[.slice qa (RS x'.1).1.length qc, ev], by simp [results, Tryz.f42, go_sem, hc5, hc6], ?_⟩
      rw [V.out]
      refine ⟨_, _, rfl, O2.out.move fun k hk => (World.putObj_heap_other ?_), B2.out.grown (grownBy_putObj' _ _ _) B2.out.size (fun k e => by cases e; omega), HEV.out⟩
      have h7 := HM.out k (HMM.out k hk)
      rw [SZ] at h7
      omega
end Go.Proofs.YtcapddcmnjeloaaGreatDoor
end

section
/-
  Chapter 11, in the program: SolveByLifting.
-/
namespace Go.Proofs.YtcapddcmnjeloaaGreatDoor
set_option maxRecDepth 100000
open Go.RowKit
theorem sysRLif {r c : Int} {xs bs : List Int} (h : isSq r c xs = true) : fitR r bs = sysB r c xs bs := by
  obtain ⟨n, rfl, -, h6, -, -⟩ := isSq_says h
  rw [fitR_eq (by omega)]
  unfold sysB
  rw [h, Bool.true_and]
set_option maxHeartbeats 2000000 in
theorem iSolveLif (r c : Int) (a : Option Addr) (m : Nat) (xs : List Int) (ab : Option Addr) (mb : Nat) (bs : List Int) (w : World) (h : Rd w a xs) (hn : xs.length ≤ 16777216) (hb : Rd w ab bs) (hbn : bs.length ≤ 16777216) (zs : List (Int × Int)) (ok : Bool)
    (HN : sysB r c xs bs = false → zs = [] ∧ ok = false) (HY : sysB r c xs bs = true → ∀ w', Below w.heap.size w w' → Calls Tryz.prog 42 #[.agg #[.int .i64 r, .int .i64 c, .slice a xs.length m], .slice ab bs.length mb] w' (RoadRes zs ok w')) :
    Calls Tryz.prog 35 #[.agg #[.int .i64 r, .int .i64 c, .slice a xs.length m], .slice ab bs.length mb, .func (.func 42) #[] #[]] w (QRes zs ok w) := by
  have SQ : Hid (∀ w', Below w.heap.size w w' → Calls Tryz.prog 73 #[.agg #[.int .i64 r, .int .i64 c, .slice a xs.length m]] w' (Gives (.bool (isSq r c xs)) w')) := fun w' hb' => iIsSq r c a m xs w' (h.below hb') hn
  have FT : Hid (∀ w', Below w.heap.size w w' → Calls Tryz.prog 74 #[.agg #[.int .i64 r, .int .i64 c, .slice a xs.length m], .slice ab bs.length mb] w' (Gives (.bool (fitR r bs)) w')) := fun w' hb' => iFits r c a xs.length m ab mb bs w' (hb.below hb') hbn
  have HN := Lib.hid HN
  have HY := Lib.hid HY
  have K0 : Hid (Blk3 (w.alloc (.cells #[.int .i64 r, .int .i64 c, .slice a xs.length m] 26)) w.heap.size 26 (.int .i64 r) (.int .i64 c) (.slice a xs.length m)) := Blk3.at_ _ _ _ _ rfl
  have B0 : Hid (Below w.heap.size w (w.alloc (.cells #[.int .i64 r, .int .i64 c, .slice a xs.length m] 26))) := (Below.refl _ _).alloc (Nat.le_refl _) _
  have NS : Hid (isSq r c xs = false → sysB r c xs bs = false) := fun h => sysB_false (.inl h)
  have YS : Hid (isSq r c xs = true → fitR r bs = sysB r c xs bs) := fun h => sysRLif h
  generalize sysB r c xs bs = sb at HN HY NS YS
  generalize isSq r c xs = sq at SQ NS YS
  generalize fitR r bs = ft at FT YS
  generalize xs.length = L at SQ FT HY K0 B0 hn ⊢
  generalize bs.length = Lb at FT HY hbn ⊢
  clear h hb
  obtain ⟨z0, z1, z2, -, -, -⟩ := K0.out.all
  go_enter Tryz.func35, Tryz.ntmps35
  go_wp2_with fail
  refine (SQ.out _ B0.out).mono ?_
  rintro e w1 ⟨rfl, hb1⟩
  have K1 := Lib.hid (K0.out.step hb1)
  have B1 := Lib.hid (B0.out.trans (hb1.mono B0.out.size))
  clear hb1 z0 z1 z2 K0 B0 SQ
  obtain ⟨z0, z1, z2, -, -, -⟩ := K1.out.all
  cases sq with
  | false =>
    obtain ⟨e1, e2⟩ := HN.out (NS.out rfl)
    subst e1 e2
    go_wp2_with fail
    go_ret2
    exact ⟨_, rfl, OwnR.nil _ _, B1.out⟩
  | true =>
    have e3 : ft = sb := YS.out rfl
    subst e3
    go_wp2_with fail
    refine (FT.out _ B1.out).mono ?_
    rintro e w2 ⟨rfl, hb2⟩
    have K2 := Lib.hid (K1.out.step hb2)
    have B2 := Lib.hid (B1.out.trans (hb2.mono B1.out.size))
    clear hb2 z0 z1 z2 K1 B1 FT
    obtain ⟨z0, z1, z2, -, -, -⟩ := K2.out.all
    cases ft with
    | false =>
      obtain ⟨e1, e2⟩ := HN.out rfl
      subst e1 e2
      go_wp2_with fail
      go_ret2
      exact ⟨_, rfl, OwnR.nil _ _, B2.out⟩
    | true =>
      have HR : Hid (∀ w', Below w.heap.size w w' → Calls Tryz.prog 42 #[.agg #[.int .i64 r, .int .i64 c, .slice a L m], .slice ab Lb mb] w' (RoadRes zs ok w')) := HY.out rfl
      go_wp2_with fail
      refine (HR.out _ B2.out).mono ?_
      rintro e w3 ⟨v, ev, rfl, own, hb3, hev⟩
      obtain ⟨qa, qc, rfl⟩ := own.form
      have B3 := Lib.hid (B2.out.trans (hb3.mono B2.out.size))
      have OW := Lib.hid (own.le B2.out.size)
      clear hb3 own z0 z1 z2 K2
      rcases hev with ⟨rfl, rfl⟩ | ⟨rfl, ty, u, rfl⟩
      · go_wp2_with fail
        go_quiet (fail)
        go_wp2_with fail
        go_ret2
        exact ⟨_, rfl, OW.out, below_drewN B3.out _⟩
      · go_wp2_with fail
        go_quiet (fail)
        go_wp2_with fail
        go_ret2
        exact ⟨_, rfl, OW.out, below_drewN B3.out _⟩
theorem iSl (r c : Int) (a : Option Addr) (m : Nat) (xs : List Int) (ab : Option Addr) (mb : Nat) (bs : List Int) (w : World) (h : Rd w a xs) (hc : CelA a xs.length m) (hn : xs.length ≤ 16777216) (hb : Rd w ab bs) (hbn : bs.length ≤ 16777216) (tb : TabE w) :
    Calls Tryz.prog 11 #[.agg #[.int .i64 r, .int .i64 c, .slice a xs.length m], .slice ab bs.length mb] w (QRes (slX r c xs bs).1 (slX r c xs bs).2 w) := by
  have SV : Hid (∀ w', Below w.heap.size w w' → Calls Tryz.prog 35 #[.agg #[.int .i64 r, .int .i64 c, .slice a xs.length m], .slice ab bs.length mb, .func (.func 42) #[] #[]] w' (QRes (slX r c xs bs).1 (slX r c xs bs).2 w')) := fun w' hb' => iSolveLif r c a m xs ab mb bs w' (h.below hb') hn (hb.below hb') hbn _ _ (fun h => by rw [slX_sys h]; exact ⟨rfl, rfl⟩) (fun hs w2 hb2 => by
    obtain ⟨n, rfl, rfl, -⟩ := sysB_says hs
    exact iByLif n a m xs ab mb bs w2 ((h.below hb').below hb2) hc hs ((hb.below hb').below hb2) ((tb.below hb').below hb2))
  have B0 : Hid (Below w.heap.size w (w.alloc (.cells #[.int .i64 r, .int .i64 c, .slice a xs.length m] 26))) := (Below.refl _ _).alloc (Nat.le_refl _) _
  have K0 : Hid (Blk3 (w.alloc (.cells #[.int .i64 r, .int .i64 c, .slice a xs.length m] 26)) w.heap.size 26 (.int .i64 r) (.int .i64 c) (.slice a xs.length m)) := Blk3.at_ _ _ _ _ rfl
  generalize slX r c xs bs = RES at SV ⊢
  generalize xs.length = L at SV K0 B0 ⊢
  generalize bs.length = Lb at SV ⊢
  clear h hn hb hbn hc tb
  obtain ⟨z0, z1, z2, -, -, -⟩ := K0.out.all
  go_enter Tryz.func11, Tryz.ntmps11
  go_wp2_with fail
  refine (SV.out _ B0.out).mono ?_
  rintro e w1 ⟨v, rfl, own, hb1⟩
  obtain ⟨qa, qc, rfl⟩ := own.form
  have B1 := Lib.hid (B0.out.trans (hb1.mono B0.out.size))
  have OW := Lib.hid (own.le B0.out.size)
  clear hb1 own z0 z1 z2 K0
  go_wp2_with fail
  go_ret2
  exact ⟨_, rfl, OW.out, B1.out⟩
end Go.Proofs.YtcapddcmnjeloaaGreatDoor
end

section
/-
  The laws' sameRatios over equal lists, and big lists held as the contracts give them.
-/
namespace Go.Proofs.YtcapddcmnjeloaaGreatDoor
set_option maxRecDepth 100000
open Go.RowKit
set_option maxHeartbeats 2000000 in
theorem sameQ (a b : Option Addr) (c d : Nat) (l : List (Int × Int)) (w : World) (h : RdQ w a l) (h' : RdQ w b l) (hn : l.length ≤ 16777216) :
    Calls Tryz.prog 12 #[.slice a l.length c, .slice b l.length d] w fun e w' => e = .returned (.bool true) ∧ ∃ n, w' = w.drewN n := by
  have H := Lib.hid h
  have H' := Lib.hid h'
  obtain ⟨n, hnn⟩ : ∃ n, l.length = n := ⟨_, rfl⟩
  rw [hnn] at hn ⊢
  have HN := Lib.hid hnn
  clear h h' hnn
  go_enter Tryz.func12, Tryz.ntmps12
  go_wp2_with fail
  go_loopw [5] (fun v5 wr => ∃ k : Nat, v5 = .int .i64 k ∧ k ≤ n ∧ ∃ q, wr = w.drewN q) (fun v5 _ => n - (intOf v5).toNat)
  case atStart => exact ⟨0, rfl, by omega, 0, rfl⟩
  case round =>
    obtain ⟨k, rfl, hk, q, rfl⟩ := hrel
    by_cases hlt : k < n
    · obtain ⟨b2, o2, rfl, -, c0, c1⟩ := H.out k (by rw [HN.out]; exact hlt)
      obtain ⟨b3, o3, rfl, -, d0, d1⟩ := H'.out k (by rw [HN.out]; exact hlt)
      obtain ⟨u, hu⟩ : ∃ u, (l.getD k (0, 0)).1 = u := ⟨_, rfl⟩
      obtain ⟨v, hv⟩ : ∃ v, (l.getD k (0, 0)).2 = v := ⟨_, rfl⟩
      rw [hu] at c0 d0
      rw [hv] at c1 d1
      have c0 : (w.drewN q).cell? ⟨b2, o2 + k * 2, none⟩ = some (.int .i64 u) := c0
      have c1 : (w.drewN q).cell? ⟨b2, o2 + k * 2 + 1, none⟩ = some (.int .i64 v) := c1
      have d0 : (w.drewN q).cell? ⟨b3, o3 + k * 2, none⟩ = some (.int .i64 u) := d0
      have d1 : (w.drewN q).cell? ⟨b3, o3 + k * 2 + 1, none⟩ = some (.int .i64 v) := d1
      clear hu hv
      go_wp2_with fail
      go_quiet (fail)
      go_wp2_with fail
      go_roundw
      case rel => exact ⟨k + 1, by go_num, by omega, _, rfl⟩
      case measure => simp [intOf]; omega
    · obtain rfl : k = n := by omega
      go_wp2_with fail
      go_ret
      exact ⟨rfl, q, rfl⟩
end Go.Proofs.YtcapddcmnjeloaaGreatDoor
end

section
/-
  The drawing of inputs (chapter 1 of the model): the cursor over a code's bytes, and what each drawing function returns: a number in its range, with nothing written but the cursor.
-/
namespace Go.Proofs.YtcapddcmnjeloaaGreatDoor
open Go.RowKit
def Bytes (w : World) (cb : Nat) (a : Option Addr) (len : Nat) : Prop :=
  ∀ k : Nat, k < len → ∃ (b o : Nat) (z : Int), a = some ⟨b, o, none⟩ ∧ w.cell? ⟨b, o + k, none⟩ = some (.int .u8 z) ∧ 0 ≤ z ∧ z ≤ 255 ∧ b < cb
def Cur (w : World) (cb : Nat) : Prop :=
  ∃ (a : Option Addr) (len cap i : Nat) (h : Int), Blk3 w cb 131 (.slice a len cap) (.int .i64 i) (.int .i64 h) ∧ i ≤ len ∧ len ≤ maxLen ∧ Bytes w cb a len
def CurInt (P : Int → Prop) (cb : Nat) (w : World) (e : Ending) (w' : World) : Prop := ∃ r : Int, P r ∧ e = .returned (.int .i64 r) ∧ Cur w' cb ∧ w.grownBy w' (some cb)
theorem Bytes.one {w w' : World} {cb : Nat} {a : Option Addr} {len : Nat} (h : Bytes w cb a len) (hg : w.grownBy w' (some cb)) : Bytes w' cb a len := fun k hk => by
  obtain ⟨b, o, z, ha, hx, h0, h1, hne⟩ := h k hk
  exact ⟨b, o, z, ha, hg.cell hx (by simp; omega), h0, h1, hne⟩
theorem and255 (x : Int) : 0 ≤ bits .and .i64 x 255 ∧ bits .and .i64 x 255 ≤ 255 := by
  have h : (BitVec.ofInt 64 x &&& BitVec.ofInt 64 255).toNat ≤ 255 := by rw [BitVec.toNat_and]; exact Nat.le_trans Nat.and_le_right (by decide)
  show 0 ≤ IntKind.i64.wrap ((BitVec.ofInt 64 x &&& BitVec.ofInt 64 255).toNat : Int) ∧ IntKind.i64.wrap ((BitVec.ofInt 64 x &&& BitVec.ofInt 64 255).toNat : Int) ≤ 255
  rw [IntKind.wrap_i64]
  omega
theorem curInt_end {P : Int → Prop} {w W : World} {cb len cap i : Nat} {a : Option Addr} {h r : Int} (hr : P r) (hb : Blk3 W cb 131 (.slice a len cap) (.int .i64 i) (.int .i64 h))
    (hi : i ≤ len) (hl : len ≤ maxLen) (hby : Bytes w cb a len) (hg : w.grownBy W (some cb)) : CurInt P cb w (.returned (.int .i64 r)) W :=
  ⟨r, hr, rfl, ⟨a, len, cap, i, h, hb, hi, hl, hby.one hg⟩, hg⟩
set_option maxHeartbeats 400000 in
theorem l1Byte (w : World) (cb : Nat) (hc : Cur w cb) :
    Calls Tryz.prog 158 #[.pointer (some ⟨cb, 0, none⟩)] w (CurInt (fun r => 0 ≤ r ∧ r ≤ 255) cb w) := by
  obtain ⟨a, len, cap, i, h, hb, hi, hl, hby⟩ := hc
  obtain ⟨c0, c1, c2, f0, f1, f2⟩ := hb.all
  have HB := Lib.hid hb
  have HL := Lib.hid hl
  have HY := Lib.hid hby
  unfold maxLen at hl
  by_cases hlt : i < len
  · obtain ⟨xb, xo, z, rfl, hx, hz0, hz1, hne⟩ := hby i hlt
    have hne' : cb ≠ xb := by omega
    clear hb hby
    go_enter Tryz.func158, Tryz.ntmps158
    go_wp2_with (fail)
    generalize wrap64 (wrap64 (h * 6364136223846793005) + 1442695040888963407) = h'
    go_quiet (fail)
    go_wp2_with (fail)
    go_quiet (fail)
    go_wp2_with (fail)
    go_quiet (fail)
    go_wp2_with (fail)
    go_ret
    refine curInt_end (cap := cap) (i := i + 1) (h := h') (and255 _) ?_ (by omega) HL.out HY.out ?_
    · exact (((HB.out.set2 _).drewN _).set1 _)
    · repeat (first | exact World.grownBy.refl _ _ | refine grown_set_one ?_ (by exact rfl) _ | refine grown_drewN_one ?_ _)
  · clear hb hby
    have hlt' : decide (i < len) = false := by simpa using hlt
    go_enter Tryz.func158, Tryz.ntmps158
    go_wp2_with (fail)
    generalize wrap64 (wrap64 (h * 6364136223846793005) + 1442695040888963407) = h'
    go_quiet (fail)
    go_wp2_with (fail)
    go_quiet (fail)
    go_wp2_with (fail)
    go_ret
    refine curInt_end (cap := cap) (i := i) (h := h') (and255 _) ?_ (by omega) HL.out HY.out ?_
    · first | exact HB.out.set2 _ | exact (HB.out.set2 _).drewN _
    · repeat (first | exact World.grownBy.refl _ _ | refine grown_set_one ?_ (by exact rfl) _ | refine grown_drewN_one ?_ _)
def CurBool (cb : Nat) (w : World) (e : Ending) (w' : World) : Prop := ∃ r : Bool, e = .returned (.bool r) ∧ Cur w' cb ∧ w.grownBy w' (some cb)
theorem mod_range (x n : Int) (hn : 0 < n) : 0 ≤ x % n ∧ x % n < n := ⟨Int.emod_nonneg x (by omega), Int.emod_lt_of_pos x hn⟩
set_option maxHeartbeats 400000 in
theorem l1Below_small (w : World) (cb : Nat) (n : Int) (hc : Cur w cb) (h1 : 0 < n) (h2 : n ≤ 256) :
    Calls Tryz.prog 115 #[.pointer (some ⟨cb, 0, none⟩), .int .i64 n] w (CurInt (fun r => 0 ≤ r ∧ r < n) cb w) := by
  have HC := Lib.hid hc
  clear hc
  have hn : (n == 0) = false := by simp; omega
  go_enter Tryz.func115, Tryz.ntmps115
  go_wp2_with (fail)
  refine (l1Byte w cb HC.out).mono ?_
  rintro e w1 ⟨r, ⟨r0, r1⟩, rfl, hc1, hg1⟩
  have C1 := Lib.hid hc1
  have G1 := Lib.hid hg1
  clear hc1 hg1
  go_wp2_with (fail)
  go_ret
  exact ⟨r % n, mod_range r n h1, rfl, C1.out, G1.out⟩
set_option maxHeartbeats 400000 in
theorem l1Below_large (w : World) (cb : Nat) (n : Int) (hc : Cur w cb) (h2 : 256 < n) :
    Calls Tryz.prog 115 #[.pointer (some ⟨cb, 0, none⟩), .int .i64 n] w (CurInt (fun r => 0 ≤ r ∧ r < n) cb w) := by
  have HC := Lib.hid hc
  clear hc
  have hn : (n == 0) = false := by simp; omega
  go_enter Tryz.func115, Tryz.ntmps115
  go_wp2_with (fail)
  refine (l1Byte w cb HC.out).mono ?_
  rintro e w1 ⟨r, ⟨r0, r1⟩, rfl, hc1, hg1⟩
  have C1 := Lib.hid hc1
  have G1 := Lib.hid hg1
  clear hc1 hg1
  go_wp2_with (fail)
  refine (l1Byte w1 cb C1.out).mono ?_
  rintro e w2 ⟨s, ⟨s0, s1⟩, rfl, hc2, hg2⟩
  have C2 := Lib.hid hc2
  have G2 := Lib.hid (G1.out.trans hg2)
  clear hc2 hg2
  go_wp2_with (fail)
  refine (l1Byte w2 cb C2.out).mono ?_
  rintro e w3 ⟨t, ⟨t0, t1⟩, rfl, hc3, hg3⟩
  have C3 := Lib.hid hc3
  have G3 := Lib.hid (G2.out.trans hg3)
  clear hc3 hg3
  go_wp2_with (fail)
  refine (l1Byte w3 cb C3.out).mono ?_
  rintro e w4 ⟨u, ⟨u0, u1⟩, rfl, hc4, hg4⟩
  have C4 := Lib.hid hc4
  have G4 := Lib.hid (G3.out.trans hg4)
  clear hc4 hg4
  go_wp2_with (fail)
  go_ret
  exact ⟨_, mod_range (r * 16777216 + s * 65536 + t * 256 + u) n (by omega), rfl, C4.out, G4.out⟩
theorem l1Below (w : World) (cb : Nat) (n : Int) (hc : Cur w cb) (h1 : 0 < n) :
    Calls Tryz.prog 115 #[.pointer (some ⟨cb, 0, none⟩), .int .i64 n] w (CurInt (fun r => 0 ≤ r ∧ r < n) cb w) := by
  rcases Int.lt_or_le 256 n with h | h
  · exact l1Below_large w cb n hc h
  · exact l1Below_small w cb n hc h1 h
set_option maxHeartbeats 400000 in
theorem l1Once (w : World) (cb : Nat) (n : Int) (hc : Cur w cb) (h1 : 0 < n) :
    Calls Tryz.prog 118 #[.pointer (some ⟨cb, 0, none⟩), .int .i64 n] w (CurBool cb w) := by
  have HC := Lib.hid hc
  clear hc
  go_enter Tryz.func118, Tryz.ntmps118
  go_wp2_with (fail)
  refine (l1Below w cb n HC.out h1).mono ?_
  rintro e w1 ⟨r, ⟨r0, r1⟩, rfl, hc1, hg1⟩
  have C1 := Lib.hid hc1
  have G1 := Lib.hid hg1
  clear hc1 hg1
  go_wp2_with (fail)
  go_ret
  exact ⟨r == 0, rfl, C1.out, G1.out⟩
def IntList (P : Int → Prop) (w : World) (lb n : Nat) : Prop := ∀ k : Nat, k < n → ∃ z : Int, w.cell? ⟨lb, k, none⟩ = some (.int .i64 z) ∧ P z
theorem IntList.one {P : Int → Prop} {w w' : World} {lb n cb : Nat} (h : IntList P w lb n) (hg : w.grownBy w' (some cb)) (hne : lb ≠ cb) : IntList P w' lb n := fun k hk => by
  obtain ⟨z, hz, hp⟩ := h k hk
  exact ⟨z, hg.cell hz (by simpa using hne), hp⟩
set_option maxHeartbeats 400000 in
theorem l1PickInt (P : Int → Prop) (w : World) (cb lb n : Nat) (hc : Cur w cb) (hl : IntList P w lb n) (h1 : 0 < n) (h2 : n ≤ 1000000) (hne : lb ≠ cb) :
    Calls Tryz.prog 117 #[.pointer (some ⟨cb, 0, none⟩), .slice (some ⟨lb, 0, none⟩) n n] w (CurInt P cb w) := by
  have HC := Lib.hid hc
  have HL := Lib.hid hl
  clear hc hl
  go_enter Tryz.func117, Tryz.ntmps117
  go_wp2_with (fail)
  refine (l1Below w cb n HC.out (by omega)).mono ?_
  rintro e w1 ⟨r, ⟨r0, r1⟩, rfl, hc1, hg1⟩
  obtain ⟨k, rfl⟩ := Int.eq_ofNat_of_zero_le r0
  obtain ⟨z, hz, hp⟩ := (HL.out.one hg1 hne) k (by omega)
  have C1 := Lib.hid hc1
  have G1 := Lib.hid hg1
  have HP := Lib.hid hp
  have hk : k < n := by omega
  clear hc1 hg1 hp
  go_wp2_with (fail)
  go_ret
  exact ⟨z, HP.out, rfl, C1.out, G1.out⟩
theorem IntList.new {P : Int → Prop} (zs : List Int) (hz : ∀ z, z ∈ zs → P z) (w : World) (t : TypeId) : IntList P (w.alloc (.cells (zs.map (Value.int .i64)).toArray t)) w.heap.size zs.length := fun k hk => by
  refine ⟨zs[k], ?_, hz _ (List.getElem_mem hk)⟩
  have e : (w.alloc (.cells (zs.map (Value.int .i64)).toArray t)).heap[w.heap.size]? = some (.cells (zs.map (Value.int .i64)).toArray t) := heap_alloc_new w _
  unfold World.cell?
  rw [e]
  simp [hk]
theorem Cur.lt {w : World} {cb : Nat} (h : Cur w cb) : cb < w.heap.size := by
  obtain ⟨a, len, cap, i, h, hb, _⟩ := h
  exact hb.lt
theorem Cur.grown {w w' : World} {cb : Nat} {row : Option Nat} (hc : Cur w cb) (hg : w.grownBy w' row) (hr : ∀ j, row = some j → w.heap.size ≤ j) : Cur w' cb := by
  obtain ⟨a, len, cap, i, h, hb, hi, hl, hby⟩ := hc
  refine ⟨a, len, cap, i, h, (hg.block cb hb.lt (fun e => by have := hr cb e.symm; have := hb.lt; omega)).trans hb, hi, hl, fun k hk => ?_⟩
  obtain ⟨b, o, z, ha, hx, h0, h1, hne⟩ := hby k hk
  exact ⟨b, o, z, ha, hg.cell hx (fun e => by have := hr b e.symm; have := World.block_lt_of_cell? w _ hx; simp at this; omega), h0, h1, hne⟩
theorem Cur.setFar {w : World} {cb : Nat} (hc : Cur w cb) {x : Addr} (hx : cb < x.block) (u : Value) : Cur (w.setCell x u) cb := by
  obtain ⟨a, len, cap, i, h, hb, hi, hl, hby⟩ := hc
  refine ⟨a, len, cap, i, h, hb.far (by omega) u, hi, hl, fun k hk => ?_⟩
  obtain ⟨b, o, z, ha, hcell, h0, h1, hne⟩ := hby k hk
  exact ⟨b, o, z, ha, (((Below.refl x.block w).setCell (Nat.le_refl _) u).cell (p := ⟨b, o + k, none⟩) (by show b < x.block; omega)).trans hcell, h0, h1, hne⟩
theorem Cur.alloc {w : World} {cb : Nat} (hc : Cur w cb) (o : Obj) : Cur (w.alloc o) cb := hc.grown (World.grownBy_alloc w o none) (by simp)
set_option maxHeartbeats 400000 in
theorem l1Odd (w : World) (cb : Nat) (hc : Cur w cb) :
    Calls Tryz.prog 159 #[.pointer (some ⟨cb, 0, none⟩)] w (CurInt (fun r => -9223372036854775808 ≤ r ∧ r ≤ 9223372036854775807) cb w) := by
  have HC := Lib.hid hc
  have hlt := hc.lt
  clear hc
  go_enter Tryz.func159, Tryz.ntmps159
  go_wp2_with (fail)
  refine (l1PickInt (fun r => -9223372036854775808 ≤ r ∧ r ≤ 9223372036854775807) _ cb w.heap.size 11 (HC.out.alloc _) ?_ (by omega) (by omega) (by omega)).mono ?_
  · exact IntList.new [0, 1, -1, 2, 400000000, -400000000, 400000001, -400000001, 399999999, 9223372036854775807, -9223372036854775808] (by decide) w 3
  rintro e w1 ⟨r, hr, rfl, hc1, hg1⟩
  have C1 := Lib.hid hc1
  have G1 := Lib.hid hg1
  have R := Lib.hid hr
  clear hc1 hg1 hr
  go_wp2_with (fail)
  go_ret
  exact ⟨r, R.out, rfl, C1.out, (World.grownBy_alloc w _ _).trans G1.out⟩
def CodeIn (w : World) (a : Option Addr) (len : Nat) : Prop :=
  len ≤ maxLen ∧ ∀ k : Nat, k < len → ∃ (b o : Nat) (z : Int), a = some ⟨b, o, none⟩ ∧ w.cell? ⟨b, o + k, none⟩ = some (.int .u8 z) ∧ 0 ≤ z ∧ z ≤ 255
theorem CodeIn.below {w w' : World} {a : Option Addr} {len : Nat} (h : CodeIn w a len) (hb : Below w.heap.size w w') : CodeIn w' a len :=
  ⟨h.1, fun k hk => by
    obtain ⟨b, o, z, ha, hx, h0, h1⟩ := h.2 k hk
    exact ⟨b, o, z, ha, (hb.cell (World.block_lt_of_cell? w _ hx)).trans hx, h0, h1⟩⟩
def CurNew (w : World) (e : Ending) (w' : World) : Prop := ∃ cb : Nat, e = .returned (.pointer (some ⟨cb, 0, none⟩)) ∧ w.heap.size ≤ cb ∧ Cur w' cb ∧ Below w.heap.size w w'
set_option maxHeartbeats 400000 in
theorem l1New (w : World) (a : Option Addr) (len cap : Nat) (hc : CodeIn w a len) :
    Calls Tryz.prog 70 #[.slice a len cap] w (CurNew w) := by
  have hl := hc.1
  have HC := Lib.hid hc
  clear hc
  unfold maxLen at hl
  go_enter Tryz.func70, Tryz.ntmps70
  go_wp2_with (fail)
  generalize wrap64 (10101 + (len : Int)) = q0
  go_loop [3, 4] (fun t s => ∃ (q : Int) (k : Nat), t = .int .i64 q ∧ s = .int .i64 k ∧ k ≤ len ∧ k ≤ 4000) (fun _ s => (len - intOf s).toNat)
  case atStart => exact ⟨q0, 0, rfl, rfl, by omega, by omega⟩
  case round =>
    obtain ⟨q, k, rfl, rfl, hk, hk2⟩ := hrel
    by_cases h1 : k < len
    · by_cases h2 : k < 4000
      · obtain ⟨b, o, z, ha, hx, hz0, hz1⟩ := HC.out.2 k h1
        subst ha
        have h3 : (k : Int) < 4000 := by omega
        have H2 := Lib.hid h2
        have H4 := Lib.hid hk2
        clear h2 hk2
        go_wp2_with (fail)
        go_round
        case rel => exact ⟨_, k + 1, rfl, by go_num, by omega, by have := H2.out; omega⟩
        case measure => simp [intOf]; omega
      · have h3 : decide ((k : Int) < 4000) = false := by simp; omega
        clear h2 hk2
        go_wp2_with (fail)
        go_ret
        refine ⟨w.heap.size, rfl, Nat.le_refl _, ⟨a, len, cap, 0, q, Blk3.new _ _ _ _ _, by omega, HC.out.1, fun j hj => ?_⟩, (Below.refl _ _).alloc (Nat.le_refl _) _⟩
        obtain ⟨b, o, z, ha, hx, hz0, hz1⟩ := HC.out.2 j hj
        have hlt := World.block_lt_of_cell? w _ hx
        exact ⟨b, o, z, ha, (World.grownBy_alloc w _ none).cell hx (by simp), hz0, hz1, by simp at hlt; omega⟩
    · have h1' : decide (k < len) = false := by simpa using h1
      go_wp2_with (fail)
      go_ret
      refine ⟨w.heap.size, rfl, Nat.le_refl _, ⟨a, len, cap, 0, q, Blk3.new _ _ _ _ _, by omega, HC.out.1, fun j hj => ?_⟩, (Below.refl _ _).alloc (Nat.le_refl _) _⟩
      obtain ⟨b, o, z, ha, hx, hz0, hz1⟩ := HC.out.2 j hj
      have hlt := World.block_lt_of_cell? w _ hx
      exact ⟨b, o, z, ha, (World.grownBy_alloc w _ none).cell hx (by simp), hz0, hz1, by simp at hlt; omega⟩
end Go.Proofs.YtcapddcmnjeloaaGreatDoor
end

section
/-
  Frames: what they keep of a cursor.
-/
namespace Go.Proofs.YtcapddcmnjeloaaGreatDoor
open Go.RowKit
theorem sNewC (R C : Nat) (w : World) (hR : R ≤ 4096) (hC : C ≤ 4096) :
    Calls Tryz.prog 112 #[.int .i64 R, .int .i64 C] w (fun e w' => ∃ g, e = .returned (.agg #[.int .i64 R, .int .i64 C, .slice (some ⟨g, 0, none⟩) (R * C) (R * C)]) ∧ w.heap.size ≤ g ∧ IntsC w' g (R * C) (List.replicate (R * C) 0) ∧ Below w.heap.size w w') := by
  have hm : R * C ≤ 4096 * 4096 := Nat.mul_le_mul hR hC
  have hmk := makeProd R C (by omega)
  have hp1 : (0 : Int) ≤ (R : Int) * (C : Int) := by rw [← Int.natCast_mul]; omega
  have hp2 : (R : Int) * (C : Int) ≤ 16777216 := by rw [← Int.natCast_mul]; omega
  go_enter Tryz.func112, Tryz.ntmps112
  go_wp2_with fail
  refine bodyPost_ret (v := .agg #[.int .i64 R, .int .i64 C, .slice (some ⟨w.heap.size + 1, 0, none⟩) (R * C) (R * C)]) (by simp [results, Tryz.results112, go_sem]) rfl ⟨w.heap.size + 1, rfl, by omega, ?_, ?_⟩
  · exact IntsC.made _ (by omega) (by simp)
  · exact ((Below.refl _ _).alloc (Nat.le_refl _) _).alloc (by simp) _
theorem Cur.frs {w w' : World} {cb : Nat} {p : Nat → Prop} (h : Cur w cb) (hf : FrS p w w') (hb : ∀ k, k ≤ cb → ¬ p k) : Cur w' cb := by
  obtain ⟨a, len, cap, i, x, hk, hi, hl, hby⟩ := h
  refine ⟨a, len, cap, i, x, hk.frs hf (hb _ (Nat.le_refl _)), hi, hl, fun k hkl => ?_⟩
  obtain ⟨b, o, z, ha, hx, h0, h1, hne⟩ := hby k hkl
  have hlt := World.block_lt_of_cell? w _ hx
  exact ⟨b, o, z, ha, (World.cell?_of_block (w := w) (hf.block b (by simpa using hlt) (hb b (by omega)))).trans hx, h0, h1, hne⟩
end Go.Proofs.YtcapddcmnjeloaaGreatDoor
end

section
/-
  The drawing of matrices: of what was there only the cursor has changed.
-/
namespace Go.Proofs.YtcapddcmnjeloaaGreatDoor
set_option maxRecDepth 100000
open Go.RowKit
set_option maxHeartbeats 1000000 in
theorem l3Draw (w : World) (cb R C most : Nat) (hc : Cur w cb) (hR : R ≤ 24) (hC : C ≤ 24) (hm : most ≤ 100) :
    Calls Tryz.prog 116 #[.pointer (some ⟨cb, 0, none⟩), .int .i64 R, .int .i64 C, .int .i64 most] w (fun e w' => ∃ (g : Nat) (zs : List Int), e = .returned (.agg #[.int .i64 R, .int .i64 C, .slice (some ⟨g, 0, none⟩) (R * C) (R * C)]) ∧ w.heap.size ≤ g ∧ zs.length = R * C ∧ IntsC w' g (R * C) zs ∧ Cur w' cb ∧ w.grownBy w' (some cb)) := by
  have hlt := hc.lt
  have hle : R * C ≤ 24 * 24 := Nat.mul_le_mul hR hC
  have B0 : ∀ o, Below w.heap.size w (w.alloc o) := fun o => (Below.refl _ _).alloc (Nat.le_refl _) o
  have BH := Lib.hid B0
  have C0 := Lib.hid hc
  clear B0 hc
  go_enter Tryz.func116, Tryz.ntmps116
  go_wp2_with fail
  refine (sNewC R C _ (by omega) (by omega)).mono ?_
  rintro e w1 ⟨g, rfl, hg, hi, hb⟩
  have hg : w.heap.size < g := by simp at hg; exact hg
  have K2 : Hid (Blk3 w1 w.heap.size 26 (.int .i64 0) (.int .i64 0) (.slice none 0 0)) := (Blk3.at_ _ _ _ _ rfl).keep hb (by simp)
  have F : Hid (FrS (fun k => k = cb ∨ w.heap.size ≤ k) w w1) := (FrS.of_below (BH.out (.cells #[.int .i64 0, .int .i64 0, .slice none 0 0] 26))).trans (FrS.of_below hb)
  have C1 := Lib.hid ((C0.out.alloc (.cells #[.int .i64 0, .int .i64 0, .slice none 0 0] 26)).grown (row := none) (grown_of_below hb _) (by simp))
  obtain ⟨N, hN⟩ : ∃ N, R * C = N := ⟨_, rfl⟩
  have HN := Lib.hid hN
  rw [hN] at hi hle ⊢
  have I1 := Lib.hid hi
  have gl := hi.lt
  have kl := K2.out.lt
  clear hN hi hb C0
  have K2 := Lib.hid (K2.out.old (.cells #[.int .i64 R, .int .i64 C, .slice (some ⟨g, 0, none⟩) N N] 26))
  have K6 : Hid (Blk3 (w1.alloc (.cells #[.int .i64 R, .int .i64 C, .slice (some ⟨g, 0, none⟩) N N] 26)) w1.heap.size 26 (.int .i64 R) (.int .i64 C) (.slice (some ⟨g, 0, none⟩) N N)) := Blk3.at_ _ _ _ _ rfl
  have I1 := Lib.hid (I1.out.old (.cells #[.int .i64 R, .int .i64 C, .slice (some ⟨g, 0, none⟩) N N] 26))
  have C1 := Lib.hid (C1.out.alloc (.cells #[.int .i64 R, .int .i64 C, .slice (some ⟨g, 0, none⟩) N N] 26))
  have F := Lib.hid (F.out.alloc (.cells #[.int .i64 R, .int .i64 C, .slice (some ⟨g, 0, none⟩) N N] 26))
  go_wp2_with fail
  go_loopw [10] (fun i wr => ∃ (k : Nat) (zs : List Int), i = .int .i64 k ∧ k ≤ N ∧ zs.length = N ∧ IntsC wr g N zs ∧ Cur wr cb ∧ FrS (fun k => k = cb ∨ k = g) (w1.alloc (.cells #[.int .i64 R, .int .i64 C, .slice (some ⟨g, 0, none⟩) N N] 26)) wr) (fun i _ => N - (intOf i).toNat)
  case atStart => exact ⟨0, _, rfl, by omega, by simp, I1.out, C1.out, FrS.refl _ _⟩
  case round =>
    obtain ⟨k, zs, rfl, hk, hz, hi, hcu, hfr⟩ := hrel
    have I := Lib.hid hi
    have CU := Lib.hid hcu
    have FR := Lib.hid hfr
    have HZ := Lib.hid hz
    clear hi hcu hfr hz
    have R6 := Lib.hid (K6.out.frs FR.out (by omega))
    have lc := CU.out.lt
    obtain ⟨r0, r1, r2, -, -, -⟩ := R6.out.all
    by_cases hlt2 : k < N
    · have v1 : IntKind.i64.wrap (2 * (most : Int)) = 2 * (most : Int) := IntWalk.i64_in _ (by omega)
      have v2 : IntKind.i64.wrap (2 * (most : Int) + 1) = 2 * (most : Int) + 1 := IntWalk.i64_in _ (by omega)
      go_upto_region 5 with fail
      refine wp_region_held_drew (S := fun w' => FrS (fun k => k = cb ∨ k = g) wr w') (by kernel_rfl) (FrS.refl _ _).drew (fun hH => ?_)
      refine wpAnyH_take (i := 0) (v := ?_) (by simp only [List.getElem?_toArray, List.getElem?_cons_zero]; rfl) (by kernel_rfl) (by kernel_rfl) (by kernel_rfl) (by exact fun _ _ _ h => h) (Or.inl ⟨by rfl, ?_⟩) hH ?_
      rotate_left
      · (intro wS hS; clear hS; go_simp; try rfl)
      try simp only [Act.put, List.setIfInBounds_toArray, List.set_cons_zero, List.set_cons_succ]
      refine wpAnyH_take (i := 1) (v := ?_) (by simp only [List.getElem?_toArray, List.getElem?_cons_succ, List.getElem?_cons_zero]; rfl) (by kernel_rfl) (by kernel_rfl) (by kernel_rfl) (by exact fun _ _ _ h => h) (Or.inl ⟨by rfl, ?_⟩) hH ?_
      rotate_left
      · (intro wS hS; (try dsimp only at hS); obtain ⟨k1, k2, k3⟩ := sevenF R6.out hS (by omega); go_simp; try rfl)
      try simp only [Act.put, List.setIfInBounds_toArray, List.set_cons_zero, List.set_cons_succ]
      refine wpAnyH_take (i := 2) (v := ?_) (by simp only [List.getElem?_toArray, List.getElem?_cons_succ, List.getElem?_cons_zero]; rfl) (by kernel_rfl) (by kernel_rfl) (by kernel_rfl) (by exact fun _ _ _ h => h) (Or.inl ⟨by rfl, ?_⟩) hH ?_
      rotate_left
      · (intro wS hS; clear hS; go_simp; try rfl)
      try simp only [Act.put, List.setIfInBounds_toArray, List.set_cons_zero, List.set_cons_succ]
      refine wpAnyH_take (i := 3) (v := ?_) (by simp only [List.getElem?_toArray, List.getElem?_cons_succ, List.getElem?_cons_zero]; rfl) (by kernel_rfl) (by kernel_rfl) (by kernel_rfl) (by exact fun _ _ _ h => h) (Or.inl ⟨by rfl, ?_⟩) hH ?_
      rotate_left
      · (intro wS hS; clear hS; go_simp; try rfl)
      try simp only [Act.put, List.setIfInBounds_toArray, List.set_cons_zero, List.set_cons_succ]
      refine wpAnyH_take (i := 4) (v := ?_) (by simp only [List.getElem?_toArray, List.getElem?_cons_succ, List.getElem?_cons_zero]; rfl) (by kernel_rfl) (by kernel_rfl) (by kernel_rfl) (by exact fun _ _ _ h => h) (Or.inl ⟨by rfl, ?_⟩) hH ?_
      rotate_left
      · (intro wS hS; clear hS; go_simp; try rfl)
      try simp only [Act.put, List.setIfInBounds_toArray, List.set_cons_zero, List.set_cons_succ]
      refine wpAnyH_take (i := 5) (v := ?_) (by simp only [List.getElem?_toArray, List.getElem?_cons_succ, List.getElem?_cons_zero]; rfl) (by kernel_rfl) (by kernel_rfl) (by kernel_rfl) (by exact fun _ _ _ h => h) (Or.inl ⟨by rfl, ?_⟩) hH ?_
      rotate_left
      · (intro wS hS; clear hS; go_simp; try rfl)
      try simp only [Act.put, List.setIfInBounds_toArray, List.set_cons_zero, List.set_cons_succ]
      refine wpAnyH_take (i := 6) (v := ?_) (by simp only [List.getElem?_toArray, List.getElem?_cons_succ, List.getElem?_cons_zero]; rfl) (by kernel_rfl) (by kernel_rfl) (by kernel_rfl) (by exact fun _ _ _ h => h) (Or.inl ⟨by rfl, ?_⟩) hH ?_
      rotate_left
      · (intro wS hS; clear hS; go_simp; try rfl)
      try simp only [Act.put, List.setIfInBounds_toArray, List.set_cons_zero, List.set_cons_succ]
      refine wpAnyH_take (i := 8) (v := ?_) (by simp only [List.getElem?_toArray, List.getElem?_cons_succ, List.getElem?_cons_zero]; rfl) (by kernel_rfl) (by kernel_rfl) (by kernel_rfl) (by exact fun _ _ _ h => h) (Or.inl ⟨by rfl, ?_⟩) hH ?_
      rotate_left
      · (intro wS hS; clear hS; go_simp; try rfl)
      try simp only [Act.put, List.setIfInBounds_toArray, List.set_cons_zero, List.set_cons_succ]
      refine wpAnyH_ready (rs := [7]) (by kernel_rfl) (by simp) ?_
      refine AllReadyH.cons (by simp only [List.getElem?_toArray, List.getElem?_cons_succ, List.getElem?_cons_zero]; rfl) (fun KK hKK => ?_) AllReadyH.nil
      go_simp
      refine (l1Below _ cb _ (by exact CU.out) (by omega)).mono ?_
      rintro e w2 ⟨z, ⟨z0, z1⟩, rfl, hc2, hg2⟩
      have v3 : IntKind.i64.wrap (z - (most : Int)) = z - (most : Int) := IntWalk.i64_in _ (by omega)
      have I2 := Lib.hid (I.out.move (hg2.block g I.out.lt (by simp; omega)))
      have C2 := Lib.hid hc2
      have F1 : Hid (FrS (fun k => k = cb ∨ k = g) wr w2) := (FrS.refl _ wr).drew.trans (FrS.of_one hg2 (.inl rfl))
      clear hc2
      try dsimp only
      refine hKK.out _ _ ?_ (fun hH2 => ?_)
      · exact F1.out
      clear hKK KK
      have hO := hH
      clear hH
      have hH := hH2
      clear hH2
      try simp only [Act.put, List.setIfInBounds_toArray, List.set_cons_zero, List.set_cons_succ]
      refine wpAnyH_take (i := 9) (v := ?_) (by simp only [List.getElem?_toArray, List.getElem?_cons_succ, List.getElem?_cons_zero]; rfl) (by kernel_rfl) (by kernel_rfl) (by kernel_rfl) (by exact fun _ _ _ h => h) (Or.inl ⟨by rfl, ?_⟩) hH ?_
      rotate_left
      · (intro wS hS; clear hS; go_simp; try rfl)
      try simp only [Act.put, List.setIfInBounds_toArray, List.set_cons_zero, List.set_cons_succ]
      refine wpAnyH_take (i := 10) (v := ?_) (by simp only [List.getElem?_toArray, List.getElem?_cons_succ, List.getElem?_cons_zero]; rfl) (by kernel_rfl) (by kernel_rfl) (by kernel_rfl) (by exact fun _ _ _ h => h) (Or.inl ⟨by rfl, ?_⟩) hH ?_
      rotate_left
      · (intro wS hS; clear hS; go_simp; try rfl)
      try simp only [Act.put, List.setIfInBounds_toArray, List.set_cons_zero, List.set_cons_succ]
      have hold := I2.out.ints.cell (i := k) (by rw [HZ.out]; exact hlt2)
      have hfr := I2.out.ints.free k
      refine wpAnyH_ready (rs := [11]) (by kernel_rfl) (by simp) ?_
      refine AllReadyH.cons (by simp only [List.getElem?_toArray, List.getElem?_cons_succ, List.getElem?_cons_zero]; rfl) (fun KK hKK => ?_) AllReadyH.nil
      go_simp
      have I2 := Lib.hid (I2.out.set k (by rw [HZ.out]; exact hlt2) (z - (most : Int)))
      have C2 := Lib.hid (C2.out.setFar (x := ⟨g, k, none⟩) (by show cb < g; omega) (.int .i64 (z - (most : Int))))
      have F2 : Hid (FrS (fun k => k = cb ∨ k = g) wr (w2.setCell ⟨g, k, none⟩ (.int .i64 (z - (most : Int))))) := F1.out.set (a := ⟨g, k, none⟩) (.inl (.inr rfl)) _
      try dsimp only
      refine hKK.out _ _ ?_ (fun hH2 => ?_)
      · exact F2.out
      clear hKK KK
      have hO := hH
      clear hH
      have hH := hH2
      clear hH2
      try simp only [Act.put, List.setIfInBounds_toArray, List.set_cons_zero, List.set_cons_succ]
      have F2 := Lib.hid (FR.out.trans F2.out)
      refine wpAnyH_done (by kernel_rfl) ?_ _
      go_wp2_with fail
      go_roundw
      case rel => exact ⟨k + 1, _, by go_num, by omega, by rw [List.length_set]; exact HZ.out, I2.out, C2.out, F2.out⟩
      case measure => simp [intOf]; omega
    · obtain rfl : N = k := by omega
      have R2 := Lib.hid (K2.out.frs FR.out (by omega))
      obtain ⟨s0, s1, s2, t0, t1, t2⟩ := R2.out.all
      go_wp2_with fail
      obtain ⟨E0, E1, E2, -, -, -⟩ := (((R2.out.set0 (.int .i64 R)).set1 (.int .i64 C)).set2 (.slice (some ⟨g, 0, none⟩) N N)).all
      have FF := Lib.hid (F.out.trans (FR.out.mono (q := fun k => k = cb ∨ w.heap.size ≤ k) (fun k hk => by omega)))
      refine bodyPost_ret (v := .agg #[.int .i64 R, .int .i64 C, .slice (some ⟨g, 0, none⟩) N N]) (by simp [results, Tryz.results116, go_sem, E0, E1, E2]) rfl ⟨g, zs, by rw [HN.out], by omega, by rw [HN.out]; exact HZ.out, ?_, ?_, ?_⟩
      · rw [HN.out]
        exact ((I.out.far (by show g ≠ w.heap.size; omega) _).far (by show g ≠ w.heap.size; omega) _).far (by show g ≠ w.heap.size; omega) _
      · exact ((CU.out.setFar (by show cb < w.heap.size; omega) _).setFar (by show cb < w.heap.size; omega) _).setFar (by show cb < w.heap.size; omega) _
      · exact FrS.one (((FF.out.set (a := ⟨w.heap.size, 0, none⟩) (.inr (Nat.le_refl _)) _).set (a := ⟨w.heap.size, 1, none⟩) (.inr (Nat.le_refl _)) _).set (a := ⟨w.heap.size, 2, none⟩) (.inr (Nat.le_refl _)) _) (fun k hk hp => by omega)
end Go.Proofs.YtcapddcmnjeloaaGreatDoor
end

section
/-
  The drawing of matrices: one that may be spoilt.
-/
namespace Go.Proofs.YtcapddcmnjeloaaGreatDoor
set_option maxRecDepth 100000
open Go.RowKit
theorem OwnC.out1 {B : Nat} {w : World} {v : Value} {zs : List Int} {b : Nat} {p q r : Value} (h : OwnC B w v zs) (k : Blk3 w b 26 p q r) (i : Nat) (x : Value) : OwnC B (w.setCell ⟨b, i, none⟩ x) v zs := by
  rcases h with h | ⟨g, cap, hv, hB, hi⟩
  · exact .inl h
  · exact .inr ⟨g, cap, hv, hB, hi.far (hi.ints.ne_blk k) x⟩
theorem OwnC.out3 {B : Nat} {w : World} {v : Value} {zs : List Int} {b : Nat} {p q r : Value} (h : OwnC B w v zs) (k : Blk3 w b 26 p q r) (x y z : Value) : OwnC B (((w.setCell ⟨b, 0, none⟩ x).setCell ⟨b, 1, none⟩ y).setCell ⟨b, 2, none⟩ z) v zs :=
  ((h.out1 k 0 x).out1 (k.set0 x) 1 y).out1 ((k.set0 x).set1 y) 2 z
end Go.Proofs.YtcapddcmnjeloaaGreatDoor
end

section
/-
  The drawing of a square matrix once more, with a bound on its number of rows.
-/
namespace Go.Proofs.YtcapddcmnjeloaaGreatDoor
set_option maxRecDepth 100000
open Go.RowKit
def CurMatR (B L cb : Nat) (p : Nat → Prop) (w : World) (e : Ending) (w' : World) : Prop := ∃ (r c : Int) (v : Value) (zs : List Int), e = .returned (.agg #[.int .i64 r, .int .i64 c, v]) ∧ OwnC B w' v zs ∧ zs.length ≤ L ∧ r ≤ 30 ∧ Cur w' cb ∧ FrS p w w'
theorem CurMatR.end_ {B L cb b : Nat} {pr : Nat → Prop} {w W : World} {r c : Int} {v p q s : Value} {zs : List Int} (own : OwnC B W v zs) (hl : zs.length ≤ L) (k : Blk3 W b 26 p q s) (hc : Cur W cb) (hcb : cb < b) (hB : pr b) (f : FrS pr w W) (hr : r ≤ 30 := by omega) :
    CurMatR B L cb pr w (.returned (.agg #[.int .i64 r, .int .i64 c, v])) (((W.setCell ⟨b, 0, none⟩ (.int .i64 r)).setCell ⟨b, 1, none⟩ (.int .i64 c)).setCell ⟨b, 2, none⟩ v) :=
  ⟨r, c, v, zs, rfl, own.out3 k _ _ _, hl, hr, ((hc.setFar hcb _).setFar hcb _).setFar hcb _, ((f.set (.inl hB) _).set (.inl hB) _).set (.inl hB) _⟩
set_option maxHeartbeats 2000000 in
theorem l3SpoilR (w : World) (cb B g n cap : Nat) (r c : Int) (zs : List Int) (hc : Cur w cb) (hcB : cb < B) (hB : B ≤ w.heap.size) (hg : B ≤ g) (hi : IntsC w g cap zs) (hz : zs.length = n) (hn : n ≤ 600) (hr0 : 0 ≤ r) (hr1 : r ≤ 24) :
    Calls Tryz.prog 119 #[.pointer (some ⟨cb, 0, none⟩), .agg #[.int .i64 r, .int .i64 c, .slice (some ⟨g, 0, none⟩) n cap]] w (CurMatR B (n + 1) cb (fun k => k = cb ∨ k = g ∨ w.heap.size ≤ k) w) := by
  have hlt := hc.lt
  have gl := hi.lt
  have C0 := Lib.hid hc
  have I0 := Lib.hid hi
  have HZ := Lib.hid hz
  clear hc hi hz
  go_enter Tryz.func119, Tryz.ntmps119
  go_wp2_with fail
  refine (l1Below _ cb 40 ((C0.out.alloc (.cells #[.int .i64 r, .int .i64 c, .slice (some ⟨g, 0, none⟩) n cap] 26)).alloc (.cells #[.int .i64 0, .int .i64 0, .slice none 0 0] 26)) (by omega)).mono ?_
  rintro e w1 ⟨k, ⟨k0, k1⟩, rfl, hc1, hg1⟩
  have K0 : Hid (Blk3 w1 w.heap.size 26 (.int .i64 r) (.int .i64 c) (.slice (some ⟨g, 0, none⟩) n cap)) := ((Blk3.at_ _ _ _ _ rfl).old _).keepOne hg1 (by omega)
  have K2 : Hid (Blk3 w1 (w.heap.size + 1) 26 (.int .i64 0) (.int .i64 0) (.slice none 0 0)) := (Blk3.at_ _ _ _ _ (by simp)).keepOne hg1 (by omega)
  have C1 := Lib.hid hc1
  have F1 : Hid (FrS (fun k => k = cb ∨ k = g ∨ w.heap.size ≤ k) w w1) := ((((FrS.refl _ w).alloc _).alloc _).trans (FrS.of_one hg1 (.inl rfl)))
  have O1 : Hid (OwnC B w1 (.slice (some ⟨g, 0, none⟩) n cap) zs) := .inr ⟨g, cap, by rw [HZ.out], hg, (((I0.out.old _).old _)).move (hg1.block g (by simp; omega) (by simp; omega))⟩
  have I1 : Hid (IntsC w1 g cap zs) := (((I0.out.old _).old _)).move (hg1.block g (by simp; omega) (by simp; omega))
  have l1 : w.heap.size + 1 < w1.heap.size := K2.out.lt
  clear hc1 hg1 C0 I0
  obtain ⟨a0, a1, a2, a3, a4, a5⟩ := K0.out.all
  obtain ⟨b0, b1, b2, b3, b4, b5⟩ := K2.out.all
  by_cases e0 : k = 0
  · subst e0
    go_wp2_with fail
    refine (l1PickInt (fun t => t ≤ 30) _ cb w1.heap.size 4 (C1.out.alloc _) ?_ (by omega) (by omega) (by omega)).mono ?_
    · exact IntList.new (P := fun t => t ≤ 30) [-1, 0, 7, r + 1] (by intro z hz; simp at hz; show z ≤ 30; omega) w1 3
    rintro e w2 ⟨t, ht, rfl, hc2, hg2⟩
    have K0 := Lib.hid ((K0.out.old _).keepOne hg2 (by omega))
    have K2 := Lib.hid ((K2.out.old _).keepOne hg2 (by omega))
    have C2 := Lib.hid hc2
    have fx : FrS (fun k => k = cb) w1 w2 := (((FrS.refl _ w1).alloc _).trans (FrS.of_one hg2 rfl))
    have F2 := Lib.hid (F1.out.trans (fx.mono (fun k hk => .inl hk)))
    have O2 := Lib.hid (O1.out.frs fx (fun k hk => by omega))
    clear hc2 hg2 fx
    obtain ⟨s0, s1, s2, f0, f1, f2⟩ := K0.out.all
    obtain ⟨u0, u1, u2, v0, v1, v2⟩ := K2.out.all
    go_wp2_with fail
    obtain ⟨E0, E1, E2, -, -, -⟩ := ((((K2.out.far (a := ⟨w.heap.size, 0, none⟩) (by simp) (.int .i64 t)).set0 (.int .i64 t)).set1 (.int .i64 c)).set2 (.slice (some ⟨g, 0, none⟩) n cap)).all
    exact bodyPost_ret (v := .agg #[.int .i64 t, .int .i64 c, .slice (some ⟨g, 0, none⟩) n cap]) (by simp [results, Tryz.results119, go_sem, E0, E1, E2]) rfl (CurMatR.end_ (O2.out.out1 K0.out 0 _) (by rw [HZ.out]; omega) (K2.out.far (by simp) _) (C2.out.setFar (by show cb < w.heap.size; omega) _) (by omega) (by omega) (F2.out.set (.inl (.inr (.inr (Nat.le_refl _)))) _))
  by_cases e1 : k = 1
  · subst e1
    by_cases hn0 : 0 < n
    · go_upto_region 6 with fail
      refine wp_region_held_drew (S := fun w' => FrS (fun k => k = cb ∨ k = g) w1 w') (by kernel_rfl) (FrS.refl _ _).drew (fun hH => ?_)
      refine wpAnyH_take (i := 0) (v := ?_) (by simp only [List.getElem?_toArray, List.getElem?_cons_zero]; rfl) (by kernel_rfl) (by kernel_rfl) (by kernel_rfl) (by exact fun _ _ _ h => h) (Or.inl ⟨by rfl, ?_⟩) hH ?_
      rotate_left
      · (intro wS hS; clear hS; go_simp; try rfl)
      try simp only [Act.put, List.setIfInBounds_toArray, List.set_cons_zero, List.set_cons_succ]
      refine wpAnyH_take (i := 1) (v := ?_) (by simp only [List.getElem?_toArray, List.getElem?_cons_succ, List.getElem?_cons_zero]; rfl) (by kernel_rfl) (by kernel_rfl) (by kernel_rfl) (by exact fun _ _ _ h => h) (Or.inl ⟨by rfl, ?_⟩) hH ?_
      rotate_left
      · (intro wS hS; (try dsimp only at hS); obtain ⟨k1, k2, k3⟩ := sevenF K0.out hS (by rintro (h | h); omega; exact I1.out.ints.ne_blk K0.out h.symm); go_simp; try rfl)
      try simp only [Act.put, List.setIfInBounds_toArray, List.set_cons_zero, List.set_cons_succ]
      refine wpAnyH_take (i := 2) (v := ?_) (by simp only [List.getElem?_toArray, List.getElem?_cons_succ, List.getElem?_cons_zero]; rfl) (by kernel_rfl) (by kernel_rfl) (by kernel_rfl) (by exact fun _ _ _ h => h) (Or.inl ⟨by rfl, ?_⟩) hH ?_
      rotate_left
      · (intro wS hS; clear hS; go_simp; try rfl)
      try simp only [Act.put, List.setIfInBounds_toArray, List.set_cons_zero, List.set_cons_succ]
      refine wpAnyH_ready (rs := [3]) (by kernel_rfl) (by simp) ?_
      refine AllReadyH.cons (by simp only [List.getElem?_toArray, List.getElem?_cons_succ, List.getElem?_cons_zero]; rfl) (fun KK hKK => ?_) AllReadyH.nil
      go_simp
      refine (l1Odd _ cb (by exact C1.out)).mono ?_
      rintro e w2 ⟨z, hz, rfl, hc2, hg2⟩
      have I2 := Lib.hid (I1.out.move (hg2.block g I1.out.lt (by simp; omega)))
      have C2 := Lib.hid hc2
      have f2 : FrS (fun k => k = cb ∨ k = g) w1 w2 := (FrS.refl _ w1).drew.trans (FrS.of_one hg2 (.inl rfl))
      have FX := Lib.hid f2
      clear hc2 f2 hg2
      try dsimp only
      refine hKK.out _ _ ?_ (fun hH2 => ?_)
      · exact FX.out
      clear hKK KK
      have hO := hH
      clear hH
      have hH := hH2
      clear hH2
      try simp only [Act.put, List.setIfInBounds_toArray, List.set_cons_zero, List.set_cons_succ]
      refine wpAnyH_take (i := 4) (v := ?_) (by simp only [List.getElem?_toArray, List.getElem?_cons_succ, List.getElem?_cons_zero]; rfl) (by kernel_rfl) (by kernel_rfl) (by kernel_rfl) (by exact fun _ _ _ h => h) (Or.inl ⟨by rfl, ?_⟩) hH ?_
      rotate_left
      · (intro wS hS; clear hS; go_simp; try rfl)
      try simp only [Act.put, List.setIfInBounds_toArray, List.set_cons_zero, List.set_cons_succ]
      have hold := I2.out.ints.cell (i := 0) (by rw [HZ.out]; exact hn0)
      have hfr := I2.out.ints.free 0
      refine wpAnyH_ready (rs := [5]) (by kernel_rfl) (by simp) ?_
      refine AllReadyH.cons (by simp only [List.getElem?_toArray, List.getElem?_cons_succ, List.getElem?_cons_zero]; rfl) (fun KK hKK => ?_) AllReadyH.nil
      go_simp
      have I2 := Lib.hid (I2.out.set 0 (by rw [HZ.out]; exact hn0) z)
      have C2 := Lib.hid (C2.out.setFar (x := ⟨g, 0, none⟩) (by show cb < g; omega) (.int .i64 z))
      have FX : Hid (FrS (fun k => k = cb ∨ k = g) w1 (w2.setCell ⟨g, 0, none⟩ (.int .i64 z))) := FX.out.set (a := ⟨g, 0, none⟩) (.inl (.inr rfl)) _
      try dsimp only
      refine hKK.out _ _ ?_ (fun hH2 => ?_)
      · exact FX.out
      clear hKK KK
      have hO := hH
      clear hH
      have hH := hH2
      clear hH2
      try simp only [Act.put, List.setIfInBounds_toArray, List.set_cons_zero, List.set_cons_succ]
      have K0n : ¬ (w.heap.size = cb ∨ w.heap.size = g) := by rintro (h | h); omega; exact I1.out.ints.ne_blk K0.out h.symm
      have K2n : ¬ (w.heap.size + 1 = cb ∨ w.heap.size + 1 = g) := by rintro (h | h); omega; exact I1.out.ints.ne_blk K2.out h.symm
      have K0 := Lib.hid (K0.out.frs FX.out K0n)
      have K2 := Lib.hid (K2.out.frs FX.out K2n)
      have F2 := Lib.hid (F1.out.trans (FX.out.mono (q := fun k => k = cb ∨ k = g ∨ w.heap.size ≤ k) (fun k hk => by omega)))
      have O2 : Hid (OwnC B (w2.setCell ⟨g, 0, none⟩ (.int .i64 z)) (.slice (some ⟨g, 0, none⟩) n cap) (zs.set 0 z)) := .inr ⟨g, cap, by rw [List.length_set, HZ.out], hg, I2.out⟩
      obtain ⟨s0, s1, s2, f0, f1, f2⟩ := K0.out.all
      obtain ⟨u0, u1, u2, v0, v1, v2⟩ := K2.out.all
      refine wpAnyH_done (by kernel_rfl) ?_ _
      go_wp2_with fail
      obtain ⟨E0, E1, E2, -, -, -⟩ := (((K2.out.set0 (.int .i64 r)).set1 (.int .i64 c)).set2 (.slice (some ⟨g, 0, none⟩) n cap)).all
      exact bodyPost_ret (v := .agg #[.int .i64 r, .int .i64 c, .slice (some ⟨g, 0, none⟩) n cap]) (by simp [results, Tryz.results119, go_sem, E0, E1, E2]) rfl (CurMatR.end_ O2.out (by rw [List.length_set, HZ.out]; omega) K2.out C2.out (by omega) (by omega) F2.out)
    · obtain rfl : n = 0 := by omega
      go_wp2_with fail
      obtain ⟨E0, E1, E2, -, -, -⟩ := (((K2.out.set0 (.int .i64 r)).set1 (.int .i64 c)).set2 (.slice (some ⟨g, 0, none⟩) 0 cap)).all
      exact bodyPost_ret (v := .agg #[.int .i64 r, .int .i64 c, .slice (some ⟨g, 0, none⟩) 0 cap]) (by simp [results, Tryz.results119, go_sem, E0, E1, E2]) rfl (CurMatR.end_ O1.out (by rw [HZ.out]; omega) K2.out C1.out (by omega) (by omega) F1.out)
  by_cases e2 : k = 2
  · subst e2
    obtain ⟨fi, hfi, hz0, hz1, hz2⟩ := facts_int
    have hown : (w1.alloc (.cells #[.int .i64 1] 3)).ownsRow B 3 1 (.slice (some ⟨g, 0, none⟩) n cap) n (zs.map (Value.int .i64)) := by
      have := (I1.out.old (.cells #[.int .i64 1] 3)).row hg
      rw [HZ.out] at this
      exact this
    have news : ∀ (j : Nat) u, [Value.int .i64 1][j]? = some u → (w1.alloc (.cells #[.int .i64 1] 3)).cell? ((⟨w1.heap.size, 0, none⟩ : Addr).add j) = some u := by
      intro j u hu
      have hj : j = 0 := by
        rcases j with _ | j
        · rfl
        · simp at hu
      subst hj
      have := heap_alloc_new w1 (.cells #[Value.int .i64 1] 3)
      have hc : (w1.alloc (.cells #[Value.int .i64 1] 3)).cell? ⟨w1.heap.size, 0, none⟩ = some (.int .i64 1) := by
        unfold World.cell?
        simp only [this]
        rfl
      have ha : (⟨w1.heap.size, 0, none⟩ : Addr).add 0 = ⟨w1.heap.size, 0, none⟩ := rfl
      rw [ha, hc]
      simpa using hu
    have HO := Lib.hid hown
    have NS := Lib.hid news
    have bs : B ≤ w1.heap.size := Nat.le_trans hB F1.out.size
    clear hown news
    go_wp2_with (at_builtin; refine wpList_append_own_at _ rfl _ _ 24 rfl B 3 fi (.int .i64 0) 1 8 underlying_ints hfi hz0 hz1 hz2 rfl (by decide) _ _ _ rfl HO.out ⟨w1.heap.size, 0, none⟩ 1 1 [.int .i64 1] ?hx ?hl ?hnews ?h1 ?h63 ?hbytes ?hbase ?hnext)
    case hx => rfl
    case hl => rfl
    case hnews => exact NS.out
    case h1 => intro u hu; simp at hu; subst hu; rfl
    case h63 => unfold maxLen; omega
    case hbytes => omega
    case hbase => simp; omega
    case hnext =>
      rintro v' w2 ho hg2 - hbk
      have O2 : Hid (OwnC B w2 v' (zs ++ [1])) := OwnC.of_row (by rw [List.length_append, HZ.out, List.map_append]; exact ho)
      have K0 := Lib.hid ((K0.out.old (.cells #[.int .i64 1] 3)).keepOne (c := g) (by simpa [Value.ownBlock] using hg2) (Ne.symm (I1.out.ints.ne_blk K0.out)))
      have K2 := Lib.hid ((K2.out.old (.cells #[.int .i64 1] 3)).keepOne (c := g) (by simpa [Value.ownBlock] using hg2) (Ne.symm (I1.out.ints.ne_blk K2.out)))
      have fx : FrS (fun k => k = cb ∨ k = g ∨ w.heap.size ≤ k) (w1.alloc (.cells #[.int .i64 1] 3)) w2 := FrS.of_one (g := g) (by simpa [Value.ownBlock] using hg2) (.inr (.inl rfl))
      have F2 := Lib.hid ((F1.out.alloc _).trans fx)
      have C2 := Lib.hid ((C1.out.alloc (.cells #[.int .i64 1] 3)).frs (FrS.of_one (p := fun k => k = g) (g := g) (by simpa [Value.ownBlock] using hg2) rfl) (fun k hk => by omega))
      obtain ⟨q2, qc2, rfl, -, -⟩ := (O2.out.own (by rw [List.length_append, HZ.out]; simp; omega)).form
      clear ho hg2 hbk fx
      obtain ⟨s0, s1, s2, f0, f1, f2⟩ := K0.out.all
      obtain ⟨u0, u1, u2, v0, v1, v2⟩ := K2.out.all
      have EL : (zs ++ [(1 : Int)]).length = n + 1 := by rw [List.length_append, HZ.out]; rfl
      rw [EL] at O2 ⊢
      go_wp2_with fail
      obtain ⟨E0, E1, E2, -, -, -⟩ := ((((K2.out.far (a := ⟨w.heap.size, 2, none⟩) (by simp) (.slice q2 (n + 1) qc2)).set0 (.int .i64 r)).set1 (.int .i64 c)).set2 (.slice q2 (n + 1) qc2)).all
      exact bodyPost_ret (v := .agg #[.int .i64 r, .int .i64 c, .slice q2 (n + 1) qc2]) (by simp [results, Tryz.results119, go_sem, E0, E1, E2]) rfl (CurMatR.end_ (O2.out.out1 K0.out 2 _) (by rw [EL]; omega) (K2.out.far (by simp) _) (C2.out.setFar (by show cb < w.heap.size; omega) _) (by omega) (by omega) (F2.out.set (.inl (.inr (.inr (Nat.le_refl _)))) _))
  · have n0 : (k == 0) = false := by simpa using e0
    have n1 : (k == 1) = false := by simpa using e1
    have n2 : (k == 2) = false := by simpa using e2
    go_wp2_with fail
    obtain ⟨E0, E1, E2, -, -, -⟩ := (((K2.out.set0 (.int .i64 r)).set1 (.int .i64 c)).set2 (.slice (some ⟨g, 0, none⟩) n cap)).all
    exact bodyPost_ret (v := .agg #[.int .i64 r, .int .i64 c, .slice (some ⟨g, 0, none⟩) n cap]) (by simp [results, Tryz.results119, go_sem, E0, E1, E2]) rfl (CurMatR.end_ O1.out (by rw [HZ.out]; omega) K2.out C1.out (by omega) (by omega) F1.out)
set_option maxRecDepth 100000 in
set_option maxHeartbeats 2000000 in
theorem l3SquareR (w : World) (cb : Nat) (hc : Cur w cb) :
    Calls Tryz.prog 71 #[.pointer (some ⟨cb, 0, none⟩)] w (CurMatR w.heap.size 17 cb (fun k => k = cb ∨ w.heap.size ≤ k) w) := by
  have hlt := hc.lt
  have C0 := Lib.hid hc
  clear hc
  go_enter Tryz.func71, Tryz.ntmps71
  go_wp2_with fail
  refine (l1Below _ cb 5 (C0.out.alloc (.cells #[.int .i64 0, .int .i64 0, .slice none 0 0] 26)) (by omega)).mono ?_
  rintro e w1 ⟨R, ⟨r0, r1⟩, rfl, hc1, hg1⟩
  have K2 : Hid (Blk3 w1 w.heap.size 26 (.int .i64 0) (.int .i64 0) (.slice none 0 0)) := (Blk3.at_ _ _ _ _ rfl).keepOne hg1 (by omega)
  have C1 := Lib.hid hc1
  have F1 : Hid (FrS (fun k => k = cb ∨ w.heap.size ≤ k) w w1) := ((FrS.refl _ w).alloc _).trans (FrS.of_one hg1 (.inl rfl))
  clear hc1 hg1 C0
  have lk := K2.out.lt
  have lc := C1.out.lt
  go_wp2_with fail
  refine (l1PickInt (fun z => 1 ≤ z ∧ z ≤ 9) _ cb w1.heap.size 3 (C1.out.alloc _) ?_ (by omega) (by omega) (by omega)).mono ?_
  · exact IntList.new [1, 3, 9] (by decide) w1 3
  rintro e w3 ⟨z, ⟨z0, z1⟩, rfl, hc3, hg3⟩
  have K2 := Lib.hid ((K2.out.old _).keepOne hg3 (by omega))
  have C3 := Lib.hid hc3
  have F3 := Lib.hid ((F1.out.alloc _).trans (FrS.of_one hg3 (.inl rfl)))
  clear hc3 hg3 C1 F1 lk lc
  obtain ⟨R, rfl⟩ := Int.eq_ofNat_of_zero_le r0
  obtain ⟨z, rfl⟩ := Int.eq_ofNat_of_zero_le (show 0 ≤ z by omega)
  have lk := K2.out.lt
  have lc := C3.out.lt
  go_wp2_with fail
  refine (l3Draw _ cb R R z C3.out (by omega) (by omega) (by omega)).mono ?_
  rintro e w4 ⟨g, zs, rfl, hg, hz, hi, hc4, hg4⟩
  obtain ⟨N, hN⟩ : ∃ N, R * R = N := ⟨_, rfl⟩
  have hNle : N ≤ 16 := by rw [← hN]; exact Nat.mul_le_mul (show R ≤ 4 by omega) (show R ≤ 4 by omega)
  have HN := Lib.hid hN
  rw [hN] at hz hi ⊢
  have HZ := Lib.hid hz
  have K2 := Lib.hid ((K2.out.keepOne hg4 (by omega)).old (.cells #[.int .i64 R, .int .i64 R, .slice (some ⟨g, 0, none⟩) N N] 26))
  have K6 : Hid (Blk3 (w4.alloc (.cells #[.int .i64 R, .int .i64 R, .slice (some ⟨g, 0, none⟩) N N] 26)) w4.heap.size 26 (.int .i64 R) (.int .i64 R) (.slice (some ⟨g, 0, none⟩) N N)) := Blk3.at_ _ _ _ _ rfl
  have CU := Lib.hid (hc4.alloc (.cells #[.int .i64 R, .int .i64 R, .slice (some ⟨g, 0, none⟩) N N] 26))
  have FR := Lib.hid ((F3.out.trans (FrS.of_one hg4 (.inl rfl))).alloc (.cells #[.int .i64 R, .int .i64 R, .slice (some ⟨g, 0, none⟩) N N] 26))
  have I := Lib.hid (hi.old (.cells #[.int .i64 R, .int .i64 R, .slice (some ⟨g, 0, none⟩) N N] 26))
  have gp := hi.lt
  have wg : w.heap.size < g := by omega
  have wp : w.heap.size < w4.heap.size := by omega
  have hw4 := FR.out.size
  clear hN hz hi hc4 hg4 hg F3 C3 lk lc
  obtain ⟨x0, x1, x2, -, -, -⟩ := K6.out.all
  by_cases h1 : (1 : Int) < R
  · go_wp2_with fail
    refine (l1Once _ cb 6 CU.out (by omega)).mono ?_
    rintro e w5 ⟨b, rfl, hc5, hg5⟩
    have K2 := Lib.hid (K2.out.keepOne hg5 (by omega))
    have K6 := Lib.hid (K6.out.keepOne hg5 (by omega))
    have CU := Lib.hid hc5
    have FR := Lib.hid (FR.out.trans (FrS.of_one hg5 (.inl rfl)))
    have I := Lib.hid (I.out.move (hg5.block g I.out.lt (by simp; omega)))
    clear hc5 hg5 x0 x1 x2
    obtain ⟨x0, x1, x2, -, -, -⟩ := K6.out.all
    cases b with
    | false =>
      go_wp2_with fail
      refine (l3SpoilR _ cb w.heap.size g N N R R zs CU.out hlt FR.out.size (by omega) I.out HZ.out (by omega) (by omega) (by omega)).mono ?_
      rintro e w9 ⟨r', c', v', zs', rfl, own, hl, hr9, hc9, hf⟩
      obtain ⟨q9, qc9, rfl, -, -⟩ := (own.own (by omega)).form
      have lk9 := K2.out.lt
      have K2 := Lib.hid (K2.out.frs hf (by omega))
      have F9 := Lib.hid (FR.out.trans ((hf.mono (q := fun k => k = cb ∨ w.heap.size ≤ k) (fun k hk => by have := FR.out.size; omega))))
      have O9 := Lib.hid own
      have C9 := Lib.hid hc9
      have HL := Lib.hid hl
      clear own hl hc9 hf
      obtain ⟨y0, y1, y2, y3, y4, y5⟩ := K2.out.all
      go_wp2_with fail
      obtain ⟨E0, E1, E2, -, -, -⟩ := (((K2.out.set0 (.int .i64 r')).set1 (.int .i64 c')).set2 (.slice q9 zs'.length qc9)).all
      exact bodyPost_ret (v := .agg #[.int .i64 r', .int .i64 c', .slice q9 zs'.length qc9]) (by simp [results, Tryz.results71, go_sem, E0, E1, E2]) rfl (CurMatR.end_ O9.out (by have := HL.out; omega) K2.out C9.out hlt (.inr (Nat.le_refl _)) F9.out)
    | true =>
      go_wp2_with fail
      go_loopw [5] (fun i wr => ∃ (k : Nat) (zs : List Int), i = .int .i64 k ∧ k ≤ R ∧ zs.length = N ∧ IntsC wr g N zs ∧ FrS (fun k => k = g) w5 wr) (fun i _ => R - (intOf i).toNat)
      case atStart => exact ⟨0, zs, rfl, by omega, HZ.out, I.out, FrS.refl _ _⟩
      case round =>
        clear HZ
        obtain ⟨k, zs, rfl, hk, hz, hi, hfr⟩ := hrel
        have HZ := Lib.hid hz
        have I := Lib.hid hi
        have FG := Lib.hid hfr
        clear hz hi hfr x0 x1 x2
        have K6 := Lib.hid (K6.out.frs FG.out (by omega))
        obtain ⟨x0, x1, x2, -, -, -⟩ := K6.out.all
        by_cases hk2 : k < R
        · have q0 : 2 * R ≤ N := by rw [← HN.out]; exact Nat.mul_le_mul_right R (by omega)
          have q1 : R + k < N := by omega
          have q2 : k < N := by omega
          have hc1 := I.out.ints.cell (i := R + k) (by rw [HZ.out]; exact q1)
          have hc2 := I.out.ints.cell (i := k) (by rw [HZ.out]; exact q2)
          have hfr := I.out.ints.free k
          obtain ⟨x, hx⟩ : ∃ x, zs.getD (R + k) 0 = x := ⟨_, rfl⟩
          rw [hx] at hc1
          obtain ⟨y, hy⟩ : ∃ y, zs.getD k 0 = y := ⟨_, rfl⟩
          rw [hy] at hc2
          have e1 : 0 ≤ (R : Int) + (k : Int) := by omega
          have e2 : (R : Int) + (k : Int) < (N : Int) := by omega
          have e3 : ((R : Int) + (k : Int)).toNat = R + k := by omega
          have v2 : IntKind.i64.wrap ((R : Int) + (k : Int)) = (R : Int) + (k : Int) := IntWalk.i64_in _ (by omega)
          clear hx hy
          go_wp2_with fail
          go_still_tail 11, (by kernel_rfl)
          go_wp2_with fail
          go_roundw
          case rel =>
            refine ⟨k + 1, zs.set k x, by go_num, by omega, by rw [List.length_set]; exact HZ.out, ?_, ?_⟩
            · exact I.out.drew.set k (by rw [HZ.out]; exact q2) _
            · exact (FG.out.drew).set (a := ⟨g, k, none⟩) (.inl rfl) _
          case measure => simp [intOf]; omega
        · have hk3 : decide (k < R) = false := by simpa using hk2
          have K2 := Lib.hid (K2.out.frs FG.out (by omega))
          have CU := Lib.hid (CU.out.frs FG.out (fun k hk => by omega))
          have FR := Lib.hid (FR.out.trans (FG.out.mono (q := fun k => k = cb ∨ w.heap.size ≤ k) (fun k hk => by omega)))
          go_wp2_with fail
          refine (l3SpoilR _ cb w.heap.size g N N R R zs CU.out hlt FR.out.size (by omega) I.out HZ.out (by omega) (by omega) (by omega)).mono ?_
          rintro e w9 ⟨r', c', v', zs', rfl, own, hl, hr9, hc9, hf⟩
          obtain ⟨q9, qc9, rfl, -, -⟩ := (own.own (by omega)).form
          have lk9 := K2.out.lt
          have K2 := Lib.hid (K2.out.frs hf (by omega))
          have F9 := Lib.hid (FR.out.trans ((hf.mono (q := fun k => k = cb ∨ w.heap.size ≤ k) (fun k hk => by have := FR.out.size; omega))))
          have O9 := Lib.hid own
          have C9 := Lib.hid hc9
          have HL := Lib.hid hl
          clear own hl hc9 hf
          obtain ⟨y0, y1, y2, y3, y4, y5⟩ := K2.out.all
          go_wp2_with fail
          obtain ⟨E0, E1, E2, -, -, -⟩ := (((K2.out.set0 (.int .i64 r')).set1 (.int .i64 c')).set2 (.slice q9 zs'.length qc9)).all
          exact bodyPost_ret (v := .agg #[.int .i64 r', .int .i64 c', .slice q9 zs'.length qc9]) (by simp [results, Tryz.results71, go_sem, E0, E1, E2]) rfl (CurMatR.end_ O9.out (by have := HL.out; omega) K2.out C9.out hlt (.inr (Nat.le_refl _)) F9.out)
  · have h1' : decide ((1 : Int) < (R : Int)) = false := by simpa using h1
    go_wp2_with fail
    refine (l3SpoilR _ cb w.heap.size g N N R R zs CU.out hlt FR.out.size (by omega) I.out HZ.out (by omega) (by omega) (by omega)).mono ?_
    rintro e w9 ⟨r', c', v', zs', rfl, own, hl, hr9, hc9, hf⟩
    obtain ⟨q9, qc9, rfl, -, -⟩ := (own.own (by omega)).form
    have lk9 := K2.out.lt
    have K2 := Lib.hid (K2.out.frs hf (by omega))
    have F9 := Lib.hid (FR.out.trans ((hf.mono (q := fun k => k = cb ∨ w.heap.size ≤ k) (fun k hk => by have := FR.out.size; omega))))
    have O9 := Lib.hid own
    have C9 := Lib.hid hc9
    have HL := Lib.hid hl
    clear own hl hc9 hf
    obtain ⟨y0, y1, y2, y3, y4, y5⟩ := K2.out.all
    go_wp2_with fail
    obtain ⟨E0, E1, E2, -, -, -⟩ := (((K2.out.set0 (.int .i64 r')).set1 (.int .i64 c')).set2 (.slice q9 zs'.length qc9)).all
    exact bodyPost_ret (v := .agg #[.int .i64 r', .int .i64 c', .slice q9 zs'.length qc9]) (by simp [results, Tryz.results71, go_sem, E0, E1, E2]) rfl (CurMatR.end_ O9.out (by have := HL.out; omega) K2.out C9.out hlt (.inr (Nat.le_refl _)) F9.out)
end Go.Proofs.YtcapddcmnjeloaaGreatDoor
end

section
/-
  The drawing of matrices: a square one of up to 4 rows.
-/
namespace Go.Proofs.YtcapddcmnjeloaaGreatDoor
set_option maxRecDepth 100000
open Go.RowKit
end Go.Proofs.YtcapddcmnjeloaaGreatDoor
end

section
/-
  A code that came in as a slice of bytes, as the drawing takes it; and the laws' own look at its length.
-/
namespace Go.Proofs.YtcapddcmnjeloaaGreatDoor
open Go.RowKit
theorem codeIn_none (w : World) : CodeIn w none 0 := ⟨Nat.zero_le _, fun _ hk => absurd hk (Nat.not_lt_zero _)⟩
theorem codeIn_some {w : World} {x : Addr} {len cap : Nat} {zs : List Int} (hl : len ≤ cap) (hm : cap ≤ maxLen) (hz : zs.length = cap)
    (hcell : ∀ i, i < zs.length → w.cell? (x.add i) = some (.int .u8 (zs.getD i 0))) (hwf : ∀ n ∈ zs, (Lit.int .u8 n).wf = true) : CodeIn w (some x) len := by
  refine ⟨Nat.le_trans hl hm, fun k hk => ?_⟩
  obtain ⟨b, o, rfl, hc⟩ := ints_at hcell (by omega)
  have bd := range_u8 hwf k
  exact ⟨b, o, zs.getD k 0, rfl, hc k (by omega), by simpa using bd.1, by simpa using bd.2⟩
theorem big_no (w : World) (a : Option Addr) (len cap : Nat) (h : len ≤ 1048576) : Calls Tryz.prog 6 #[.slice a len cap] w fun e w' => e = .returned (.bool false) ∧ w = w' := by
  have h' : decide ((1048576 : Int) < (len : Int)) = false := by simp; omega
  clear h
  go_enter Tryz.func6, Tryz.ntmps6
  go_wp2
  go_ret
  exact ⟨rfl, rfl⟩
theorem big_yes (w : World) (a : Option Addr) (len cap : Nat) (h : 1048576 < len) : Calls Tryz.prog 6 #[.slice a len cap] w fun e w' => e = .returned (.bool true) ∧ w = w' := by
  have h' : decide ((1048576 : Int) < (len : Int)) = true := by simp; omega
  clear h
  go_enter Tryz.func6, Tryz.ntmps6
  go_wp2
  go_ret
  exact ⟨rfl, rfl⟩
end Go.Proofs.YtcapddcmnjeloaaGreatDoor
end

section
/-
  What the drawing of a matrix gives: any matrix of the call's own, valid or not.
-/
namespace Go.Proofs.YtcapddcmnjeloaaGreatDoor
set_option maxRecDepth 100000
open Go.RowKit
end Go.Proofs.YtcapddcmnjeloaaGreatDoor
end

section
/-
  The drawing of a modulus, and of a square matrix with one.
-/
namespace Go.Proofs.YtcapddcmnjeloaaGreatDoor
set_option maxRecDepth 100000
open Go.RowKit
end Go.Proofs.YtcapddcmnjeloaaGreatDoor
end

section
/-
  The drawing of a system over residues.
-/
namespace Go.Proofs.YtcapddcmnjeloaaGreatDoor
set_option maxRecDepth 100000
open Go.RowKit
theorem l1Num9 (w : World) (cb : Nat) (hc : Cur w cb) : Calls Tryz.prog 120 #[.pointer (some ⟨cb, 0, none⟩), .int .i64 9] w (CurInt (fun _ => True) cb w) := by
  have C0 := Lib.hid hc
  clear hc
  go_enter Tryz.func120, Tryz.ntmps120
  go_wp2_with fail
  refine (l1Once _ cb 40 C0.out (by omega)).mono ?_
  rintro e w1 ⟨b, rfl, hc1, hg1⟩
  cases b with
  | true =>
    go_wp2_with fail
    refine (l1Odd _ cb hc1).mono ?_
    rintro e w2 h
    obtain ⟨r, -, rfl, hc2, hg2⟩ := h
    have C2 := Lib.hid hc2
    have G2 := Lib.hid (hg1.trans hg2)
    clear hc1 hg1 hc2 hg2
    go_wp2_with fail
    go_ret
    exact ⟨r, trivial, rfl, C2.out, G2.out⟩
  | false =>
    go_wp2_with fail
    refine (l1Below _ cb 19 hc1 (by omega)).mono ?_
    rintro e w2 ⟨r, ⟨r0, r1⟩, rfl, hc2, hg2⟩
    have C2 := Lib.hid hc2
    have G2 := Lib.hid (hg1.trans hg2)
    have v : IntKind.i64.wrap (r - 9) = r - 9 := IntWalk.i64_in _ (by omega)
    clear hc1 hg1 hc2 hg2
    go_wp2_with fail
    go_ret
    exact ⟨r - 9, trivial, rfl, C2.out, G2.out⟩
def CurLis (cb : Nat) (w : World) (e : Ending) (w' : World) : Prop := ∃ (v : Value) (l : List Int), e = .returned v ∧ w'.ownsRow w.heap.size 3 1 v l.length (l.map (Value.int .i64)) ∧ l.length ≤ 31 ∧ Cur w' cb ∧ FrS (fun k => k = cb ∨ w.heap.size ≤ k) w w'
theorem ownI_far {w : World} {B cb n : Nat} {e : TypeId} {size : Nat} {v : Value} {xs : List Value} (h : w.ownsRow B e size v n xs) (hB : cb < B) : v.ownBlock = none ∨ v.ownBlock ≠ some cb := by
  cases hv : v.ownBlock with
  | none => exact .inl rfl
  | some k => exact .inr (fun h' => by have := (h.lt k hv).1; injection h' with h'; omega)
theorem rowsI_form {w : World} {base n : Nat} {e : TypeId} {size : Nat} {v : Value} {xs : List Value} (h : w.ownsRow base e size v n xs) : ∃ a m c, v = .slice a m c := by
  obtain ⟨h1, ⟨h2, h3⟩ | ⟨g, cap, cur, e, hB, hg, rest⟩⟩ := h
  · exact ⟨_, _, _, h2⟩
  · exact ⟨_, _, _, e⟩
theorem cellI_new (w : World) (t : TypeId) (z : Int) : ∀ (j : Nat) u, [Value.int .i64 z][j]? = some u → (w.alloc (.cells #[.int .i64 z] t)).cell? ((⟨w.heap.size, 0, none⟩ : Addr).add j) = some u := by
  intro j u hu
  have hj : j = 0 := by
    rcases j with _ | j
    · rfl
    · simp at hu
  subst hj
  have := heap_alloc_new w (.cells #[Value.int .i64 z] t)
  have hc : (w.alloc (.cells #[Value.int .i64 z] t)).cell? ⟨w.heap.size, 0, none⟩ = some (.int .i64 z) := by
    unfold World.cell?
    simp only [this]
    rfl
  have ha : (⟨w.heap.size, 0, none⟩ : Addr).add 0 = ⟨w.heap.size, 0, none⟩ := rfl
  rw [ha, hc]
  simpa using hu
set_option maxHeartbeats 4000000 in
theorem l8Right (w : World) (cb : Nat) (n : Int) (hc : Cur w cb) (hn : n ≤ 30) : Calls Tryz.prog 72 #[.pointer (some ⟨cb, 0, none⟩), .int .i64 n] w (CurLis cb w) := by
  have hlt := hc.lt
  have C0 := Lib.hid (hc.alloc (.cells #[] 3))
  have own0 : (w.alloc (.cells #[] 3)).ownsRow w.heap.size 3 1 (.slice (some ⟨w.heap.size, 0, none⟩) 0 0) 0 (([] : List Int).map (Value.int .i64)) := ⟨rfl, .inr ⟨w.heap.size, 0, #[], rfl, Nat.le_refl _, heap_alloc_new w _, Nat.le_refl _, by decide, rfl, rfl⟩⟩
  have O0 := Lib.hid own0
  have F0 : Hid (FrS (fun k => k = cb ∨ w.heap.size ≤ k) w (w.alloc (.cells #[] 3))) := (FrS.refl _ w).alloc _
  clear hc own0
  obtain ⟨fi, hfi, hz0, hz1, hz2⟩ := facts_int
  go_enter Tryz.func72, Tryz.ntmps72
  go_wp2_with fail
  go_loopw [5, 6] (fun v5 v6 wr => ∃ (i : Nat) (l : List Int), v6 = .int .i64 i ∧ l.length = i ∧ i ≤ n.toNat ∧ wr.ownsRow w.heap.size 3 1 v5 l.length (l.map (Value.int .i64)) ∧ Cur wr cb ∧ FrS (fun k => k = cb ∨ w.heap.size ≤ k) w wr) (fun _ v6 _ => n.toNat - (intOf v6).toNat)
  case atStart => exact ⟨0, [], rfl, rfl, by omega, O0.out, C0.out, F0.out⟩
  case round =>
    obtain ⟨i, l, rfl, hl, hi, ho, hcu, hf⟩ := hrel
    have O := Lib.hid ho
    have CU := Lib.hid hcu
    have FR := Lib.hid hf
    have s0 := hf.size
    obtain ⟨va, vm, vc, rfl⟩ := rowsI_form ho
    have LE : Hid (l.length = i) := hl
    have l30 : l.length ≤ 30 := by omega
    clear ho hcu hf C0 O0 F0 hl
    by_cases hgo : (i : Int) < n
    · go_wp2_with fail
      refine (l1Num9 _ cb CU.out).mono ?_
      rintro e w2 ⟨z, -, rfl, hc2, hg2⟩
      have s2 := hg2.size
      have O2 := Lib.hid ((O.out.kept hg2 (ownI_far O.out hlt)).kept (World.grownBy_alloc w2 (.cells #[.int .i64 z] 3) none) (by cases (Value.slice va vm vc).ownBlock <;> simp))
      have F2 := Lib.hid ((FR.out.trans (FrS.of_one (p := fun k => k = cb ∨ w.heap.size ≤ k) hg2 (.inl rfl))).alloc (.cells #[.int .i64 z] 3))
      have C2 := Lib.hid (hc2.alloc (.cells #[.int .i64 z] 3))
      clear hc2 hg2
      go_wp2_with (at_builtin; refine wpList_append_own_at _ rfl _ _ 24 rfl w.heap.size 3 fi (.int .i64 0) 1 8 underlying_ints hfi hz0 hz1 hz2 rfl (by decide) _ _ _ rfl O2.out ⟨w2.heap.size, 0, none⟩ 1 1 [.int .i64 z] ?hx ?hl ?hnews ?h1 ?h63 ?hbytes ?hbase ?hnext)
      case hx => rfl
      case hl => rfl
      case hnews => exact cellI_new _ _ _
      case h1 => intro v hv; simp at hv; subst hv; rfl
      case h63 => unfold maxLen; omega
      case hbytes => omega
      case hbase => exact F2.out.size
      case hnext =>
        rintro v2 wr2 ho2 hg2 - -
        obtain ⟨ua, um, uc, rfl⟩ := rowsI_form ho2
        have hfr : FrS (fun k => w.heap.size ≤ k) (w2.alloc (.cells #[.int .i64 z] 3)) wr2 := ⟨hg2.os, hg2.tape, hg2.output, hg2.size, fun k hk hn => hg2.block k hk (fun h => hn (O2.out.lt k h.symm).1)⟩
        have O3 : Hid (wr2.ownsRow w.heap.size 3 1 (.slice ua um uc) (l ++ [z]).length ((l ++ [z]).map (Value.int .i64))) := by
          refine Lib.hid ?_
          rw [List.map_append, List.length_append]
          exact ho2
        have C3 := Lib.hid (C2.out.frs hfr (fun k hk => by omega))
        have F3 := Lib.hid (F2.out.trans (hfr.mono (q := fun k => k = cb ∨ w.heap.size ≤ k) (fun k hk => .inr hk)))
        clear ho2 hg2 hfr
        go_wp2_with fail
        go_roundw
        case rel => exact ⟨i + 1, l ++ [z], by go_num, by rw [List.length_append, LE.out]; rfl, by omega, O3.out, C3.out, F3.out⟩
        case measure => simp [intOf]; omega
    · have n1 : decide ((i : Int) < n) = false := by simp; omega
      go_wp2_with fail
      refine (l1Once _ cb 24 CU.out (by omega)).mono ?_
      rintro e w2 ⟨b, rfl, hc2, hg2⟩
      have s2 := hg2.size
      have O1 := Lib.hid (O.out.kept hg2 (ownI_far O.out hlt))
      have F1 := Lib.hid (FR.out.trans (FrS.of_one (p := fun k => k = cb ∨ w.heap.size ≤ k) hg2 (.inl rfl)))
      have C1 := Lib.hid hc2
      clear hc2 hg2
      cases b with
      | false =>
        go_wp2_with fail
        go_ret
        exact ⟨_, l, rfl, O1.out, by omega, C1.out, F1.out⟩
      | true =>
        have O2 := Lib.hid (O1.out.kept (World.grownBy_alloc w2 (.cells #[.int .i64 1] 3) none) (by cases (Value.slice va vm vc).ownBlock <;> simp))
        have F2 := Lib.hid (F1.out.alloc (.cells #[.int .i64 1] 3))
        have C2 := Lib.hid (C1.out.alloc (.cells #[.int .i64 1] 3))
        go_wp2_with (at_builtin; refine wpList_append_own_at _ rfl _ _ 24 rfl w.heap.size 3 fi (.int .i64 0) 1 8 underlying_ints hfi hz0 hz1 hz2 rfl (by decide) _ _ _ rfl O2.out ⟨w2.heap.size, 0, none⟩ 1 1 [.int .i64 1] ?hx ?hl ?hnews ?h1 ?h63 ?hbytes ?hbase ?hnext)
        case hx => rfl
        case hl => rfl
        case hnews => exact cellI_new _ _ _
        case h1 => intro v hv; simp at hv; subst hv; rfl
        case h63 => unfold maxLen; omega
        case hbytes => omega
        case hbase => exact F2.out.size
        case hnext =>
          rintro v2 wr2 ho2 hg2 - -
          obtain ⟨ua, um, uc, rfl⟩ := rowsI_form ho2
          have hfr : FrS (fun k => w.heap.size ≤ k) (w2.alloc (.cells #[.int .i64 1] 3)) wr2 := ⟨hg2.os, hg2.tape, hg2.output, hg2.size, fun k hk hn => hg2.block k hk (fun h => hn (O2.out.lt k h.symm).1)⟩
          have O3 : Hid (wr2.ownsRow w.heap.size 3 1 (.slice ua um uc) (l ++ [1]).length ((l ++ [1]).map (Value.int .i64))) := by
            refine Lib.hid ?_
            rw [List.map_append, List.length_append]
            exact ho2
          have C3 := Lib.hid (C2.out.frs hfr (fun k hk => by omega))
          have F3 := Lib.hid (F2.out.trans (hfr.mono (q := fun k => k = cb ∨ w.heap.size ≤ k) (fun k hk => .inr hk)))
          clear ho2 hg2 hfr
          go_wp2_with fail
          go_ret
          exact ⟨_, l ++ [1], rfl, O3.out, by rw [List.length_append]; simp; omega, C3.out, F3.out⟩
end Go.Proofs.YtcapddcmnjeloaaGreatDoor
end

section
/-
  The drawing of a square matrix and of numbers for its rows: nothing that was there changes.
-/
namespace Go.Proofs.YtcapddcmnjeloaaGreatDoor
set_option maxRecDepth 100000
open Go.RowKit
def MatRi (w : World) (e : Ending) (w' : World) : Prop := ∃ (r c : Int) (q : Option Addr) (qc : Nat) (xs : List Int) (qb : Option Addr) (qbc : Nat) (bs : List Int), e = .returned (.tuple #[.agg #[.int .i64 r, .int .i64 c, .slice q xs.length qc], .slice qb bs.length qbc]) ∧ Own w.heap.size w' (.slice q xs.length qc) xs ∧ xs.length ≤ 17 ∧ Own w.heap.size w' (.slice qb bs.length qbc) bs ∧ bs.length ≤ 31 ∧ Below w.heap.size w w'
theorem Own.far9 {B : Nat} {w : World} {v : Value} {zs : List Int} (h : Own B w v zs) {b : Nat} (hb : b < B) (x y z : Value) : Own B (((w.setCell ⟨b, 0, none⟩ x).setCell ⟨b, 1, none⟩ y).setCell ⟨b, 2, none⟩ z) v zs := ((h.far (by exact hb) _).far (by exact hb) _).far (by exact hb) _
set_option maxHeartbeats 4000000 in
theorem l11Draw (w : World) (a : Option Addr) (len cap : Nat) (hc : CodeIn w a len) : Calls Tryz.prog 34 #[.slice a len cap] w (MatRi w) := by
  have HC := Lib.hid hc
  clear hc
  go_enter Tryz.func34, Tryz.ntmps34
  go_wp2_with fail
  refine (l1New _ a len cap (HC.out.below ((Below.refl _ _).alloc (Nat.le_refl _) _))).mono ?_
  rintro e w1 ⟨cb, rfl, hcb, hc1, hb1⟩
  have CB : w.heap.size < cb := by simp at hcb; omega
  have K2 : Hid (Blk3 w1 w.heap.size 26 (.int .i64 0) (.int .i64 0) (.slice none 0 0)) := (Blk3.at_ _ _ _ _ rfl).keep hb1 (by simp)
  have F1 : Hid (FrS (fun k => w.heap.size ≤ k) w w1) := ((FrS.refl _ w).alloc _).trans (FrS.of_below hb1)
  have C1 := Lib.hid hc1
  clear hcb hc1 hb1
  go_wp2_with fail
  refine (l3SquareR _ cb C1.out).mono ?_
  rintro e w2 ⟨r, c, v, xs, rfl, own, hl, hr, hc2, hf⟩
  have s1 := F1.out.size
  have lk := K2.out.lt
  have c1 := C1.out.lt
  obtain ⟨q, qc, rfl, -, -⟩ := (own.own (by omega)).form
  have K2 := Lib.hid ((K2.out.frs hf (by omega)).old (.cells #[.int .i64 r, .int .i64 c, .slice q xs.length qc] 26))
  have F2 := Lib.hid ((F1.out.trans (hf.mono2 (q := fun k => w.heap.size ≤ k) (fun k _ hk => by omega))).alloc (.cells #[.int .i64 r, .int .i64 c, .slice q xs.length qc] 26))
  have C2 := Lib.hid (hc2.alloc (.cells #[.int .i64 r, .int .i64 c, .slice q xs.length qc] 26))
  have O2 : Hid (OwnC w1.heap.size (w2.alloc (.cells #[.int .i64 r, .int .i64 c, .slice q xs.length qc] 26)) (.slice q xs.length qc) xs) := own.frs ((FrS.refl (fun _ => False) w2).alloc _) (fun _ _ h => h)
  have K5 : Hid (Blk3 (w2.alloc (.cells #[.int .i64 r, .int .i64 c, .slice q xs.length qc] 26)) w2.heap.size 26 (.int .i64 r) (.int .i64 c) (.slice q xs.length qc)) := Blk3.at_ _ _ _ _ rfl
  have s2 := hf.size
  have HL := Lib.hid hl
  have HR := Lib.hid hr
  clear own hc2 hf hl hr
  go_upto_region 3 with fail
  obtain ⟨pb, hpb⟩ : ∃ pb, w2.heap.size = pb := ⟨_, rfl⟩
  generalize w2.alloc (.cells #[.int .i64 r, .int .i64 c, .slice q xs.length qc] 26) = W at K2 F2 C2 O2 K5 ⊢
  rw [hpb] at K5 s2 ⊢
  clear hpb
  have lW := K5.out.lt
  refine wp_region_held_drew (S := fun w' => FrS (fun k => k = cb ∨ k = w.heap.size ∨ W.heap.size ≤ k) W w') (by kernel_rfl) (FrS.refl _ _).drew (fun hH => ?_)
  refine wpAnyH_take (i := 0) (v := ?_) (by simp only [List.getElem?_toArray, List.getElem?_cons_zero]; rfl) (by kernel_rfl) (by kernel_rfl) (by kernel_rfl) (by exact fun _ _ _ h => h) (Or.inl ⟨by rfl, ?_⟩) hH ?_
  rotate_left
  · (intro wS hS; (try dsimp only at hS); obtain ⟨k1, k2, k3⟩ := sevenF K5.out hS (by omega); go_simp; try rfl)
  try simp only [Act.put, List.setIfInBounds_toArray, List.set_cons_zero, List.set_cons_succ]
  refine wpAnyH_take (i := 1) (v := ?_) (by simp only [List.getElem?_toArray, List.getElem?_cons_succ, List.getElem?_cons_zero]; rfl) (by kernel_rfl) (by kernel_rfl) (by kernel_rfl) (by exact fun _ _ _ h => h) (Or.inl ⟨by rfl, ?_⟩) hH ?_
  rotate_left
  · (intro wS hS; clear hS; go_simp; try rfl)
  try simp only [Act.put, List.setIfInBounds_toArray, List.set_cons_zero, List.set_cons_succ]
  refine wpAnyH_take (i := 2) (v := ?_) (by simp only [List.getElem?_toArray, List.getElem?_cons_succ, List.getElem?_cons_zero]; rfl) (by kernel_rfl) (by kernel_rfl) (by kernel_rfl) (by exact fun _ _ _ h => h) (Or.inl ⟨by rfl, ?_⟩) hH ?_
  rotate_left
  · (intro wS hS; clear hS; go_simp; try rfl)
  try simp only [Act.put, List.setIfInBounds_toArray, List.set_cons_zero, List.set_cons_succ]
  refine wpAnyH_take (i := 3) (v := ?_) (by simp only [List.getElem?_toArray, List.getElem?_cons_succ, List.getElem?_cons_zero]; rfl) (by kernel_rfl) (by kernel_rfl) (by kernel_rfl) (by exact fun _ _ _ h => h) (Or.inl ⟨by rfl, ?_⟩) hH ?_
  rotate_left
  · (intro wS hS; (try dsimp only at hS); obtain ⟨k1, k2, k3⟩ := sevenF K5.out hS (by omega); go_simp; try rfl)
  try simp only [Act.put, List.setIfInBounds_toArray, List.set_cons_zero, List.set_cons_succ]
  refine wpAnyH_ready (rs := [4]) (by kernel_rfl) (by simp) ?_
  refine AllReadyH.cons (by simp only [List.getElem?_toArray, List.getElem?_cons_succ, List.getElem?_cons_zero]; rfl) (fun K hK => ?_) AllReadyH.nil
  go_simp
  have CD : Cur W.drew cb := C2.out
  (with_reducible refine (l8Right _ cb _ CD HR.out).mono ?_)
  rintro e v6 ⟨v, bs, rfl, own6, hl6, hc6, hf6⟩
  obtain ⟨qb, qbc, rfl, -, -⟩ := (Own.of_row own6 (by omega)).form
  try dsimp only
  refine hK.out _ _ ?_ (fun hH2 => ?_)
  · exact hH.trans (hf6.mono (fun k hk => by have := hH.size; simp at hk ⊢; omega))
  clear hK K hH
  have hH := hH2
  clear hH2
  try simp only [Act.put, List.setIfInBounds_toArray, List.set_cons_zero, List.set_cons_succ]
  have hf7 : FrS (fun k => k = cb ∨ W.heap.size ≤ k) W v6 := ⟨hf6.os, hf6.tape, hf6.output, hf6.size, hf6.block⟩
  have s6 := hf7.size
  have K2 := Lib.hid (K2.out.frs hf7 (by omega))
  have O6 := Lib.hid (O2.out.frs2 hf7 (fun k hk hk2 => by omega))
  have L6 := Lib.hid own6
  have HL6 := Lib.hid hl6
  have C6 := Lib.hid hc6
  have F6 := Lib.hid (F2.out.trans (hf7.mono2 (q := fun k => w.heap.size ≤ k) (fun k _ hk => by omega)))
  have cW : cb < W.drew.heap.size := C2.out.lt
  clear own6 hl6 hc6 hf6 hf7
  refine wpAnyH_ready (rs := [5]) (by kernel_rfl) (by simp) ?_
  refine AllReadyH.cons (by simp only [List.getElem?_toArray, List.getElem?_cons_succ, List.getElem?_cons_zero]; rfl) (fun K hK => ?_) AllReadyH.nil
  obtain ⟨y0, y1, y2, y3, y4, y5⟩ := K2.out.all
  have FX := Lib.hid (hH.set3 (b := w.heap.size) (.inl (.inr (.inl rfl))) (.int .i64 r) (.int .i64 c) (.slice q xs.length qc))
  clear hH
  go_simp
  refine hK.out _ _ ?_ (fun hH2 => ?_)
  · exact FX.out
  clear hK K
  have hH := hH2
  clear hH2
  try simp only [Act.put, List.setIfInBounds_toArray, List.set_cons_zero, List.set_cons_succ]
  refine wpAnyH_take (i := 6) (v := ?_) (by simp only [List.getElem?_toArray, List.getElem?_cons_succ, List.getElem?_cons_zero]; rfl) (by kernel_rfl) (by kernel_rfl) (by kernel_rfl) (by exact fun _ _ _ h => h) (Or.inl ⟨by rfl, ?_⟩) hH ?_
  rotate_left
  · (intro wS hS; clear hS; go_simp; try rfl)
  try simp only [Act.put, List.setIfInBounds_toArray, List.set_cons_zero, List.set_cons_succ]
  refine wpAnyH_done (by kernel_rfl) ?_ _
  have FIN : Hid (MatRi w (.returned (.tuple #[.agg #[.int .i64 r, .int .i64 c, .slice q xs.length qc], .slice qb bs.length qbc])) (((v6.setCell ⟨w.heap.size, 0, none⟩ (.int .i64 r)).setCell ⟨w.heap.size, 1, none⟩ (.int .i64 c)).setCell ⟨w.heap.size, 2, none⟩ (.slice q xs.length qc))) := by
    have hw : w.heap.size < W.drew.heap.size := by show w.heap.size < W.heap.size; omega
    refine ⟨r, c, q, qc, xs, qb, qbc, bs, rfl, ((O6.out.out3 K2.out (.int .i64 r) (.int .i64 c) (.slice q xs.length qc)).own (by have := HL.out; omega)).le (by omega), HL.out, ?_, HL6.out, ?_⟩
    · exact ((Own.of_row L6.out (by have := HL6.out; omega)).far9 hw _ _ _).le (Nat.le_of_lt hw)
    · exact (((F6.out.below (fun k hk => hk) (Nat.le_refl _)).setCell (Nat.le_refl _) _).setCell (Nat.le_refl _) _).setCell (Nat.le_refl _) _
  obtain ⟨E0, E1, E2, -, -, -⟩ := (K2.out.set3 (.int .i64 r) (.int .i64 c) (.slice q xs.length qc)).all
  go_wp2_with fail
  all_goals exact bodyPost_ret (v := .tuple #[.agg #[.int .i64 r, .int .i64 c, .slice q xs.length qc], .slice qb bs.length qbc]) (by simp [results, Tryz.results34, go_sem, E0, E1, E2]) rfl FIN.out
set_option maxHeartbeats 2000000 in
theorem drawSd (w : World) (a : Option Addr) (len cap : Nat) (hc : CodeIn w a len) : Calls Tryz.prog 7 #[.slice a len cap] w (MatRi w) := by
  have HC := Lib.hid hc
  clear hc
  go_enter Tryz.func7, Tryz.ntmps7
  go_wp2_with fail
  refine (l11Draw _ a len cap (HC.out.below ((Below.refl _ _).alloc (Nat.le_refl _) _))).mono ?_
  rintro e w1 ⟨r, c, q, qc, xs, qb, qbc, bs, rfl, o1, l1, o2, l2, hb⟩
  have K : Hid (Blk3 w1 w.heap.size 26 (.int .i64 0) (.int .i64 0) (.slice none 0 0)) := (Blk3.at_ _ _ _ _ rfl).keep hb (by simp)
  have B : Hid (Below w.heap.size w w1) := ((Below.refl _ _).alloc (Nat.le_refl _) _).trans (hb.mono (by simp))
  have O1 := Lib.hid o1
  have O2 := Lib.hid o2
  have L1 := Lib.hid l1
  have L2 := Lib.hid l2
  clear hb o1 o2 l1 l2
  obtain ⟨y0, y1, y2, y3, y4, y5⟩ := K.out.all
  have hw : w.heap.size < (w.alloc (.cells #[.int .i64 0, .int .i64 0, .slice none 0 0] 26)).heap.size := by simp
  have FIN : Hid (MatRi w (.returned (.tuple #[.agg #[.int .i64 r, .int .i64 c, .slice q xs.length qc], .slice qb bs.length qbc])) (((w1.setCell ⟨w.heap.size, 0, none⟩ (.int .i64 r)).setCell ⟨w.heap.size, 1, none⟩ (.int .i64 c)).setCell ⟨w.heap.size, 2, none⟩ (.slice q xs.length qc))) := by
    refine ⟨r, c, q, qc, xs, qb, qbc, bs, rfl, (O1.out.far9 hw _ _ _).le (by simp), L1.out, (O2.out.far9 hw _ _ _).le (by simp), L2.out, ?_⟩
    exact ((B.out.setCell (Nat.le_refl _) _).setCell (Nat.le_refl _) _).setCell (Nat.le_refl _) _
  go_wp2_with fail
  obtain ⟨E0, E1, E2, -, -, -⟩ := (K.out.set3 (.int .i64 r) (.int .i64 c) (.slice q xs.length qc)).all
  exact bodyPost_ret (v := .tuple #[.agg #[.int .i64 r, .int .i64 c, .slice q xs.length qc], .slice qb bs.length qbc]) (by simp [results, Tryz.results7, go_sem, E0, E1, E2]) rfl FIN.out
end Go.Proofs.YtcapddcmnjeloaaGreatDoor
end

section
/-
  Chapter 2, the laws' own helpers: a ratio carried over, two ratios held against each other.
-/
namespace Go.Proofs.YtcapddcmnjeloaaGreatDoor
open Go.RowKit
end Go.Proofs.YtcapddcmnjeloaaGreatDoor
end
