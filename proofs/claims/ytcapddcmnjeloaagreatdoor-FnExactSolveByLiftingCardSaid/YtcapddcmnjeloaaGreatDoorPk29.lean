/-
  Texts of this seat, joined: ZCPrI3 · ZCNumIDiv · ZCCopyI · ZCEchB · ZCSgMath · ZCLdI · ZCPmI · ZCRdI · ZCIvI · ZCDmI · ZCCmI · ZCPvR · ZCDoneI · ZCFoldM · ZCSwR · ZCClI · ZCEcI · ZCElI · ZCRkI
-/
import Derived.Shelf.Abstract
import Derived.WalkKit
import Derived.OwnWalkIn
import Derived.TacticsInMore
import Derived.LoopNIn
import Derived.LoopIn
import Derived.Maps.AppendAt
import Derived.Test.YtcapddcmnjeloaaGreatDoorRows
import Derived.BigQuiet
import Derived.Deep.QuietTactic
import Derived.Lib.Hide
import Derived.Deep.RegionHeld3
import Derived.Deep.DeepCutAuto
import Derived.IntWalk
import Derived.StillTailTactics
import Derived.Test.YtcapddcmnjeloaaGreatDoorPk23
import Derived.Test.YtcapddcmnjeloaaGreatDoorPk24
import Derived.Test.YtcapddcmnjeloaaGreatDoorPk25
import Derived.Test.YtcapddcmnjeloaaGreatDoorPk26
import Derived.Test.YtcapddcmnjeloaaGreatDoorPk28

section
/-
  Chapter 8, in the program: the iterator over primes; IsPrime.
-/
namespace Go.Proofs.YtcapddcmnjeloaaGreatDoor
set_option maxRecDepth 100000
open Go.RowKit Go.Shelf
attribute [local go_sem] Oper.semAt_some
abbrev PrmQ := { q : Nat // q < 10001 ∧ prmB (q : Int) = true }
def prmV (ys : List PrmQ) : List Int := ys.map fun x => (x.1 : Int)
theorem prmV_snoc (ys : List PrmQ) (x : PrmQ) : prmV (ys ++ [x]) = prmV ys ++ [(x.1 : Int)] := by simp [prmV]
theorem prmV_length (ys : List PrmQ) : (prmV ys).length = ys.length := List.length_map ..
def leftX (w : World) (v : Value) : Nat := match v with
  | .pointer (some a) => match w.cell? a with
    | some (.int _ z) => 10001 - z.toNat
    | _ => 0
  | _ => 0
theorem leftX_at {w : World} {b m : Nat} (h : w.cell? ⟨b, 0, none⟩ = some (.int .i64 (m : Int))) : leftX w (.pointer (some ⟨b, 0, none⟩)) = 10001 - m := by
  unfold leftX
  simp [h]
theorem prmTo_get {m k : Nat} (hk : k < (prmTo m).length) : (prmTo m).getD k 0 ∈ prmTo m := by
  have : (prmTo m).getD k 0 = (prmTo m)[k] := by simp [List.getD, hk]
  rw [this]
  exact List.getElem_mem hk
theorem prmTo_two_le {m k : Nat} (hk : k < (prmTo m).length) : 2 ≤ (prmTo m).getD k 0 := by
  obtain ⟨q, e, -, h⟩ := prmTo_mem.mp (prmTo_get hk)
  have := (prmB_says h).1.1
  omega
theorem prm_test {m : Nat} (h1 : 2 ≤ m) (h2 : m ≤ 10000) : (!prmB (m : Int)) = true ↔ ∃ k, k < (prmTo m).length ∧ (m : Int) % (prmTo m).getD k 0 = 0 := by
  constructor
  · intro h
    refine Classical.byContradiction fun hn => ?_
    have : prmB (m : Int) = true := (prm_iff h1 h2).mpr fun x hx he => by
      obtain ⟨k, hk, e⟩ := List.getElem_of_mem hx
      exact hn ⟨k, hk, by rw [show (prmTo m).getD k 0 = x by simp [List.getD, hk, e]]; exact he⟩
    rw [this] at h
    cases h
  · rintro ⟨k, hk, he⟩
    cases hp : prmB (m : Int) with
    | false => rfl
    | true => exact absurd he ((prm_iff h1 h2).mp hp _ (prmTo_get hk))
structure ItSt (J : List PrmQ → World → Prop) (B m b : Nat) (q : Option Addr) (qc : Nat) (pre : List PrmQ) (wr : World) : Prop where
  own : OwnQ B wr (.slice q (prmTo m).length qc) (prmTo m)
  box : Blk1 wr b 3 (.int .i64 m)
  ge : B ≤ b
  ne : (Value.slice q (prmTo m).length qc).ownBlock ≠ some b
  pre_ : prmV pre = prmTo m
  j : J pre wr
  sz : B ≤ wr.heap.size
theorem ItSt.kept {J : List PrmQ → World → Prop} {B m b : Nat} {q : Option Addr} {qc : Nat} {pre : List PrmQ} {wr w' : World} (h : ItSt J B m b q qc pre wr) (hk : KpX B wr w') :
    OwnQ B w' (.slice q (prmTo m).length qc) (prmTo m) ∧ Blk1 w' b 3 (.int .i64 m) ∧ B ≤ w'.heap.size :=
  ⟨h.own.move fun k e => hk.2 k (h.own.le e) (h.own.lt e), hk.at_ h.ge h.box, Nat.le_trans h.sz hk.1⟩
theorem ItSt.next {J : List PrmQ → World → Prop} {B m : Nat} {v : Value} {q : Option Addr} {qc : Nat} {pre : List PrmQ} {wr : World} (hab : AbX B J) (hv : v = .slice q (prmTo (m + 1)).length qc) (ho : OwnQ B wr v (prmTo (m + 1))) (hp : prmV pre = prmTo (m + 1)) (hj : J pre wr) (hs : B ≤ wr.heap.size) (z : Int) (hz : z = ((m + 1 : Nat) : Int)) :
    ItSt J B (m + 1) wr.heap.size q qc pre (wr.alloc (.cells #[.int .i64 z] 3)) := by
  subst hv hz
  exact ⟨ho.move fun k e => Below.heap_alloc wr _ k (ho.lt e), Blk1.at_ _ _ rfl, hs, fun e => by have := ho.lt e; omega, hp, hab.old hj _, by simp; omega⟩
set_option maxHeartbeats 4000000 in
theorem seqPrimes (n : Nat) (hn : 1 ≤ n) : SeqX Fence.wide n Tryz.prog 103 (fun x : PrmQ => #[Value.int .i64 (x.1 : Int)]) (fun ys => prmV ys = prmTo 10001) (fun pre => ∃ (ini : List PrmQ) (x : PrmQ), pre = ini ++ [x] ∧ prmV ini = prmTo x.1) 10001 := by
  intro l J Jx W hJ hJx hY h0
  have AJ := Lib.hid hJ
  have YY := Lib.hid hY
  clear hJ hJx hY
  have o0 : OwnQ W.heap.size (W.alloc (.cells #[] 3)) (.slice (some ⟨W.heap.size, 0, none⟩) 0 0) [] := OwnQ.none_ (Nat.le_refl _) ⟨Nat.zero_le _, [], rfl, heap_alloc_new W _⟩
  have S0 : Hid (ItSt J W.heap.size 2 (W.heap.size + 1) (some ⟨W.heap.size, 0, none⟩) 0 [] ((W.alloc (.cells #[] 3)).alloc (.cells #[.int .i64 2] 3))) := by
    refine ⟨?_, Blk1.at_ _ _ (by simp), by omega, by rw [prmTo_two]; simp [Value.ownBlock], by rw [prmTo_two]; rfl, AJ.out.old (AJ.out.old h0 _) _, by simp; omega⟩
    rw [prmTo_two]
    exact o0.move fun k e => Below.heap_alloc _ _ k (o0.lt e)
  clear o0
  refine callsIn_of_wp Tryz.func103 rfl trivial ?_ rfl
  simp only [Tryz.ntmps103, List.size_toArray, List.length_cons, List.length_nil, Nat.reduceAdd, Nat.reduceSub, Array.replicate_succ, Array.replicate_zero, List.push_toArray, List.append_toArray, List.nil_append, List.cons_append]
  gi_wp2
  gi_loopw [2, 3] (fun v2 v3 wr => ∃ (m b : Nat) (q : Option Addr) (qc : Nat) (pre : List PrmQ), v2 = .slice q (prmTo m).length qc ∧ v3 = .pointer (some ⟨b, 0, none⟩) ∧ 2 ≤ m ∧ m ≤ 10001 ∧ ItSt J W.heap.size m b q qc pre wr) (fun _ v3 wr => leftX wr v3)
  case atStart => exact ⟨2, _, _, _, [], by rw [prmTo_two]; rfl, rfl, by omega, by omega, S0.out⟩
  case round =>
    clear S0 h0
    obtain ⟨m, b, q, qc, pre, rfl, rfl, hm1, hm2, hS⟩ := hrel
    have S := Lib.hid hS
    have hc := hS.box.cell0
    have hLX := Lib.hid (leftX_at hc)
    have hL := prmTo_length m
    clear hS
    by_cases hlt : m ≤ 10000
    · have hcon := Lib.hid (iContains m b qc (prmTo m).length q (prmTo m) wr (S.out.own.own (by omega)).rdq rfl hc (by omega) (fun k hk => prmTo_two_le hk) (by omega) (!prmB (m : Int)) (prm_test hm1 hlt))
      have NX : Hid (∀ (v : Value) (q' : Option Addr) (qc' : Nat) (pre' : List PrmQ) (w' : World), v = .slice q' (prmTo (m + 1)).length qc' → OwnQ W.heap.size w' v (prmTo (m + 1)) → prmV pre' = prmTo (m + 1) → J pre' w' → W.heap.size ≤ w'.heap.size → ∀ z : Int, z = ((m + 1 : Nat) : Int) → ItSt J W.heap.size (m + 1) w'.heap.size q' qc' pre' (w'.alloc (.cells #[.int .i64 z] 3))) := fun v q' qc' pre' w' hv ho hp hj hs z hz => ItSt.next AJ.out hv ho hp hj hs z hz
      have LM : Hid (10001 - (m + 1) < 10001 - m) := by show _ < _; omega
      rcases Bool.eq_false_or_eq_true (prmB (m : Int)) with hp | hp
      · have PS : Hid (prmTo (m + 1) = prmTo m ++ [(m : Int)]) := by show _ = _; rw [prmTo_succ, if_pos hp]
        have PP : Hid (m < 10001 ∧ prmB (m : Int) = true) := ⟨by omega, hp⟩
        rw [hp] at hcon
        clear hp
        have PL : Hid (pre.length = (prmTo m).length) := by
          show _ = _
          rw [← prmV_length, S.out.pre_]
        obtain ⟨fn, tmps, assign, body, hy, hR⟩ := YY.out pre ⟨m, PP.out⟩ wr S.out.j (by rw [PL.out]; omega)
        dsimp only at hy
        gi_wp2_with (refine ⟨trivial, ?_⟩; gi_at_call 104; refine (callsIn_wide.2 hcon.out).mono ?_; rintro e w' ⟨rfl, rfl⟩)
        refine hR.mono ?_
        rintro e W3 (⟨rfl, hJ3, hk3⟩ | ⟨rfl, hJx3⟩)
        · obtain ⟨o3, b3, s3⟩ := S.out.kept hk3
          have O3 := Lib.hid o3
          have N3 := Lib.hid S.out.ne
          have B3 := Lib.hid b3
          have J3 := Lib.hid hJ3
          have hc3 := b3.cell0
          have PV : Hid (prmV (pre ++ [⟨m, PP.out⟩]) = prmTo (m + 1)) := by
            show _ = _
            rw [prmV_snoc, S.out.pre_, PS.out]
          clear hk3 o3 b3 hJ3 hR hy
          obtain ⟨fi, hfi, hz0, hz1, hz2⟩ := facts_int
          have HO : Hid ((W3.alloc (.cells #[.int .i64 m] 3)).ownsRow W.heap.size 3 1 (.slice q (prmTo m).length qc) (prmTo m).length ((prmTo m).map (Value.int .i64))) := by
            have h1 := O3.out.keep ((Below.refl _ _).alloc (Nat.le_refl _) (.cells #[.int .i64 m] 3))
            unfold OwnQ at h1
            exact h1
          gi_wp2_with (gi_at_builtin; refine wpListIn_append_own _ rfl _ _ 24 rfl W.heap.size 3 fi (.int .i64 0) 1 8 underlying_ints hfi hz0 hz1 hz2 rfl (by decide) _ _ _ rfl HO.out ⟨W3.heap.size, 0, none⟩ 1 1 [.int .i64 m] ?hx ?hl ?hnews ?h1 ?h63 ?hbytes ?hbase ?hnext)
          case hx => rfl
          case hl => rfl
          case hnews => exact cell_one_new _ _ _
          case h1 => intro v hv; simp at hv; subst hv; rfl
          case h63 => unfold maxLen; omega
          case hbytes => omega
          case hbase => simp; omega
          case hnext =>
            rintro v' w7 ho hg7 -
            have O7 : OwnQ W.heap.size w7 v' (prmTo (m + 1)) := by
              unfold OwnQ
              rw [PS.out, List.map_append, List.length_append]
              exact ho
            have b7 : Blk1 w7 b 3 (.int .i64 m) := (hg7.block b (by have := B3.out.lt; simp; omega) (fun e => N3.out e.symm)).trans ((Below.heap_alloc _ _ b B3.out.lt).trans B3.out)
            have s7 := hg7.size
            simp at s7
            have j7 : J (pre ++ [⟨m, PP.out⟩]) w7 := AJ.out _ _ _ _ (AJ.out.old J3.out _) hg7 (fun r e => O3.out.le e)
            obtain ⟨q', qc', hv'⟩ := O7.form
            have hc7 := b7.cell0
            have N7 := Lib.hid (NX.out v' q' qc' _ w7 hv' O7 PV.out j7 (by omega))
            subst hv'
            clear O7 ho hg7 b7 j7
            have ez : (m : Int) + 1 = ((m + 1 : Nat) : Int) := by omega
            have N8 := Lib.hid (N7.out ((m : Int) + 1) ez)
            clear ez
            gi_wp2
            go_roundw
            case rel => exact ⟨m + 1, _, q', qc', _, rfl, rfl, by omega, by omega, N8.out⟩
            case measure =>
              rw [hLX.out, leftX_at N8.out.box.cell0]
              exact LM.out
        · gi_wp2
          refine bodyPost_ret (results_none rfl _ _ _) rfl ?_
          exact ⟨⟨_, rfl⟩, .inr ⟨_, ⟨pre, ⟨m, PP.out⟩, rfl, S.out.pre_⟩, hJx3⟩⟩
      · have PS : Hid (prmTo (m + 1) = prmTo m) := by show _ = _; rw [prmTo_succ, if_neg (by rw [hp]; decide)]
        rw [hp] at hcon
        clear hp
        gi_wp2_with (refine ⟨trivial, ?_⟩; gi_at_call 104; refine (callsIn_wide.2 hcon.out).mono ?_; rintro e w' ⟨rfl, rfl⟩)
        have ez : (m : Int) + 1 = ((m + 1 : Nat) : Int) := by omega
        have N8 := Lib.hid (NX.out (.slice q (prmTo m).length qc) q qc pre wr (by rw [PS.out]) (by rw [PS.out]; exact S.out.own) (by rw [PS.out]; exact S.out.pre_) S.out.j S.out.sz ((m : Int) + 1) ez)
        clear ez
        go_roundw
        case rel => exact ⟨m + 1, _, q, qc, pre, by rw [PS.out], rfl, by omega, by omega, N8.out⟩
        case measure =>
          rw [hLX.out, leftX_at N8.out.box.cell0]
          exact LM.out
    · obtain rfl : m = 10001 := by omega
      gi_wp2
      go_end0
      exact ⟨⟨_, rfl⟩, .inl ⟨pre, S.out.pre_, S.out.j⟩⟩
theorem iPrimes (w : World) : Calls Tryz.prog 61 #[] w fun e w' => e = .returned (.func (.func 103) #[] #[]) ∧ w = w' := by
  go_enter Tryz.func61, Tryz.ntmps61
  go_wp2_with fail
  go_ret
  exact ⟨rfl, rfl⟩
def prI (w : World) (p : Int) (pre : List PrmQ) (W : World) : Prop := (∀ x ∈ pre, (x.1 : Int) * (x.1 : Int) ≤ p ∧ p % (x.1 : Int) ≠ 0) ∧ Blk1 W w.heap.size 3 (.int .i64 p) ∧ Blk1 W (w.heap.size + 1) 4 (.bool false) ∧ Below w.heap.size w W
def prX (w : World) (p : Int) (c : Code) (pre : List PrmQ) (W : World) : Prop :=
  (∃ (ini : List PrmQ) (x : PrmQ), pre = ini ++ [x] ∧ (∀ y ∈ ini, p % (y.1 : Int) ≠ 0) ∧ ((c = .exit 0 ∧ p < (x.1 : Int) * (x.1 : Int)) ∨ (c = .ret ∧ (x.1 : Int) * (x.1 : Int) ≤ p ∧ p % (x.1 : Int) = 0))) ∧ Blk1 W (w.heap.size + 1) 4 (.bool false) ∧ Below w.heap.size w W
theorem prI.ab (w : World) (p : Int) : AbX (w.heap.size + 2) (prI w p) := fun s A B row hs hg hr => by
  obtain ⟨h1, h2, h3, h4⟩ := hs
  exact ⟨h1, (hg.block _ h2.lt (fun e => by have := hr _ e.symm; omega)).trans h2, (hg.block _ h3.lt (fun e => by have := hr _ e.symm; omega)).trans h3, h4.grown hg h4.size (fun k e => by have := hr _ e; omega)⟩
theorem prX.ab (w : World) (p : Int) (c : Code) : AbX (w.heap.size + 2) (prX w p c) := fun s A B row hs hg hr => by
  obtain ⟨h1, h3, h4⟩ := hs
  exact ⟨h1, (hg.block _ h3.lt (fun e => by have := hr _ e.symm; omega)).trans h3, h4.grown hg h4.size (fun k e => by have := hr _ e; omega)⟩
theorem prm_done {p : Int} {ys : List PrmQ} (h1 : 2 ≤ p) (h2 : p ≤ 10000) (hS : prmV ys = prmTo 10001) (h : ∀ x ∈ ys, (x.1 : Int) * (x.1 : Int) ≤ p ∧ p % (x.1 : Int) ≠ 0) : prmB p = true := by
  cases hp : prmB p with
  | true => rfl
  | false =>
    obtain ⟨q, hq, hqp, -, he⟩ := not_prm h1 h2 hp
    have : (q : Int) ∈ prmV ys := by rw [hS]; exact prmTo_mem.mpr ⟨q, rfl, hq, hqp⟩
    obtain ⟨x, hx, e⟩ := List.mem_map.mp this
    rw [← e] at he
    exact absurd he (h x hx).2
theorem prm_broke {p : Int} {ini : List PrmQ} {x : PrmQ} (h1 : 2 ≤ p) (h2 : p ≤ 10000) (hS : prmV ini = prmTo x.1) (h : ∀ y ∈ ini, p % (y.1 : Int) ≠ 0) (hx : p < (x.1 : Int) * (x.1 : Int)) : prmB p = true := by
  cases hp : prmB p with
  | true => rfl
  | false =>
    obtain ⟨q, hq, hqp, hqq, he⟩ := not_prm h1 h2 hp
    rcases Nat.lt_or_ge q x.1 with h3 | h3
    · have : (q : Int) ∈ prmV ini := by rw [hS]; exact prmTo_mem.mpr ⟨q, rfl, h3, hqp⟩
      obtain ⟨y, hy, e⟩ := List.mem_map.mp this
      rw [← e] at he
      exact absurd he (h y hy)
    · have h4 : x.1 * x.1 ≤ q * q := Nat.mul_le_mul h3 h3
      have h5 : ((x.1 * x.1 : Nat) : Int) ≤ ((q * q : Nat) : Int) := Int.ofNat_le.mpr h4
      rw [Int.natCast_mul, Int.natCast_mul] at h5
      omega
theorem prm_hit {p : Int} {x : PrmQ} (hx : (x.1 : Int) * (x.1 : Int) ≤ p) (he : p % (x.1 : Int) = 0) : prmB p = false :=
  prmB_div (d := x.1) (by have := (prmB_says x.2.2).1.1; omega) hx (Int.dvd_of_emod_eq_zero he)
theorem put_blk {W : World} {b D : Nat} {t : TypeId} {v : Value} (h : Blk1 W b t v) (hne : b ≠ D) (o : Obj) : Blk1 (W.putObj D o) b t v := (World.putObj_heap_other hne).trans h
set_option maxHeartbeats 2000000 in
theorem iPrime_in (p : Int) (w : World) (h1 : 2 ≤ p) (h2 : p ≤ 10000) : Calls Tryz.prog 150 #[.int .i64 p] w fun e w' => e = .returned (.bool (prmB p)) ∧ Below w.heap.size w w' := by
  have HT := Lib.hid (fun ys (hS : prmV ys = prmTo 10001) (h : ∀ x ∈ ys, (x.1 : Int) * (x.1 : Int) ≤ p ∧ p % (x.1 : Int) ≠ 0) => prm_done h1 h2 hS h)
  have HB := Lib.hid (fun (ini : List PrmQ) (x : PrmQ) (hS : prmV ini = prmTo x.1) (h : ∀ y ∈ ini, p % (y.1 : Int) ≠ 0) (hx : p < (x.1 : Int) * (x.1 : Int)) => prm_broke h1 h2 hS h hx)
  have HF := Lib.hid (fun (x : PrmQ) (hx : (x.1 : Int) * (x.1 : Int) ≤ p) (he : p % (x.1 : Int) = 0) => prm_hit hx he)
  generalize prmB p = bp at HT HB HF ⊢
  refine (callsIn_wide (n := 4)).1 ?_
  refine callsIn_of_wp_marks Tryz.func150 rfl trivial ?_ rfl
  simp only [Tryz.ntmps150, List.size_toArray, List.length_cons, List.length_nil, Nat.reduceAdd, Nat.reduceSub, Array.replicate_succ, Array.replicate_zero, List.push_toArray, List.append_toArray, List.nil_append, List.cons_append]
  gi_wp2_with (refine ⟨trivial, ?_⟩; gi_at_call 61; refine (callsIn_wide.2 (iPrimes _)).mono ?_; rintro e w' ⟨rfl, rfl⟩)
  have k0 : Blk1 ((w.alloc (.cells #[.int .i64 p] 3)).alloc (.cells #[.bool false] 4)) w.heap.size 3 (.int .i64 p) := (Blk1.at_ _ _ rfl).old _
  have k1 : Blk1 ((w.alloc (.cells #[.int .i64 p] 3)).alloc (.cells #[.bool false] 4)) (w.heap.size + 1) 4 (.bool false) := Blk1.at_ _ _ (by simp)
  have B0 : Below w.heap.size w ((w.alloc (.cells #[.int .i64 p] 3)).alloc (.cells #[.bool false] 4)) := ((Below.refl _ w).alloc (Nat.le_refl _) _).alloc (by simp) _
  have SZ : ((w.alloc (.cells #[.int .i64 p] 3)).alloc (.cells #[.bool false] 4)).heap.size = w.heap.size + 2 := by simp
  generalize (w.alloc (.cells #[.int .i64 p] 3)).alloc (.cells #[.bool false] 4) = W0 at k0 k1 B0 SZ ⊢
  refine wpIn_rangeX (F := Fence.wide) rfl (by omega) (gf := 103) rfl trivial (enters_of Tryz.func103 (by kernel_rfl) rfl) (seqPrimes 3 (by omega)) (fun _ => rfl) (prI w p) (prX w p) (by rw [SZ]; exact prI.ab w p) (fun c => by rw [SZ]; exact prX.ab w p c) ⟨by simp, k0, k1, B0⟩
    (fun x => { tmps := #[.int .i64 p, .pointer (some ⟨w.heap.size, 0, none⟩), .pointer (some ⟨w.heap.size + 1, 0, none⟩), .int .i64 (x.1 : Int), .int .i64 p, .bool (decide (p < 2)), .bool (decide (p < 2)), .int .i64 p, .bool (decide (10000 < p)), .bool (decide (p < 2) || decide (10000 < p)), .func (.func 103) #[] #[], .int .i64 (x.1 : Int), undef, undef, undef, undef, undef, undef, undef, undef, undef], defers := [] }) ?assign ?body ?done ?stop
  case assign =>
    intro l x W K hK
    gi_wp2
    exact hK
  case body =>
    rintro l pre x W ⟨hp, hb1, hb2, hB⟩ _
    have HP := Lib.hid hp
    have B2 := Lib.hid hb2
    have BB := Lib.hid hB
    have hc := hb1.cell0
    have hc2 := hb2.cell0
    have hf2 := hb2.free 0
    have x1 := (prmB_says x.2.2).1.1
    have x2 := x.2.1
    obtain ⟨d, hd⟩ : ∃ d : Nat, x.1 = d := ⟨_, rfl⟩
    have D := Lib.hid hd
    rw [hd] at x1 x2
    clear hp hB
    have q0 : (d : Int) * (d : Int) = ((d * d : Nat) : Int) := (Int.natCast_mul _ _).symm
    have q1 : d * d ≤ 10001 * 10001 := Nat.mul_le_mul (by omega) (by omega)
    have w1 : IntKind.i64.wrap ((d : Int) * (d : Int)) = (d : Int) * (d : Int) := IntWalk.i64_in _ (by rw [q0]; omega)
    obtain ⟨q, hq⟩ : ∃ q : Int, (d : Int) * (d : Int) = q := ⟨_, rfl⟩
    have HQ := Lib.hid hq
    rw [hq] at w1
    have w1 : IntKind.i64.wrap ((d : Int) * (d : Int)) = q := by rw [hq]; exact w1
    have n0 : ((d : Int) == 0) = false := by simp; omega
    rw [hd]
    clear q0 q1 hq hd
    by_cases h3 : p < q
    · have X : Hid (p < (x.1 : Int) * (x.1 : Int)) := by show _ < _; rw [D.out, HQ.out]; exact h3
      gi_wp2
      exact ⟨KpX.refl _ _, ⟨pre, x, rfl, fun y hy => (HP.out y hy).2, .inl ⟨rfl, X.out⟩⟩, B2.out, BB.out⟩
    · have X : Hid ((x.1 : Int) * (x.1 : Int) ≤ p) := by show _ ≤ _; rw [D.out, HQ.out]; omega
      by_cases h4 : p % (d : Int) = 0
      · have n1 : (p % (d : Int) == 0) = true := by simp [h4]
        have Y : Hid (p % (x.1 : Int) = 0) := by show _ = _; rw [D.out]; exact h4
        clear h4
        gi_wp2
        exact ⟨KpX.set W (by show w.heap.size + 1 < w.heap.size + 2; omega) _, ⟨pre, x, rfl, fun y hy => (HP.out y hy).2, .inr ⟨rfl, X.out, Y.out⟩⟩, B2.out.set0 _, BB.out.setCell (by simp) _⟩
      · have n1 : (p % (d : Int) == 0) = false := by simpa using h4
        have Y : Hid (p % (x.1 : Int) ≠ 0) := by show _ ≠ _; rw [D.out]; exact h4
        clear h4
        gi_wp2
        exact ⟨KpX.refl _ _, fun y hy => (List.mem_append.1 hy).elim (HP.out y) (fun e => by simp at e; subst e; exact ⟨X.out, Y.out⟩), hb1, B2.out, BB.out⟩
  case done =>
    rintro ys W hS ⟨hp, hb1, hb2, hB⟩ hK
    have HR : Hid (bp = true) := HT.out ys hS hp
    have b3 := hb2.set0 (.bool true)
    have hK' : (W.setCell ⟨w.heap.size + 1, 0, none⟩ (.bool true)).heap[W0.heap.size]? = some (.deferred (some [])) := (Below.heap_setCell W ⟨w.heap.size + 1, 0, none⟩ (.bool true) _ (by show W0.heap.size ≠ w.heap.size + 1; omega)).trans hK
    have hc := hb2.cell0
    have hf := hb2.free 0
    clear hp HT HB HF
    gi_wp2
    refine ⟨by simp, .inl ⟨_, _, rfl, run_takeDeferred hK', ?_⟩⟩
    have hc5 := (put_blk b3 (D := W0.heap.size) (by omega) (.deferred none)).cell0
    refine ⟨.bool true, by simp [results, Tryz.f150, go_sem, hc5], by rw [HR.out], ?_⟩
    exact (hB.setCell (p := ⟨w.heap.size + 1, 0, none⟩) (by simp) _).grown (grownBy_putObj' _ _ _) (by have := hB.size; simp [World.setCell]; omega) (fun k e => by cases e; omega)
  case stop =>
    rintro c pre W ⟨ini, x, e, hS⟩ ⟨⟨ini', x', e', hi, hx⟩, hb2, hB⟩ hK
    rw [e] at e'
    obtain ⟨rfl, e5⟩ := List.append_inj' e' rfl
    obtain rfl : x = x' := by simpa using e5
    have hc := hb2.cell0
    have hf := hb2.free 0
    rcases hx with ⟨rfl, hx⟩ | ⟨rfl, hx1, hx2⟩
    · have HR : Hid (bp = true) := HB.out _ x hS hi hx
      have b3 := hb2.set0 (.bool true)
      have hK' : (W.setCell ⟨w.heap.size + 1, 0, none⟩ (.bool true)).heap[W0.heap.size]? = some (.deferred (some [])) := (Below.heap_setCell W ⟨w.heap.size + 1, 0, none⟩ (.bool true) _ (by show W0.heap.size ≠ w.heap.size + 1; omega)).trans hK
      clear hi hx HT HB HF e5 e' e
      gi_wp2
      refine ⟨by simp, .inl ⟨_, _, rfl, run_takeDeferred hK', ?_⟩⟩
      have hc5 := (put_blk b3 (D := W0.heap.size) (by omega) (.deferred none)).cell0
      refine ⟨.bool true, by simp [results, Tryz.f150, go_sem, hc5], by rw [HR.out], ?_⟩
      exact (hB.setCell (p := ⟨w.heap.size + 1, 0, none⟩) (by simp) _).grown (grownBy_putObj' _ _ _) (by have := hB.size; simp [World.setCell]; omega) (fun k e => by cases e; omega)
    · have HR : Hid (bp = false) := HF.out x hx1 hx2
      clear hi hx1 hx2 HT HB HF e5 e' e
      gi_wp2
      refine ⟨by simp, .inl ⟨_, _, rfl, run_takeDeferred hK, ?_⟩⟩
      have hc5 := (put_blk hb2 (D := W0.heap.size) (by omega) (.deferred none)).cell0
      refine ⟨.bool false, by simp [results, Tryz.f150, go_sem, hc5], by rw [HR.out], ?_⟩
      exact hB.grown (grownBy_putObj' _ _ _) hB.size (fun k e => by cases e; omega)
theorem iPrime (p : Int) (w : World) : Calls Tryz.prog 150 #[.int .i64 p] w fun e w' => e = .returned (.bool (prmB p)) ∧ Below w.heap.size w w' := by
  by_cases h : 2 ≤ p ∧ p ≤ 10000
  · exact iPrime_in p w h.1 h.2
  · have E : Hid (prmB p = false) := prmB_out (by omega)
    have h' : p < 2 ∨ 10000 < p := by omega
    have B0 : Hid (Below w.heap.size w ((w.alloc (.cells #[.int .i64 p] 3)).alloc (.cells #[.bool false] 4))) := ((Below.refl _ w).alloc (Nat.le_refl _) _).alloc (by simp) _
    clear h
    rw [E.out]
    go_enter Tryz.func150, Tryz.ntmps150
    have hc : Hid (((w.alloc (.cells #[.int .i64 p] 3)).alloc (.cells #[.bool false] 4)).cell? ⟨w.heap.size + 1, 0, none⟩ = some (.bool false)) := (Blk1.at_ (w := w.alloc (.cells #[.int .i64 p] 3)) (b := w.heap.size + 1) 4 (.bool false) (by simp)).cell0
    rcases h' with h1 | h1
    · go_wp2_with fail
      have hc := hc.out
      exact bodyPost_ret (v := .bool false) (by simp [results, Tryz.results150, go_sem, hc]) rfl ⟨rfl, B0.out⟩
    · by_cases h2 : p < 2
      · omega
      · go_wp2_with fail
        have hc := hc.out
        exact bodyPost_ret (v := .bool false) (by simp [results, Tryz.results150, go_sem, hc]) rfl ⟨rfl, B0.out⟩
end Go.Proofs.YtcapddcmnjeloaaGreatDoor
end

section
/-
  Chapter 1, in the program: DivideFloor.
-/
namespace Go.Proofs.YtcapddcmnjeloaaGreatDoor
open Go.RowKit
set_option maxHeartbeats 400000 in
theorem iDiv (n d : Int) (w : World) (hn1 : -400000000 ≤ n) (hn2 : n ≤ 400000000) (hd1 : -400000000 ≤ d) (hd2 : d ≤ 400000000) (hd0 : d ≠ 0) :
    Calls Tryz.prog 110 #[.int .i64 n, .int .i64 d] w fun e w' => e = .returned (.tuple #[.int .i64 (n / d), .int .i64 (n % d), .bool true]) ∧ ∃ n, w' = w.drewN n := by
  have hz : (d == 0) = false := by simpa using hd0
  obtain ⟨b1, b2⟩ := tdiv_bd n d hn1 hn2
  have l := tmod_small n d hd0
  have l1 : -400000000 ≤ n.tmod d := by omega
  have l2 : n.tmod d ≤ 400000000 := by omega
  clear l
  by_cases h : n.tmod d < 0
  · have hn : n < 0 := by
      rcases Int.lt_or_le n 0 with h' | h'
      · exact h'
      · have := Int.tmod_nonneg d h'; omega
    by_cases hd : 0 < d
    · have E := Lib.hid (tdiv_down n d hd h)
      go_enter Tryz.func110, Tryz.ntmps110
      go_wp2_with (first | (go_at_call 90; refine (iIsNum_t _ _ (by omega) (by omega)).mono ?_; rintro e w' ⟨rfl, rfl⟩) | go_quiet (fail))
      go_ret3
      exact ⟨by rw [E.out.1, E.out.2]; rfl, _, rfl⟩
    · have E : Hid (n / d = n.tdiv d + 1 ∧ n % d = n.tmod d - d) := by
        obtain ⟨c, rfl⟩ : ∃ c, d = -c := ⟨-d, by omega⟩
        exact iDiv_neg n c (by omega) h
      have hd' : decide (0 < d) = false := by simpa using hd
      go_enter Tryz.func110, Tryz.ntmps110
      go_wp2_with (first | (go_at_call 90; refine (iIsNum_t _ _ (by omega) (by omega)).mono ?_; rintro e w' ⟨rfl, rfl⟩) | go_quiet (fail))
      go_ret3
      exact ⟨by rw [E.out.1, E.out.2]; rfl, _, rfl⟩
  · have E := Lib.hid (iDiv_pos n d hd0 (by omega))
    have h' : decide (n.tmod d < 0) = false := by simpa using h
    have hp : 0 ≤ n % d := Int.emod_nonneg n hd0
    have hp' : decide (n % d < 0) = false := by simpa using hp
    go_enter Tryz.func110, Tryz.ntmps110
    go_wp2_with (first | (go_at_call 90; refine (iIsNum_t _ _ (by omega) (by omega)).mono ?_; rintro e w' ⟨rfl, rfl⟩) | go_quiet (fail))
    go_ret3
    exact ⟨by rw [E.out.1, E.out.2]; rfl, _, rfl⟩
end Go.Proofs.YtcapddcmnjeloaaGreatDoor
end

section
/-
  Chapter 3, in the program: a matrix copied.
-/
namespace Go.Proofs.YtcapddcmnjeloaaGreatDoor
set_option maxRecDepth 100000
open Go.RowKit
def CopyM (r c : Int) (n : Nat) (zs : List Int) (w : World) (e : Ending) (w' : World) : Prop := ∃ q qc, e = .returned (.agg #[.int .i64 r, .int .i64 c, .slice q n qc]) ∧ Own w.heap.size w' (.slice q n qc) zs ∧ Below w.heap.size w w'
set_option maxHeartbeats 400000 in
theorem iCopyOf (r c : Int) (a : Option Addr) (cap n : Nat) (zs : List Int) (hz : zs.length = n) (w : World) (h : Rd w a zs) (hn : n ≤ 16777216) :
    Calls Tryz.prog 124 #[.agg #[.int .i64 r, .int .i64 c, .slice a n cap]] w (CopyM r c n zs w) := by
  have H := Lib.hid h
  have HZ := Lib.hid hz
  have K0 : Hid (Blk3 ((w.alloc (.cells #[.int .i64 r, .int .i64 c, .slice a n cap] 26)).alloc (.cells #[.int .i64 0, .int .i64 0, .slice none 0 0] 26)) w.heap.size 26 (.int .i64 r) (.int .i64 c) (.slice a n cap)) := (Blk3.at_ _ _ _ _ rfl).old _
  have K1 : Hid (Blk3 ((w.alloc (.cells #[.int .i64 r, .int .i64 c, .slice a n cap] 26)).alloc (.cells #[.int .i64 0, .int .i64 0, .slice none 0 0] 26)) (w.heap.size + 1) 26 (.int .i64 0) (.int .i64 0) (.slice none 0 0)) := Blk3.at_ _ _ _ _ (by simp)
  have B : Hid (Below w.heap.size w ((w.alloc (.cells #[.int .i64 r, .int .i64 c, .slice a n cap] 26)).alloc (.cells #[.int .i64 0, .int .i64 0, .slice none 0 0] 26))) := ((Below.refl _ _).alloc (Nat.le_refl _) _).alloc (by simp) _
  clear h hz
  go_enter Tryz.func124, Tryz.ntmps124
  go_wp2_with fail
  refine wp_region_held_drew (S := fun w' => Blk3 w' w.heap.size 26 (.int .i64 r) (.int .i64 c) (.slice a n cap) ∧ (∃ p q r, Blk3 w' (w.heap.size + 1) 26 p q r) ∧ Below w.heap.size w w') (by kernel_rfl) ⟨K0.out.drew, ⟨_, _, _, K1.out.drew⟩, B.out.drew⟩ (fun hH => ?_)
  refine wpAnyH_take (i := 0) (v := ?_) (by simp only [List.getElem?_toArray, List.getElem?_cons_zero]; rfl) (by kernel_rfl) (by kernel_rfl) (by kernel_rfl) (by exact fun _ _ _ h => h) (Or.inl ⟨by rfl, ?_⟩) hH ?_
  rotate_left
  · (intro wS hS; (try dsimp only at hS); obtain ⟨hS, -, -⟩ := hS; obtain ⟨k1, k2, k3, -, -, -⟩ := hS.all; go_simp; try rfl)
  try simp only [Act.put, List.setIfInBounds_toArray, List.set_cons_zero, List.set_cons_succ]
  refine wpAnyH_take (i := 1) (v := ?_) (by simp only [List.getElem?_toArray, List.getElem?_cons_succ, List.getElem?_cons_zero]; rfl) (by kernel_rfl) (by kernel_rfl) (by kernel_rfl) (by exact fun _ _ _ h => h) (Or.inl ⟨by rfl, ?_⟩) hH ?_
  rotate_left
  · (intro wS hS; (try dsimp only at hS); obtain ⟨hS, -, -⟩ := hS; obtain ⟨k1, k2, k3, -, -, -⟩ := hS.all; go_simp; try rfl)
  try simp only [Act.put, List.setIfInBounds_toArray, List.set_cons_zero, List.set_cons_succ]
  refine wpAnyH_take (i := 2) (v := ?_) (by simp only [List.getElem?_toArray, List.getElem?_cons_succ, List.getElem?_cons_zero]; rfl) (by kernel_rfl) (by kernel_rfl) (by kernel_rfl) (by exact fun _ _ _ h => h) (Or.inl ⟨by rfl, ?_⟩) hH ?_
  rotate_left
  · (intro wS hS; (try dsimp only at hS); obtain ⟨hS, -, -⟩ := hS; obtain ⟨k1, k2, k3, -, -, -⟩ := hS.all; go_simp; try rfl)
  try simp only [Act.put, List.setIfInBounds_toArray, List.set_cons_zero, List.set_cons_succ]
  refine wpAnyH_take (i := 3) (v := ?_) (by simp only [List.getElem?_toArray, List.getElem?_cons_succ, List.getElem?_cons_zero]; rfl) (by kernel_rfl) (by kernel_rfl) (by kernel_rfl) (by exact fun _ _ _ h => h) (Or.inl ⟨by rfl, ?_⟩) hH ?_
  rotate_left
  · (intro wS hS; (try dsimp only at hS); obtain ⟨hS, -, -⟩ := hS; obtain ⟨k1, k2, k3, -, -, -⟩ := hS.all; go_simp; try rfl)
  try simp only [Act.put, List.setIfInBounds_toArray, List.set_cons_zero, List.set_cons_succ]
  refine wpAnyH_take (i := 4) (v := ?_) (by simp only [List.getElem?_toArray, List.getElem?_cons_succ, List.getElem?_cons_zero]; rfl) (by kernel_rfl) (by kernel_rfl) (by kernel_rfl) (by exact fun _ _ _ h => h) (Or.inl ⟨by rfl, ?_⟩) hH ?_
  rotate_left
  · (intro wS hS; (try dsimp only at hS); obtain ⟨hS, -, -⟩ := hS; obtain ⟨k1, k2, k3, -, -, -⟩ := hS.all; go_simp; try rfl)
  try simp only [Act.put, List.setIfInBounds_toArray, List.set_cons_zero, List.set_cons_succ]
  refine wpAnyH_take (i := 5) (v := ?_) (by simp only [List.getElem?_toArray, List.getElem?_cons_succ, List.getElem?_cons_zero]; rfl) (by kernel_rfl) (by kernel_rfl) (by kernel_rfl) (by exact fun _ _ _ h => h) (Or.inl ⟨by rfl, ?_⟩) hH ?_
  rotate_left
  · (intro wS hS; (try dsimp only at hS); obtain ⟨hS, -, -⟩ := hS; obtain ⟨k1, k2, k3, -, -, -⟩ := hS.all; go_simp; try rfl)
  try simp only [Act.put, List.setIfInBounds_toArray, List.set_cons_zero, List.set_cons_succ]
  refine wpAnyH_ready (rs := [6]) (by kernel_rfl) (by simp) ?_
  refine AllReadyH.cons (by simp only [List.getElem?_toArray, List.getElem?_cons_succ, List.getElem?_cons_zero]; rfl) (fun K hK => ?_) AllReadyH.nil
  go_simp
  obtain ⟨hH0, ⟨p, q, s, hH1⟩, hH2⟩ := hH
  have l1 := hH1.lt
  (with_reducible refine (iCloneN a cap n zs HZ.out _ (H.out.below hH2) (by omega)).mono ?_)
  rintro e v1 ⟨q0, qc, rfl, own, hb1⟩
  try dsimp only
  have J0 := Lib.hid (hH0.step hb1)
  have J1 := Lib.hid (hH1.step hb1)
  have JB := Lib.hid (stepB hH2 hb1)
  have O := Lib.hid own
  have l2 : w.heap.size + 1 < _ := l1
  refine hK.out _ _ ⟨J0.out, ⟨_, _, _, J1.out⟩, JB.out⟩ (fun hH => ?_)
  clear hK K own
  try simp only [Act.put, List.setIfInBounds_toArray, List.set_cons_zero, List.set_cons_succ]
  refine wpAnyH_take (i := 7) (v := ?_) (by simp only [List.getElem?_toArray, List.getElem?_cons_succ, List.getElem?_cons_zero]; rfl) (by kernel_rfl) (by kernel_rfl) (by kernel_rfl) (by exact fun _ _ _ h => h) (Or.inl ⟨by rfl, ?_⟩) hH ?_
  rotate_left
  · (intro wS hS; clear hS; go_simp; try rfl)
  try simp only [Act.put, List.setIfInBounds_toArray, List.set_cons_zero, List.set_cons_succ]
  refine wpAnyH_ready (rs := [8]) (by kernel_rfl) (by simp) ?_
  refine AllReadyH.cons (by simp only [List.getElem?_toArray, List.getElem?_cons_succ, List.getElem?_cons_zero]; rfl) (fun K hK => ?_) AllReadyH.nil
  obtain ⟨y0, y1, y2, y3, y4, y5⟩ := J1.out.all
  clear hH
  go_simp
  have Z0 := Lib.hid (((J0.out.far (a := ⟨w.heap.size + 1, 0, none⟩) (by simp) (.int .i64 r)).far (a := ⟨w.heap.size + 1, 1, none⟩) (by simp) (.int .i64 c)).far (a := ⟨w.heap.size + 1, 2, none⟩) (by simp) (.slice q0 n qc))
  have Z1 := Lib.hid (((J1.out.set0 (.int .i64 r)).set1 (.int .i64 c)).set2 (.slice q0 n qc))
  have OO := Lib.hid (((O.out.far (a := ⟨w.heap.size + 1, 0, none⟩) l2 (.int .i64 r)).far (a := ⟨w.heap.size + 1, 1, none⟩) l2 (.int .i64 c)).far (a := ⟨w.heap.size + 1, 2, none⟩) l2 (.slice q0 n qc))
  refine hK.out _ _ ⟨Z0.out, ⟨_, _, _, Z1.out⟩, ((JB.out.setCell (Nat.le_succ _) _).setCell (Nat.le_succ _) _).setCell (Nat.le_succ _) _⟩ (fun hH => ?_)
  have ZB := Lib.hid hH.2.2
  clear hK K hH
  refine wpAnyH_done (by kernel_rfl) ?_ _
  go_wp2_with fail
  obtain ⟨E0, E1, E2, -, -, -⟩ := Z1.out.all
  exact bodyPost_ret (v := .agg #[.int .i64 r, .int .i64 c, .slice q0 n qc]) (by simp [results, Tryz.results124, go_sem, E0, E1, E2]) rfl ⟨q0, qc, rfl, OO.out.le (by omega), ZB.out⟩
end Go.Proofs.YtcapddcmnjeloaaGreatDoor
end

section
/-
  Plain mathematics of chapter 7: telling an echelon form. Nothing of a program is used.
-/
namespace Go.Proofs.YtcapddcmnjeloaaGreatDoor
end Go.Proofs.YtcapddcmnjeloaaGreatDoor
end

section
/-
  Plain mathematics of chapter 7: what a row is divided by in the program. Nothing of a program is used.
-/
namespace Go.Proofs.YtcapddcmnjeloaaGreatDoor
end Go.Proofs.YtcapddcmnjeloaaGreatDoor
end

section
/-
  Chapter 7, in the program: a row's first cell with something, and what the row is divided by.
-/
namespace Go.Proofs.YtcapddcmnjeloaaGreatDoor
set_option maxRecDepth 100000
open Go.RowKit
end Go.Proofs.YtcapddcmnjeloaaGreatDoor
end

section
/-
  Chapter 7, in the program: a row made primitive (the closure of EchelonOf).
-/
namespace Go.Proofs.YtcapddcmnjeloaaGreatDoor
set_option maxRecDepth 100000
open Go.RowKit
def Cel (w : World) (q : Option Addr) (N cap g : Nat) (xs : List Int) : Prop := (q = none ∧ cap = 0 ∧ N = 0 ∧ xs = []) ∨ (q = some ⟨g, 0, none⟩ ∧ N ≤ cap ∧ xs.length = N ∧ Ints w g xs)
theorem Cel.le {w : World} {q : Option Addr} {N cap g : Nat} {xs : List Int} (h : Cel w q N cap g xs) : N ≤ cap := by
  rcases h with ⟨-, h1, h2, -⟩ | ⟨-, h, -⟩ <;> omega
theorem Cel.len {w : World} {q : Option Addr} {N cap g : Nat} {xs : List Int} (h : Cel w q N cap g xs) : xs.length = N := by
  rcases h with ⟨-, -, h1, h2⟩ | ⟨-, -, h, -⟩
  · rw [h1, h2]; rfl
  · exact h
theorem Cel.ints {w : World} {q : Option Addr} {N cap g : Nat} {xs : List Int} (h : Cel w q N cap g xs) (h0 : 0 < N) : q = some ⟨g, 0, none⟩ ∧ Ints w g xs := by
  rcases h with ⟨-, -, h1, -⟩ | ⟨h1, -, -, h2⟩
  · omega
  · exact ⟨h1, h2⟩
theorem Cel.rd {w : World} {q : Option Addr} {N cap g : Nat} {xs : List Int} (h : Cel w q N cap g xs) : Rd w q xs := by
  rcases h with ⟨-, -, -, rfl⟩ | ⟨rfl, -, -, h⟩
  · exact Rd.nil _ _
  · exact h.rd
theorem Cel.move {w w' : World} {q : Option Addr} {N cap g : Nat} {xs : List Int} (h : Cel w q N cap g xs) (e : g < w.heap.size → w'.heap[g]? = w.heap[g]?) : Cel w' q N cap g xs := by
  rcases h with h | ⟨h1, h2, h3, h4⟩
  · exact .inl h
  · exact .inr ⟨h1, h2, h3, h4.move (e h4.lt)⟩
theorem Cel.keep {w w' : World} {q : Option Addr} {N cap g : Nat} {xs : List Int} (h : Cel w q N cap g xs) (hb : Below w.heap.size w w') : Cel w' q N cap g xs := h.move fun hl => hb.block g hl
theorem Cel.own {w : World} {q : Option Addr} {N cap g B : Nat} {xs : List Int} (h : Cel w q N cap g xs) (hB : B ≤ g) (hN : N ≤ 16777216) : Own B w (.slice q N cap) xs := by
  rcases h with ⟨rfl, rfl, rfl, rfl⟩ | ⟨rfl, h1, h2, h3⟩
  · exact .inl ⟨rfl, rfl⟩
  · exact .inr ⟨g, cap, by rw [h2], hB, h3, by omega, by omega⟩
end Go.Proofs.YtcapddcmnjeloaaGreatDoor
end

section
/-
  Chapter 8, in the program: ReduceMod.
-/
namespace Go.Proofs.YtcapddcmnjeloaaGreatDoor
set_option maxRecDepth 100000
open Go.RowKit
set_option maxHeartbeats 2000000 in
theorem iRed (r c p : Int) (a : Option Addr) (m : Nat) (xs : List Int) (w : World) (h : Rd w a xs) (hn : xs.length ≤ 16777216) :
    Calls Tryz.prog 106 #[.agg #[.int .i64 r, .int .i64 c, .slice a xs.length m], .int .i64 p] w (MatRes (redM r c p xs) w) := by
  have IM : Hid (∀ w', Below w.heap.size w w' → Calls Tryz.prog 43 #[.agg #[.int .i64 r, .int .i64 c, .slice a xs.length m]] w' (Gives (.bool (isMat r c xs)) w')) := fun w' hb => iIsMat r c a m xs w' (h.below hb) hn
  have HX : Hid (isMat r c xs = true → xs.length ≤ 576) := fun hm => by
    obtain ⟨⟨r0, r1⟩, ⟨c0, c1⟩, hl, -⟩ := isMat_says hm
    have h2 : r * c ≤ 24 * 24 := Int.mul_le_mul (by omega) (by omega) c0 (by omega)
    omega
  have CP : Hid (xs.length ≤ 576 → ∀ w', Below w.heap.size w w' → Calls Tryz.prog 124 #[.agg #[.int .i64 r, .int .i64 c, .slice a xs.length m]] w' (CopyM r c xs.length xs w')) := fun hl w' hb => iCopyOf r c a m xs.length xs rfl w' (h.below hb) (by omega)
  have H := Lib.hid h
  have VN : Hid (isMat r c xs = false ∨ prmB p = false → redM r c p xs = MR.no) := fun h => by
    show _ = _
    unfold redM
    rcases h with h | h
    · rw [h]; rfl
    · rw [h, Bool.and_false]; rfl
  have VY : Hid (isMat r c xs = true → prmB p = true → redM r c p xs = ⟨true, r, c, resL p xs⟩) := fun h1 h2 => by
    show _ = _
    unfold redM
    rw [h1, h2]; rfl
  have NX : Hid (isMat r c xs = true → ∀ k, k < xs.length → -400000000 ≤ xs.getD k 0 ∧ xs.getD k 0 ≤ 400000000) := fun hm k hk => nums_at (isMat_says hm).2.2.2 hk
  have PB : Hid (prmB p = true → 2 ≤ p ∧ p ≤ 10000) := fun h => ⟨(prmB_says h).1.1, (prmB_says h).2⟩
  have ML : Hid (∀ k, (mixL xs k fun i => xs.getD i 0 % p).length = xs.length) := fun k => mixL_length _ _ _
  have MA : Hid (∀ k, (mixL xs k fun i => xs.getD i 0 % p).getD k 0 = xs.getD k 0) := fun k => mixL_at _ _ _
  have MS : Hid (∀ k, (mixL xs k fun i => xs.getD i 0 % p).set k (xs.getD k 0 % p) = mixL xs (k + 1) fun i => xs.getD i 0 % p) := fun k => mixL_step xs k (fun i => xs.getD i 0 % p)
  have MZ : Hid ((mixL xs 0 fun i => xs.getD i 0 % p) = xs) := mixL_zero _ _
  have ME : Hid ((mixL xs xs.length fun i => xs.getD i 0 % p) = resL p xs) := resL_mix
  have RN : Hid ((resL p xs).length = xs.length) := by show _ = _; unfold resL; exact List.length_map ..
  obtain ⟨N, hN⟩ : ∃ N, xs.length = N := ⟨_, rfl⟩
  rw [hN] at IM CP HX NX ML ME RN hn ⊢
  generalize redM r c p xs = RES at VN VY ⊢
  generalize isMat r c xs = bm at IM HX NX VN VY
  have XN := Lib.hid hN
  clear h hN
  go_enter Tryz.func106, Tryz.ntmps106
  go_upto_region 1 with fail
  have K0 : Hid (Blk3 ((w.alloc (.cells #[.int .i64 r, .int .i64 c, .slice a N m] 26)).alloc (.cells #[.int .i64 0, .int .i64 0, .slice none 0 0] 26)) w.heap.size 26 (.int .i64 r) (.int .i64 c) (.slice a N m)) := (Blk3.at_ _ _ _ _ rfl).old _
  have R0 : Hid (Blk3 ((w.alloc (.cells #[.int .i64 r, .int .i64 c, .slice a N m] 26)).alloc (.cells #[.int .i64 0, .int .i64 0, .slice none 0 0] 26)) (w.heap.size + 1) 26 (.int .i64 0) (.int .i64 0) (.slice none 0 0)) := Blk3.at_ _ _ _ _ (by simp)
  have B0 : Hid (Below w.heap.size w ((w.alloc (.cells #[.int .i64 r, .int .i64 c, .slice a N m] 26)).alloc (.cells #[.int .i64 0, .int .i64 0, .slice none 0 0] 26))) := ((Below.refl _ _).alloc (Nat.le_refl _) _).alloc (by simp) _
  have S0 : Hid (((w.alloc (.cells #[.int .i64 r, .int .i64 c, .slice a N m] 26)).alloc (.cells #[.int .i64 0, .int .i64 0, .slice none 0 0] 26)).heap.size = w.heap.size + 2) := by show _ = _; simp
  generalize (w.alloc (.cells #[.int .i64 r, .int .i64 c, .slice a N m] 26)).alloc (.cells #[.int .i64 0, .int .i64 0, .slice none 0 0] 26) = W0 at K0 R0 B0 S0 ⊢
  obtain ⟨p0, p1, p2, -, -, -⟩ := K0.out.all
  go_wp2_with fail
  refine (IM.out _ B0.out).mono ?_
  rintro e w1 ⟨rfl, hb⟩
  have s0 := S0.out
  have sb := hb.size
  have K1 := Lib.hid (K0.out.step hb)
  have R1 := Lib.hid (R0.out.step hb)
  have B1 := Lib.hid (B0.out.trans (hb.mono (by omega)))
  clear hb K0 R0 B0 S0 p0 p1 p2
  obtain ⟨p0, p1, p2, -, -, -⟩ := K1.out.all
  cases bm with
  | false =>
    have RX := Lib.hid (VN.out (.inl rfl))
    clear p0 p1 p2
    obtain ⟨r0, r1, r2, f0, f1, f2⟩ := R1.out.all
    go_wp2_with fail
    obtain ⟨E0, E1, E2, -, -, -⟩ := (((R1.out.set0 (.int .i64 0)).set1 (.int .i64 0)).set2 (.slice none 0 0)).all
    rw [RX.out]
    exact bodyPost_ret (v := .tuple #[.agg #[.int .i64 0, .int .i64 0, .slice none 0 0], .bool false]) (by simp [results, Tryz.results106, go_sem, E0, E1, E2]) rfl ⟨_, rfl, .inl ⟨rfl, rfl⟩, ((B1.out.setCell (Nat.le_succ _) _).setCell (Nat.le_succ _) _).setCell (Nat.le_succ _) _⟩
  | true =>
    go_wp2_with fail
    refine (iPrime p _).mono ?_
    rintro e w2 ⟨rfl, hb2⟩
    have sb2 := hb2.size
    have K2 := Lib.hid (K1.out.step hb2)
    have R2 := Lib.hid (R1.out.step hb2)
    have B2 := Lib.hid (B1.out.trans (hb2.mono (by omega)))
    clear hb2 K1 R1 B1 p0 p1 p2
    obtain ⟨p0, p1, p2, -, -, -⟩ := K2.out.all
    obtain ⟨bp, hbp⟩ : ∃ b, prmB p = b := ⟨_, rfl⟩
    rw [hbp] at VN VY PB ⊢
    clear hbp
    cases bp with
    | false =>
      have RX := Lib.hid (VN.out (.inr rfl))
      clear p0 p1 p2
      obtain ⟨r0, r1, r2, f0, f1, f2⟩ := R2.out.all
      go_wp2_with fail
      obtain ⟨E0, E1, E2, -, -, -⟩ := (((R2.out.set0 (.int .i64 0)).set1 (.int .i64 0)).set2 (.slice none 0 0)).all
      rw [RX.out]
      exact bodyPost_ret (v := .tuple #[.agg #[.int .i64 0, .int .i64 0, .slice none 0 0], .bool false]) (by simp [results, Tryz.results106, go_sem, E0, E1, E2]) rfl ⟨_, rfl, .inl ⟨rfl, rfl⟩, ((B2.out.setCell (Nat.le_succ _) _).setCell (Nat.le_succ _) _).setCell (Nat.le_succ _) _⟩
    | true =>
      obtain ⟨hp1, hp2⟩ := PB.out rfl
      have N5 := HX.out trivial
      have np : p ≠ 0 := by omega
      have RX := Lib.hid (VY.out trivial rfl)
      go_wp2_with fail
      refine (CP.out N5 _ B2.out).mono ?_
      rintro e w3 ⟨q, cap, rfl, own, hb⟩
      have sb3 := hb.size
      have s0 := K2.out.lt
      have s9 := R2.out.lt
      obtain ⟨g, C3, g1, g2, g3⟩ : ∃ g, Cel w3 q N cap g xs ∧ w.heap.size ≤ g ∧ g < w3.heap.size ∧ g ≠ w.heap.size + 1 := by
        rcases own with ⟨e, e2⟩ | ⟨g, c', e, hB, hi, hl, -⟩
        · injection e with e1 e3 e4
          exact ⟨w.heap.size, .inl ⟨e1, e4, e3, e2⟩, by omega, by omega, by omega⟩
        · injection e with e1 e3 e4
          subst e1
          exact ⟨g, .inr ⟨rfl, by omega, e3.symm, hi⟩, by omega, hi.lt, by omega⟩
      have R3 := Lib.hid ((R2.out.step hb).old (.cells #[.int .i64 r, .int .i64 c, .slice q N cap] 26))
      have O3 := Lib.hid ((K2.out.step hb).old (.cells #[.int .i64 r, .int .i64 c, .slice q N cap] 26))
      have Bx := B2.out.trans (hb.mono (by omega))
      have B3 := Lib.hid (Bx.alloc Bx.size (.cells #[.int .i64 r, .int .i64 c, .slice q N cap] 26))
      have I3 := Lib.hid (C3.keep (Below.alloc (Below.refl _ _) (Nat.le_refl _) (.cells #[.int .i64 r, .int .i64 c, .slice q N cap] 26)))
      have A3 : Hid (Blk3 (w3.alloc (.cells #[.int .i64 r, .int .i64 c, .slice q N cap] 26)) w3.heap.size 26 (.int .i64 r) (.int .i64 c) (.slice q N cap)) := Blk3.at_ _ _ _ _ rfl
      clear hb Bx p0 p1 p2 K2 R2 B2 IM CP own C3
      go_upto_region 4 with fail
      generalize w3.alloc (.cells #[.int .i64 r, .int .i64 c, .slice q N cap] 26) = W3 at R3 O3 B3 I3 A3 ⊢
      obtain ⟨b, hbb⟩ : ∃ b, w3.heap.size = b := ⟨_, rfl⟩
      rw [hbb] at A3 g2 ⊢
      obtain ⟨rb, hrb⟩ : ∃ rb, w.heap.size + 1 = rb := ⟨_, rfl⟩
      rw [hrb] at R3 g3 ⊢
      have l1 : w.heap.size ≤ rb := by omega
      have gne : g ≠ w.heap.size ∨ N = 0 := by
        rcases I3.out with h | h
        · have : xs = [] := h.2.2.2
          exact .inr (by rw [← XN.out, this]; rfl)
        · refine .inl fun e => ?_
          obtain ⟨-, -, -, h4⟩ := h
          obtain ⟨rest, h4⟩ := h4
          have h5 := O3.out
          unfold Blk3 at h5
          rw [e, h5] at h4
          injection h4 with h4
          injection h4 with h4 h6 h7
          exact absurd h6 (by decide)
      have WW := Lib.hid B3.out
      clear hbb hrb sb3 sb s0 s9 sb2
      obtain ⟨p0, p1, p2, -, -, -⟩ := O3.out.all
      go_wp2_with fail
      clear p0 p1 p2
      go_loopw [7, 8, 23] (fun _ _ v23 wr => ∃ k : Nat, v23 = .int .i64 k ∧ k ≤ N ∧ Cel wr q N cap g (mixL xs k fun i => xs.getD i 0 % p) ∧ W3.grownBy wr (some g)) (fun _ _ v23 _ => N - (intOf v23).toNat)
      case atStart => exact ⟨0, rfl, by omega, by rw [MZ.out]; exact I3.out, World.grownBy.refl _ _⟩
      case round =>
        obtain ⟨k, rfl, hk, hi, hgr⟩ := hrel
        have CI := Lib.hid hi
        have G := Lib.hid hgr
        clear hi hgr
        have R4 := Lib.hid (R3.out.keepOne G.out g3.symm)
        have A4 := Lib.hid (A3.out.keepOne G.out (by omega))
        have B4 := Lib.hid (B3.out.trans (below_of_one G.out g1 B3.out.size))
        by_cases hlt : k < N
        · obtain ⟨rfl, hi⟩ := CI.out.ints (by omega)
          have I := Lib.hid hi
          clear hi
          have MK := Lib.hid (MS.out k)
          obtain ⟨b1, o1, rfl, hc1⟩ := H.out k (by rw [XN.out]; exact hlt)
          have u1 := World.block_lt_of_cell? w _ hc1
          have hc1 := G.out.cell ((B3.out.cell (p := ⟨b1, o1 + k, none⟩) u1).trans hc1) (by simp; simp at u1; omega)
          obtain ⟨v1, v2⟩ := NX.out trivial k hlt
          obtain ⟨x, hx⟩ : ∃ x, xs.getD k 0 = x := ⟨_, rfl⟩
          rw [hx] at hc1 v1 v2 MK
          clear hx u1
          go_wp2_with fail
          refine wp_region_held_drew (S := fun w' => Blk3 w' b 26 (.int .i64 r) (.int .i64 c) (.slice (some ⟨g, 0, none⟩) N cap)) (by kernel_rfl) A4.out.drew (fun hH => ?_)
          refine wpAnyH_take (i := 0) (v := ?_) (by simp only [List.getElem?_toArray, List.getElem?_cons_zero]; rfl) (by kernel_rfl) (by kernel_rfl) (by kernel_rfl) (by exact fun _ _ _ h => h) (Or.inl ⟨by rfl, ?_⟩) hH ?_
          rotate_left
          · (intro wS hS; clear hS; go_simp; try rfl)
          try simp only [Act.put, List.setIfInBounds_toArray, List.set_cons_zero, List.set_cons_succ]
          refine wpAnyH_take (i := 1) (v := ?_) (by simp only [List.getElem?_toArray, List.getElem?_cons_succ, List.getElem?_cons_zero]; rfl) (by kernel_rfl) (by kernel_rfl) (by kernel_rfl) (by exact fun _ _ _ h => h) (Or.inl ⟨by rfl, ?_⟩) hH ?_
          rotate_left
          · (intro wS hS; (try dsimp only at hS); have k2 := hS.cell2; clear hS; go_simp; try rfl)
          try simp only [Act.put, List.setIfInBounds_toArray, List.set_cons_zero, List.set_cons_succ]
          refine wpAnyH_take (i := 2) (v := ?_) (by simp only [List.getElem?_toArray, List.getElem?_cons_succ, List.getElem?_cons_zero]; rfl) (by kernel_rfl) (by kernel_rfl) (by kernel_rfl) (by exact fun _ _ _ h => h) (Or.inl ⟨by rfl, ?_⟩) hH ?_
          rotate_left
          · (intro wS hS; clear hS; go_simp; try rfl)
          try simp only [Act.put, List.setIfInBounds_toArray, List.set_cons_zero, List.set_cons_succ]
          refine wpAnyH_take (i := 3) (v := ?_) (by simp only [List.getElem?_toArray, List.getElem?_cons_succ, List.getElem?_cons_zero]; rfl) (by kernel_rfl) (by kernel_rfl) (by kernel_rfl) (by exact fun _ _ _ h => h) (Or.inl ⟨by rfl, ?_⟩) hH ?_
          rotate_left
          · (intro wS hS; clear hS; go_simp; try rfl)
          try simp only [Act.put, List.setIfInBounds_toArray, List.set_cons_zero, List.set_cons_succ]
          refine wpAnyH_take (i := 4) (v := ?_) (by simp only [List.getElem?_toArray, List.getElem?_cons_succ, List.getElem?_cons_zero]; rfl) (by kernel_rfl) (by kernel_rfl) (by kernel_rfl) (by exact fun _ _ _ h => h) (Or.inl ⟨by rfl, ?_⟩) hH ?_
          rotate_left
          · (intro wS hS; clear hS; go_simp; try rfl)
          try simp only [Act.put, List.setIfInBounds_toArray, List.set_cons_zero, List.set_cons_succ]
          refine wpAnyH_ready (rs := [5]) (by kernel_rfl) (by simp) ?_
          refine AllReadyH.cons (by simp only [List.getElem?_toArray, List.getElem?_cons_succ, List.getElem?_cons_zero]; rfl) (fun K hK => ?_) AllReadyH.nil
          go_simp
          (with_reducible refine (iDiv x p _ v1 v2 (by omega) (by omega) np).mono ?_)
          rintro e v3 ⟨rfl, nq, rfl⟩
          try dsimp only
          refine hK.out _ _ (hH.drewN nq) (fun hH2 => ?_)
          clear hK K hH
          have hH := hH2
          clear hH2
          try simp only [Act.put, List.setIfInBounds_toArray, List.set_cons_zero, List.set_cons_succ]
          refine wpAnyH_take (i := 6) (v := ?_) (by simp only [List.getElem?_toArray, List.getElem?_cons_succ, List.getElem?_cons_zero]; rfl) (by kernel_rfl) (by kernel_rfl) (by kernel_rfl) (by exact fun _ _ _ h => h) (Or.inl ⟨by rfl, ?_⟩) hH ?_
          rotate_left
          · (intro wS hS; clear hS; go_simp; try rfl)
          try simp only [Act.put, List.setIfInBounds_toArray, List.set_cons_zero, List.set_cons_succ]
          refine wpAnyH_take (i := 7) (v := ?_) (by simp only [List.getElem?_toArray, List.getElem?_cons_succ, List.getElem?_cons_zero]; rfl) (by kernel_rfl) (by kernel_rfl) (by kernel_rfl) (by exact fun _ _ _ h => h) (Or.inl ⟨by rfl, ?_⟩) hH ?_
          rotate_left
          · (intro wS hS; clear hS; go_simp; try rfl)
          try simp only [Act.put, List.setIfInBounds_toArray, List.set_cons_zero, List.set_cons_succ]
          refine wpAnyH_take (i := 8) (v := ?_) (by simp only [List.getElem?_toArray, List.getElem?_cons_succ, List.getElem?_cons_zero]; rfl) (by kernel_rfl) (by kernel_rfl) (by kernel_rfl) (by exact fun _ _ _ h => h) (Or.inl ⟨by rfl, ?_⟩) hH ?_
          rotate_left
          · (intro wS hS; clear hS; go_simp; try rfl)
          try simp only [Act.put, List.setIfInBounds_toArray, List.set_cons_zero, List.set_cons_succ]
          refine wpAnyH_take (i := 9) (v := ?_) (by simp only [List.getElem?_toArray, List.getElem?_cons_succ, List.getElem?_cons_zero]; rfl) (by kernel_rfl) (by kernel_rfl) (by kernel_rfl) (by exact fun _ _ _ h => h) (Or.inl ⟨by rfl, ?_⟩) hH ?_
          rotate_left
          · (intro wS hS; clear hS; go_simp; try rfl)
          try simp only [Act.put, List.setIfInBounds_toArray, List.set_cons_zero, List.set_cons_succ]
          refine wpAnyH_take (i := 10) (v := ?_) (by simp only [List.getElem?_toArray, List.getElem?_cons_succ, List.getElem?_cons_zero]; rfl) (by kernel_rfl) (by kernel_rfl) (by kernel_rfl) (by exact fun _ _ _ h => h) (Or.inl ⟨by rfl, ?_⟩) hH ?_
          rotate_left
          · (intro wS hS; clear hS; go_simp; try rfl)
          try simp only [Act.put, List.setIfInBounds_toArray, List.set_cons_zero, List.set_cons_succ]
          have I5 := Lib.hid ((I.out.drewN (1 + nq)).set k (x % p))
          have G5 := Lib.hid (grown_set_one (a := ⟨g, k, none⟩) (grown_drewN_one G.out (1 + nq)) rfl (.int .i64 (x % p)))
          have A5 := Lib.hid ((A4.out.drewN (1 + nq)).far (a := ⟨g, k, none⟩) (by show b ≠ g; omega) (.int .i64 (x % p)))
          have hold := I.out.cell (i := k) (by rw [ML.out]; exact hlt)
          have hfr := I.out.free k
          refine wpAnyH_ready (rs := [11]) (by kernel_rfl) (by simp) ?_
          refine AllReadyH.cons (by simp only [List.getElem?_toArray, List.getElem?_cons_succ, List.getElem?_cons_zero]; rfl) (fun K hK => ?_) AllReadyH.nil
          clear hH
          go_simp
          try dsimp only
          refine hK.out _ _ A5.out (fun hH2 => ?_)
          clear hK K hH2 hold hfr
          try simp only [Act.put, List.setIfInBounds_toArray, List.set_cons_zero, List.set_cons_succ]
          refine wpAnyH_done (by kernel_rfl) ?_ _
          go_wp2_with fail
          go_roundw
          case rel => exact ⟨k + 1, by go_num, by omega, by rw [← MK.out]; exact .inr ⟨rfl, CI.out.le, by rw [List.length_set, ML.out], I5.out⟩, G5.out⟩
          case measure => simp [intOf]; omega
        · obtain rfl : N = k := by omega
          rw [ME.out] at CI
          obtain ⟨r0, r1, r2, f0, f1, f2⟩ := R4.out.all
          obtain ⟨p0, p1, p2, -, -, -⟩ := A4.out.all
          go_wp2_with fail
          obtain ⟨E0, E1, E2, -, -, -⟩ := (((R4.out.set0 (.int .i64 r)).set1 (.int .i64 c)).set2 (.slice q N cap)).all
          rw [RX.out]
          refine bodyPost_ret (v := .tuple #[.agg #[.int .i64 r, .int .i64 c, .slice q N cap], .bool true]) (by simp [results, Tryz.results106, go_sem, E0, E1, E2]) rfl ⟨_, rfl, ?_, ((B4.out.setCell l1 _).setCell l1 _).setCell l1 _⟩
          refine Cel.own (g := g) (CI.out.move fun _ => ?_) g1 (by omega)
          exact ((Below.heap_setCell _ _ _ g (by show g ≠ rb; omega)).trans (Below.heap_setCell _ _ _ g (by show g ≠ rb; omega))).trans (Below.heap_setCell _ _ _ g (by show g ≠ rb; omega))
end Go.Proofs.YtcapddcmnjeloaaGreatDoor
end

section
/-
  Chapter 8, in the program: InverseModulo; a row divided by a pivot; a row without its cell in the pivot's column.
-/
namespace Go.Proofs.YtcapddcmnjeloaaGreatDoor
set_option maxRecDepth 100000
open Go.RowKit
theorem ext_any {p a : Int} (hp : Prm p) (hp2 : p ≤ 10000) (ha : NumP a) (hn : a % p ≠ 0) : ∃ x z : Int, egAns a p = (1, x, z) ∧ invF p (a % p) = x % p ∧ -400000000 ≤ x ∧ x ≤ 400000000 := by
  have hp1 := hp.1
  obtain ⟨x, z, e, hxz, b1, b2, -, -⟩ := egAns_is a p ha ⟨by omega, by omega⟩
  have hnd : ¬ p ∣ a := fun h => hn (Int.emod_eq_zero_of_dvd h)
  have hg : (Int.gcd a p : Int) = 1 := by have := hp.gcd hnd; omega
  rw [hg] at e hxz
  refine ⟨x, z, e, invF_ext (y := z + a / p * x) (g := 1) hp ?_ rfl, b1, b2⟩
  rw [Int.emod_def]
  grind
theorem ext_mult {p a : Int} (hp : Prm p) (hp2 : p ≤ 10000) (ha : NumP a) (hn : a % p = 0) : ∃ g x z : Int, egAns a p = (g, x, z) ∧ g ≠ 1 := by
  have hp1 := hp.1
  obtain ⟨x, z, e, hxz, -, -, -, -⟩ := egAns_is a p ha ⟨by omega, by omega⟩
  refine ⟨_, x, z, e, fun h1 => ?_⟩
  have hdv : p ∣ (Int.gcd a p : Int) := by
    rw [← hxz]
    exact Int.dvd_add (Int.dvd_trans (Int.dvd_of_emod_eq_zero hn) (Int.dvd_mul_right a x)) (Int.dvd_mul_right p z)
  rw [h1] at hdv
  have := Int.le_of_dvd (by omega) hdv
  omega
theorem iInvM (a p : Int) (w : World) : Calls Tryz.prog 179 #[.int .i64 a, .int .i64 p] w fun e w' => e = .returned (.tuple #[.int .i64 (ivM p a).1, .bool (ivM p a).2]) ∧ Below w.heap.size w w' := by
  rcases Bool.eq_false_or_eq_true (prmB p) with h1 | h1
  · obtain ⟨hp, hp2⟩ := prmB_says h1
    have hp1 := hp.1
    have np : p ≠ 0 := by omega
    have P1 := Lib.hid h1
    by_cases h2 : NumP a
    · by_cases h3 : a % p = 0
      · have V := Lib.hid (ivM_no3 h3)
        obtain ⟨g, x, z, hx, hg⟩ := ext_mult hp hp2 h2 h3
        have HX : Hid (egVal (egAns a p) = .tuple #[.int .i64 g, .int .i64 x, .int .i64 z, .bool true]) := by show _ = _; rw [hx]; rfl
        have n1 : (g != 1) = true := by simpa using hg
        clear h1 h3 hp hx hg
        go_enter Tryz.func179, Tryz.ntmps179
        go_wp2_with fail
        refine (iPrime p _).mono ?_
        rintro e w1 ⟨rfl, hb1⟩
        rw [P1.out]
        go_wp2_with fail
        refine (iExt a p _ h2 ⟨by omega, by omega⟩).mono ?_
        rintro e w2 ⟨rfl, hb2⟩
        have B := Lib.hid (hb1.trans (hb2.mono hb1.size))
        clear hb1 hb2
        rw [HX.out]
        go_wp2_with fail
        exact bodyPost_ret (v := .tuple #[.int .i64 0, .bool false]) (by simp [results, Tryz.results179, go_sem]) rfl ⟨by rw [V.out], B.out⟩
      · have V := Lib.hid (ivM_yes h1 h2 rfl h3)
        obtain ⟨x, z, hx, hi, b1, b2⟩ := ext_any hp hp2 h2 h3
        have HI := Lib.hid hi
        have HX : Hid (egVal (egAns a p) = .tuple #[.int .i64 1, .int .i64 x, .int .i64 z, .bool true]) := by show _ = _; rw [hx]; rfl
        clear h1 h3 hp hi hx
        go_enter Tryz.func179, Tryz.ntmps179
        go_wp2_with fail
        refine (iPrime p _).mono ?_
        rintro e w1 ⟨rfl, hb1⟩
        rw [P1.out]
        go_wp2_with fail
        refine (iExt a p _ h2 ⟨by omega, by omega⟩).mono ?_
        rintro e w2 ⟨rfl, hb2⟩
        have B := Lib.hid (hb1.trans (hb2.mono hb1.size))
        clear hb1 hb2
        rw [HX.out]
        go_wp2_with fail
        refine (iDiv x p _ b1 b2 (by omega) (by omega) np).mono ?_
        rintro e w3 ⟨rfl, n, rfl⟩
        have B2 := Lib.hid (below_drewN B.out n)
        go_wp2_with fail
        exact bodyPost_ret (v := .tuple #[.int .i64 (x % p), .bool true]) (by simp [results, Tryz.results179, go_sem]) rfl ⟨by rw [V.out, ← HI.out], B2.out⟩
    · have V := Lib.hid (ivM_no2 (p := p) h2)
      have h2' : ¬ ((-400000000 ≤ a ∧ a ≤ 400000000) ∧ (-400000000 ≤ p ∧ p ≤ 400000000)) := fun h => h2 h.1
      clear h1 h2 hp
      go_enter Tryz.func179, Tryz.ntmps179
      go_wp2_with fail
      refine (iPrime p _).mono ?_
      rintro e w1 ⟨rfl, hb1⟩
      rw [P1.out]
      go_wp2_with fail
      refine (iExt_f a p _ h2').mono ?_
      rintro e w2 ⟨rfl, rfl⟩
      go_wp2_with fail
      exact bodyPost_ret (v := .tuple #[.int .i64 0, .bool false]) (by simp [results, Tryz.results179, go_sem]) rfl ⟨by rw [V.out], hb1⟩
  · have V := Lib.hid (ivM_no1 (a := a) h1)
    have P1 := Lib.hid h1
    clear h1
    go_enter Tryz.func179, Tryz.ntmps179
    go_wp2_with fail
    refine (iPrime p _).mono ?_
    rintro e w1 ⟨rfl, hb1⟩
    rw [P1.out]
    go_wp2_with fail
    exact bodyPost_ret (v := .tuple #[.int .i64 0, .bool false]) (by simp [results, Tryz.results179, go_sem]) rfl ⟨by rw [V.out], hb1⟩
end Go.Proofs.YtcapddcmnjeloaaGreatDoor
end

section
/-
  Chapter 8, in the program: a row divided by a pivot; a row without its cell in the pivot's column.
-/
namespace Go.Proofs.YtcapddcmnjeloaaGreatDoor
set_option maxRecDepth 100000
open Go.RowKit
set_option maxHeartbeats 2000000 in
theorem iDivide (r c t N g m : Nat) (x p : Int) (xs : List Int) (w : World) (hN : N = r * c) (hx : xs.length = N) (hc : c ≤ 24) (htr : t < r) (hp : prmB p = true) (hcan : CanL p xs) (h0 : 0 ≤ x) (h1 : x < p) (hn : x ≠ 0) (hi : Ints w g xs) :
    Calls Tryz.prog 151 #[.slice (some ⟨g, t * c, none⟩) c m, .int .i64 x, .int .i64 p] w (fun e w' => Void e ∧ Ints w' g (rowL r c t (scV p (invF p x) (mxC c xs t)) xs) ∧ w.grownBy w' (some g)) := by
  have hl : xs.length = r * c := by rw [hx, hN]
  obtain ⟨pp, hp2⟩ := prmB_says hp
  have hp1 := pp.1
  obtain ⟨-, i0, i1⟩ := pp.hasInv.inv pp (can_nd ⟨h0, h1⟩ hn)
  have IV := Lib.hid (ivM_can hp h0 h1 hn)
  have LI : Hid (∀ q, q < c → t * c + q < N) := fun q hq => by rw [hN]; exact idx_lt htr hq
  have RX : Hid (∀ k, k < c → (rowTo r c t (scV p (invF p x) (mxC c xs t)) xs k).getD (t * c + k) 0 = mxC c xs t k) := fun k hk => rowTo_old htr hk (.inr (Nat.le_refl _))
  have RS : Hid (∀ k, k < c → (rowTo r c t (scV p (invF p x) (mxC c xs t)) xs k).set (t * c + k) ((mxC c xs t k * invF p x) % p) = rowTo r c t (scV p (invF p x) (mxC c xs t)) xs (k + 1)) := fun k hk => rowTo_step htr hk
  have RL : Hid (∀ k, (rowTo r c t (scV p (invF p x) (mxC c xs t)) xs k).length = N) := fun k => by rw [rowTo_length, hN]
  have RZ : Hid (rowTo r c t (scV p (invF p x) (mxC c xs t)) xs 0 = xs) := rowTo_zero hl
  have RA : Hid (rowTo r c t (scV p (invF p x) (mxC c xs t)) xs c = rowL r c t (scV p (invF p x) (mxC c xs t)) xs) := rowTo_all
  have ZT : Hid (∀ q, q < c → 0 ≤ mxC c xs t q ∧ mxC c xs t q < p) := fun q hq => hcan.mx hl htr hq
  have I := Lib.hid hi
  have lg := hi.lt
  obtain ⟨v, hv⟩ : ∃ v, invF p x = v := ⟨_, rfl⟩
  rw [hv] at IV i0 i1 RX RS RL RZ RA ⊢
  obtain ⟨D, hD⟩ : ∃ D, t * c = D := ⟨_, rfl⟩
  rw [hD] at LI RX RS ⊢
  have np : ¬ p = 0 := by omega
  clear hl hx hN hD hi hv pp hp hcan
  go_enter Tryz.func151, Tryz.ntmps151
  go_wp2_with fail
  refine (iInvM x p _).mono ?_
  rintro e w1 ⟨rfl, hb⟩
  rw [IV.out]
  have I := Lib.hid (I.out.keep hb lg)
  have G := Lib.hid (grown_of_below hb (some g))
  clear hb
  go_wp2_with fail
  go_loopw [8, 17] (fun _ v17 wr => ∃ h : Nat, v17 = .int .i64 h ∧ h ≤ c ∧ Ints wr g (rowTo r c t (scV p v (mxC c xs t)) xs h) ∧ w.grownBy wr (some g)) (fun _ v17 _ => c - (intOf v17).toNat)
  case atStart => exact ⟨0, rfl, by omega, by rw [RZ.out]; exact I.out, G.out⟩
  case round =>
    clear I G
    obtain ⟨h, rfl, hh, hi, hgr⟩ := hrel
    have I := Lib.hid hi
    have G := Lib.hid hgr
    clear hi hgr
    by_cases hlt : h < c
    · have hca := I.out.cell (i := D + h) (by rw [RL.out]; exact LI.out h hlt)
      have hfr := I.out.free (D + h)
      rw [RX.out h hlt] at hca
      obtain ⟨z1, z2⟩ := ZT.out h hlt
      have RS := Lib.hid (RS.out h hlt)
      generalize mxC c xs t h = ea at hca z1 z2 RS
      obtain ⟨m3, m4⟩ := mul_bd z1 z2 i0 i1 hp2
      obtain ⟨y, hy⟩ : ∃ y, ea * v = y := ⟨_, rfl⟩
      have w2 : IntKind.i64.wrap (ea * v) = y := by rw [← hy]; exact IntWalk.i64_in _ (by omega)
      rw [hy] at m3 m4 RS
      have e2 : Int.tmod y p = y % p := Int.tmod_eq_emod_of_nonneg m3
      have IS := Lib.hid (I.out.set (D + h) (y % p))
      have GS := Lib.hid (grown_set_one (a := ⟨g, D + h, none⟩) G.out rfl (.int .i64 (y % p)))
      clear hy
      go_wp2_with fail
      go_roundw
      case rel => exact ⟨h + 1, by go_num, by omega, by rw [← RS.out]; exact IS.out, GS.out⟩
      case measure => simp [intOf]; omega
    · obtain rfl : c = h := by omega
      go_wp2_with fail
      go_end0
      exact ⟨rfl, by rw [← RA.out]; exact I.out, G.out⟩
end Go.Proofs.YtcapddcmnjeloaaGreatDoor
end

section
/-
  Chapter 8, in the program: a row without its cell in the pivot's column.
-/
namespace Go.Proofs.YtcapddcmnjeloaaGreatDoor
set_option maxRecDepth 100000
open Go.RowKit
theorem less_mod {p a x b : Int} : (a + (p - x) * b) % p = (a - x * b) % p := by
  rw [show a + (p - x) * b = (a - x * b) + p * b by grind, Int.add_mul_emod_self_left]
set_option maxHeartbeats 2000000 in
theorem iClearM (r c i t j N g mi mt : Nat) (p : Int) (xs : List Int) (w : World) (hN : N = r * c) (hx : xs.length = N) (hc : c ≤ 24) (hir : i < r) (htr : t < r) (hit : i ≠ t) (hj : j < c) (hp : prmB p = true) (hcan : CanL p xs) (hi : Ints w g xs) :
    Calls Tryz.prog 152 #[.slice (some ⟨g, i * c, none⟩) c mi, .slice (some ⟨g, t * c, none⟩) c mt, .int .i64 j, .int .i64 p] w (fun e w' => Void e ∧ Ints w' g (rowL r c i (lsV p (mxC c xs i j) (mxC c xs i) (mxC c xs t)) xs) ∧ w.grownBy w' (some g)) := by
  have hl : xs.length = r * c := by rw [hx, hN]
  obtain ⟨pp, hp2⟩ := prmB_says hp
  have hp1 := pp.1
  have IL : Hid (∀ i q, i < r → q < c → i * c + q < N) := fun i q hi hq => by rw [hN]; exact idx_lt hi hq
  have NI : Hid (∀ k, k < c → 0 ≤ mxC c xs i k ∧ mxC c xs i k < p) := fun k hk => hcan.mx hl hir hk
  have NT : Hid (∀ k, k < c → 0 ≤ mxC c xs t k ∧ mxC c xs t k < p) := fun k hk => hcan.mx hl htr hk
  have hcx : w.cell? ⟨g, i * c + j, none⟩ = some (.int .i64 (mxC c xs i j)) := hi.cell (by rw [hl]; exact idx_lt hir hj)
  obtain ⟨x0, x1⟩ := NI.out j hj
  obtain ⟨x, hxx⟩ : ∃ x, mxC c xs i j = x := ⟨_, rfl⟩
  rw [hxx] at x0 x1 hcx ⊢
  have RT : Hid (∀ k, k < c → (rowTo r c i (lsV p x (mxC c xs i) (mxC c xs t)) xs k).set (i * c + k) ((mxC c xs i k + (p - x) * mxC c xs t k) % p) = rowTo r c i (lsV p x (mxC c xs i) (mxC c xs t)) xs (k + 1)) := fun k hk => by rw [less_mod]; exact rowTo_step hir hk
  have RX : Hid (∀ k, k < c → (rowTo r c i (lsV p x (mxC c xs i) (mxC c xs t)) xs k).getD (i * c + k) 0 = mxC c xs i k) := fun k hk => rowTo_old hir hk (.inr (Nat.le_refl _))
  have RY : Hid (∀ k, k < c → (rowTo r c i (lsV p x (mxC c xs i) (mxC c xs t)) xs k).getD (t * c + k) 0 = mxC c xs t k) := fun k hk => rowTo_old htr hk (.inl (fun e => hit e.symm))
  have RL : Hid (∀ k, (rowTo r c i (lsV p x (mxC c xs i) (mxC c xs t)) xs k).length = N) := fun k => by rw [rowTo_length, hN]
  have RZ : Hid (rowTo r c i (lsV p x (mxC c xs i) (mxC c xs t)) xs 0 = xs) := rowTo_zero hl
  have RA : Hid (rowTo r c i (lsV p x (mxC c xs i) (mxC c xs t)) xs c = rowL r c i (lsV p x (mxC c xs i) (mxC c xs t)) xs) := rowTo_all
  have I := Lib.hid hi
  have lg := hi.lt
  generalize lsV p x (mxC c xs i) (mxC c xs t) = u at RT RX RY RL RZ RA ⊢
  obtain ⟨Di, hDi⟩ : ∃ D, i * c = D := ⟨_, rfl⟩
  obtain ⟨Dt, hDt⟩ : ∃ D, t * c = D := ⟨_, rfl⟩
  have LI : Hid (∀ q, q < c → Di + q < N) := fun q hq => by rw [← hDi]; exact IL.out i q hir hq
  have LT : Hid (∀ q, q < c → Dt + q < N) := fun q hq => by rw [← hDt]; exact IL.out t q htr hq
  rw [hDi] at RT RX hcx ⊢
  rw [hDt] at RY ⊢
  have np : ¬ p = 0 := by omega
  obtain ⟨v, hv⟩ : ∃ v, p - x = v := ⟨_, rfl⟩
  have w0 : IntKind.i64.wrap (p - x) = v := by rw [← hv]; exact IntWalk.i64_in _ (by omega)
  have v0 : 0 ≤ v ∧ v ≤ 10000 := by omega
  rw [hv] at RT
  clear hl hx hN hDi hDt hi IL hv hxx pp hp hcan
  go_enter Tryz.func152, Tryz.ntmps152
  go_wp2_with fail
  go_loopw [9, 18] (fun _ v18 wr => ∃ h : Nat, v18 = .int .i64 h ∧ h ≤ c ∧ Ints wr g (rowTo r c i u xs h) ∧ w.grownBy wr (some g)) (fun _ v18 _ => c - (intOf v18).toNat)
  case atStart => exact ⟨0, rfl, by omega, by rw [RZ.out]; exact I.out, World.grownBy.refl _ _⟩
  case round =>
    clear I hcx
    obtain ⟨h, rfl, hh, hi, hgr⟩ := hrel
    have I := Lib.hid hi
    have G := Lib.hid hgr
    clear hi hgr
    by_cases hlt : h < c
    · have hca := I.out.cell (i := Di + h) (by rw [RL.out]; exact LI.out h hlt)
      have hcb := I.out.cell (i := Dt + h) (by rw [RL.out]; exact LT.out h hlt)
      have hfr := I.out.free (Di + h)
      rw [RX.out h hlt] at hca
      rw [RY.out h hlt] at hcb
      obtain ⟨na1, na2⟩ := NI.out h hlt
      obtain ⟨nb1, nb2⟩ := NT.out h hlt
      have RS := Lib.hid (RT.out h hlt)
      generalize mxC c xs i h = ea at hca na1 na2 RS
      generalize mxC c xs t h = eb at hcb nb1 nb2 RS
      have m1 : 0 ≤ v * eb := Int.mul_nonneg v0.1 nb1
      have m2 : v * eb ≤ 10000 * 10000 := Int.mul_le_mul v0.2 (by omega) nb1 (by omega)
      obtain ⟨o, ho⟩ : ∃ o, v * eb = o := ⟨_, rfl⟩
      have v2 : IntKind.i64.wrap (v * eb) = o := by rw [← ho]; exact IntWalk.i64_in _ (by omega)
      rw [ho] at RS m1 m2
      obtain ⟨f, hf⟩ : ∃ f, ea + o = f := ⟨_, rfl⟩
      have v3 : IntKind.i64.wrap (ea + o) = f := by rw [← hf]; exact IntWalk.i64_in _ (by omega)
      rw [hf] at RS
      have e2 : Int.tmod f p = f % p := Int.tmod_eq_emod_of_nonneg (by omega)
      have IS := Lib.hid ((I.out.drew).set (Di + h) (f % p))
      have GS := Lib.hid (grown_set_one (a := ⟨g, Di + h, none⟩) (grown_drew_one G.out) rfl (.int .i64 (f % p)))
      clear ho hf
      go_wp2_with fail
      go_still_tail 16, (by kernel_rfl)
      go_wp2_with fail
      go_roundw
      case rel => exact ⟨h + 1, by go_num, by omega, by rw [← RS.out]; exact IS.out, GS.out⟩
      case measure => simp [intOf]; omega
    · obtain rfl : c = h := by omega
      go_wp2_with fail
      go_end0
      exact ⟨rfl, by rw [← RA.out]; exact I.out, G.out⟩
end Go.Proofs.YtcapddcmnjeloaaGreatDoor
end

section
/-
  Chapter 7, in the program: the pivot's row of any matrix.
-/
namespace Go.Proofs.YtcapddcmnjeloaaGreatDoor
set_option maxRecDepth 100000
open Go.RowKit
def pvR (r c j t : Nat) (xs : List Int) : Int := if fstR c j xs (r - t) t = r then -1 else (fstR c j xs (r - t) t : Int)
set_option maxHeartbeats 1000000 in
theorem iPivR (r c t j N cap g : Nat) (q : Option Addr) (xs : List Int) (w : World) (hN : N = r * c) (hr : r ≤ 24) (hc : c ≤ 24) (ht : t ≤ r) (hj : j < c) (hg : Cel w q N cap g xs) :
    Calls Tryz.prog 130 #[.agg #[.int .i64 r, .int .i64 c, .slice q N cap], .int .i64 t, .int .i64 j] w (Gives (.int .i64 (pvR r c j t xs)) w) := by
  have hle : r * c ≤ 24 * 24 := Nat.mul_le_mul hr hc
  rw [← hN] at hle
  have hx := hg.len
  have hl : xs.length = r * c := by rw [hx, hN]
  have IX : Hid (∀ i, i < r → ∃ P : Nat, i * c + j = P ∧ P < N ∧ IntKind.i64.wrap ((i : Int) * (c : Int)) = (i : Int) * (c : Int) ∧ IntKind.i64.wrap ((i : Int) * (c : Int) + (j : Int)) = (P : Int)) := fun i hi => by
    have h1 : i * c + j < r * c := idx_lt hi hj
    have c1 : (i : Int) * (c : Int) = ((i * c : Nat) : Int) := (Int.natCast_mul _ _).symm
    refine ⟨i * c + j, rfl, by omega, IntWalk.i64_in _ (by rw [c1]; omega), ?_⟩
    rw [show (i : Int) * (c : Int) + (j : Int) = ((i * c + j : Nat) : Int) by rw [c1]; omega]
    exact IntWalk.i64_in _ (by omega)
  have BW : Hid (Below w.heap.size w (w.alloc (.cells #[.int .i64 r, .int .i64 c, .slice q N cap] 26))) := (Below.refl _ _).alloc (Nat.le_refl _) _
  have K0 : Hid (Blk3 (w.alloc (.cells #[.int .i64 r, .int .i64 c, .slice q N cap] 26)) w.heap.size 26 (.int .i64 r) (.int .i64 c) (.slice q N cap)) := Blk3.at_ _ _ _ _ rfl
  have CX : Hid (∀ i P, i < r → i * c + j = P → ∃ b o : Nat, q = some ⟨b, o, none⟩ ∧ (w.alloc (.cells #[.int .i64 r, .int .i64 c, .slice q N cap] 26)).cell? ⟨b, o + P, none⟩ = some (.int .i64 (mxC c xs i j))) := fun i P hi hP => by
    subst hP
    exact hg.rd.below BW.out _ (by rw [hl]; exact idx_lt hi hj)
  clear hN hx hl hg
  go_enter Tryz.func130, Tryz.ntmps130
  go_wp2_with fail
  generalize w.alloc (.cells #[.int .i64 r, .int .i64 c, .slice q N cap] 26) = W at BW K0 CX
  obtain ⟨p0, p1, p2, -, -, -⟩ := K0.out.all
  go_loopw [6, 7] (fun _ v7 wq => ∃ p : Nat, v7 = .int .i64 p ∧ t ≤ p ∧ p ≤ r ∧ (∀ i, t ≤ i → i < p → mxC c xs i j = 0) ∧ wq = W) (fun _ v7 _ => r - (intOf v7).toNat)
  case atStart => exact ⟨t, rfl, Nat.le_refl _, by omega, fun i h1 h2 => by omega, rfl⟩
  case round =>
    obtain ⟨p, rfl, hp1, hp2, hp0, rfl⟩ := hrel
    have P0 := Lib.hid hp0
    clear hp0
    by_cases hpn : p < r
    · obtain ⟨P, hP, hPN, u1, u2⟩ := IX.out p hpn
      have Pa : (0 : Int) ≤ (P : Int) := by omega
      have Pb : (P : Int) < (N : Int) := by omega
      obtain ⟨b, o, rfl, hcell⟩ := CX.out p P hpn hP
      obtain ⟨x, hxx⟩ : ∃ x, mxC c xs p j = x := ⟨_, rfl⟩
      have X := Lib.hid hxx
      rw [hxx] at hcell
      clear hxx hP
      by_cases h0 : x = 0
      · have n1 : (x != 0) = false := by simp [h0]
        have n2 : (x == 0) = true := by simp [h0]
        have P1 : Hid (∀ i, t ≤ i → i < p + 1 → mxC c xs i j = 0) := fun i h1 h2 => by
          rcases Nat.lt_or_ge i p with h3 | h3
          · exact P0.out i h1 h3
          · obtain rfl : i = p := by omega
            rw [X.out, h0]
        clear h0
        go_wp2_with fail
        go_roundw
        case rel => exact ⟨p + 1, by go_num, by omega, by omega, P1.out, trivial⟩
        case measure => simp [intOf]; omega
      · have n1 : (x != 0) = true := by simpa using h0
        have n2 : (x == 0) = false := by simpa using h0
        have PV : Hid (pvR r c j t xs = p) := by
          have e : fstR c j xs (r - t) t = p := fstR_eq hp1 (by omega) P0.out fun _ => by rw [X.out]; exact h0
          show pvR r c j t xs = p
          unfold pvR
          rw [e, if_neg (by omega)]
        clear h0
        go_wp2_with fail
        go_ret
        exact ⟨by rw [PV.out]; rfl, BW.out⟩
    · have hpe : p = r := by omega
      have PV : Hid (pvR r c j t xs = -1) := by
        show pvR r c j t xs = -1
        unfold pvR
        rw [if_pos ((fstR_eq hp1 (by omega) P0.out fun h => by omega).trans hpe)]
      clear hpe
      go_wp2_with fail
      go_ret
      exact ⟨by rw [PV.out]; rfl, BW.out⟩
end Go.Proofs.YtcapddcmnjeloaaGreatDoor
end

section
/-
  Chapter 3, in the program: a matrix that is handed on if it is valid.
-/
namespace Go.Proofs.YtcapddcmnjeloaaGreatDoor
open Go.RowKit
end Go.Proofs.YtcapddcmnjeloaaGreatDoor
end

section
/-
  Chapter 3, in the program: a fold whose closure writes into its value (MultiplyMatrices).
-/
namespace Go.Proofs.YtcapddcmnjeloaaGreatDoor
set_option maxRecDepth 100000
open Go.RowKit
end Go.Proofs.YtcapddcmnjeloaaGreatDoor
end

section
/-
  Chapter 7, in the program: two rows of any matrix swapped in place.
-/
namespace Go.Proofs.YtcapddcmnjeloaaGreatDoor
set_option maxRecDepth 100000
open Go.RowKit
theorem keepC {W : World} {b g : Nat} {p q v : Value} (h : W.cell? ⟨b, 0, none⟩ = some p ∧ W.cell? ⟨b, 1, none⟩ = some q ∧ W.cell? ⟨b, 2, none⟩ = some v) (hne : b ≠ g) (o : Nat) (u : Value) :
    (W.setCell ⟨g, o, none⟩ u).cell? ⟨b, 0, none⟩ = some p ∧ (W.setCell ⟨g, o, none⟩ u).cell? ⟨b, 1, none⟩ = some q ∧ (W.setCell ⟨g, o, none⟩ u).cell? ⟨b, 2, none⟩ = some v := by
  have e : ∀ k, (W.setCell ⟨g, o, none⟩ u).cell? ⟨b, k, none⟩ = W.cell? ⟨b, k, none⟩ := fun k => World.cell?_setCell_other W _ _ _ (fun e => hne (by injection e with e; exact e.symm))
  exact ⟨(e 0).trans h.1, (e 1).trans h.2.1, (e 2).trans h.2.2⟩
def swTo (p t c : Nat) (xs : List Int) (q : Nat) : List Int := if p = t then xs else opTo 0 p t 0 c xs q
theorem swTo_length (p t c : Nat) (xs : List Int) (q : Nat) : (swTo p t c xs q).length = xs.length := by
  unfold swTo
  split
  · rfl
  · exact opTo_length _ _ _ _ _ _ _
theorem swTo_zero (p t c : Nat) (xs : List Int) : swTo p t c xs 0 = xs := by
  unfold swTo
  split
  · rfl
  · exact opTo_zero _ _ _ _ _ _
theorem swTo_all {p t c : Nat} {xs : List Int} (h : 0 < c) : swTo p t c xs c = swC p t c xs := by
  unfold swTo swC
  split
  · rfl
  · exact opTo_all _ _ _ _ _ _ (.inr h)
theorem set_self (xs : List Int) (i : Nat) : xs.set i (xs.getD i 0) = xs := by
  rcases Nat.lt_or_ge i xs.length with h | h
  · simp [List.getD, h]
  · exact List.set_eq_of_length_le h
theorem swTo_step {r p t c q : Nat} {xs : List Int} (hx : xs.length = r * c) (hp : p < r) (ht : t < r) (hq : q < c) : ((swTo p t c xs q).set (p * c + q) (xs.getD (t * c + q) 0)).set (t * c + q) (xs.getD (p * c + q) 0) = swTo p t c xs (q + 1) := by
  unfold swTo
  by_cases e : p = t
  · rw [if_pos e, if_pos e, e, set_self, set_self]
  · rw [if_neg e, if_neg e]
    exact (op_swap p t 0 c r xs q hx hp ht hq).resolve_right e
theorem swTo_at {r p t c q i : Nat} {xs : List Int} (hx : xs.length = r * c) (hi : i < r) (hq : q < c) : (swTo p t c xs q).getD (i * c + q) 0 = xs.getD (i * c + q) 0 := by
  unfold swTo
  split
  · rfl
  · exact opTo_at _ _ _ _ _ _ _ _ hq (by rw [hx]; exact idx_lt hi hq)
set_option maxHeartbeats 2000000 in
theorem iSwR (r c p t N cap g : Nat) (xs : List Int) (w : World) (hN : N = r * c) (hx : xs.length = N) (hr : r ≤ 24) (hc : c ≤ 24) (hc0 : 0 < c) (hp : p < r) (ht : t < r) (hi : Ints w g xs) :
    Calls Tryz.prog 131 #[.agg #[.int .i64 r, .int .i64 c, .slice (some ⟨g, 0, none⟩) N cap], .int .i64 p, .int .i64 t] w (fun e w' => Void e ∧ Ints w' g (swC p t c xs) ∧ w.grownBy w' (some g)) := by
  have hle : r * c ≤ 24 * 24 := Nat.mul_le_mul hr hc
  rw [← hN] at hle
  have hl : xs.length = r * c := by rw [hx, hN]
  have SL : Hid (∀ q, (swTo p t c xs q).length = N) := fun q => by rw [swTo_length, hx]
  have SS : Hid (∀ q, q < c → ((swTo p t c xs q).set (p * c + q) (xs.getD (t * c + q) 0)).set (t * c + q) (xs.getD (p * c + q) 0) = swTo p t c xs (q + 1)) := fun q hq => swTo_step hl hp ht hq
  have SA : Hid (∀ i q, i < r → q < c → (swTo p t c xs q).getD (i * c + q) 0 = xs.getD (i * c + q) 0) := fun i q hi hq => swTo_at hl hi hq
  have SZ : Hid (swTo p t c xs 0 = xs) := swTo_zero _ _ _ _
  have SE : Hid (swTo p t c xs c = swC p t c xs) := swTo_all hc0
  have IL : Hid (∀ i q, i < r → q < c → i * c + q < N) := fun i q hi hq => by rw [hN]; exact idx_lt hi hq
  have lg := hi.lt
  have GW : Hid (w.grownBy (w.alloc (.cells #[.int .i64 r, .int .i64 c, .slice (some ⟨g, 0, none⟩) N cap] 26)) (some g)) := World.grownBy_alloc _ _ _
  have K0 : Hid (Blk3 (w.alloc (.cells #[.int .i64 r, .int .i64 c, .slice (some ⟨g, 0, none⟩) N cap] 26)) w.heap.size 26 (.int .i64 r) (.int .i64 c) (.slice (some ⟨g, 0, none⟩) N cap)) := Blk3.at_ _ _ _ _ rfl
  have I := Lib.hid (hi.old (.cells #[.int .i64 r, .int .i64 c, .slice (some ⟨g, 0, none⟩) N cap] 26))
  clear hN hx hi hl
  go_enter Tryz.func131, Tryz.ntmps131
  go_wp2_with fail
  generalize w.alloc (.cells #[.int .i64 r, .int .i64 c, .slice (some ⟨g, 0, none⟩) N cap] 26) = W at GW K0 I
  obtain ⟨z0, z1, z2, -, -, -⟩ := K0.out.all
  go_loopw [6, 7, 8, 11] (fun _ _ _ v11 wr => ∃ q : Nat, v11 = .int .i64 q ∧ q ≤ c ∧ Ints wr g (swTo p t c xs q) ∧ W.grownBy wr (some g)) (fun _ _ _ v11 _ => c - (intOf v11).toNat)
  case atStart => exact ⟨0, rfl, by omega, by rw [SZ.out]; exact I.out, World.grownBy.refl _ _⟩
  case round =>
    clear z0 z1 z2
    obtain ⟨q, rfl, hq, hi, hgr⟩ := hrel
    have I := Lib.hid hi
    have G := Lib.hid hgr
    clear hi hgr
    have R0 := Lib.hid (K0.out.keepOne G.out (by omega))
    obtain ⟨r0, r1, r2, -, -, -⟩ := R0.out.all
    by_cases hlt : q < c
    · have ja := IL.out p q hp hlt
      have jb := IL.out t q ht hlt
      have ca : (p : Int) * (c : Int) = ((p * c : Nat) : Int) := (Int.natCast_mul _ _).symm
      have cb : (t : Int) * (c : Int) = ((t * c : Nat) : Int) := (Int.natCast_mul _ _).symm
      obtain ⟨A, hA⟩ : ∃ A, p * c + q = A := ⟨_, rfl⟩
      obtain ⟨C, hC⟩ : ∃ C, t * c + q = C := ⟨_, rfl⟩
      have va0 : IntKind.i64.wrap ((p : Int) * (c : Int)) = (p : Int) * (c : Int) := IntWalk.i64_in _ (by rw [ca]; omega)
      have va1 : IntKind.i64.wrap ((p : Int) * (c : Int) + (q : Int)) = (A : Int) := by
        rw [show (p : Int) * (c : Int) + (q : Int) = (A : Int) by rw [ca, ← hA]; omega]
        exact IntWalk.i64_in _ (by omega)
      have vb0 : IntKind.i64.wrap ((t : Int) * (c : Int)) = (t : Int) * (c : Int) := IntWalk.i64_in _ (by rw [cb]; omega)
      have vb1 : IntKind.i64.wrap ((t : Int) * (c : Int) + (q : Int)) = (C : Int) := by
        rw [show (t : Int) * (c : Int) + (q : Int) = (C : Int) by rw [cb, ← hC]; omega]
        exact IntWalk.i64_in _ (by omega)
      have a0 : (0 : Int) ≤ (A : Int) := by omega
      have a1 : (A : Int) < (N : Int) := by omega
      have b0 : (0 : Int) ≤ (C : Int) := by omega
      have b1 : (C : Int) < (N : Int) := by omega
      have s0 := SS.out q hlt
      have oa := SA.out p q hp hlt
      have ob := SA.out t q ht hlt
      rw [hA] at oa s0
      rw [hC] at ob s0
      have h1 := I.out.cell (i := A) (by rw [SL.out]; omega)
      have h2 := I.out.cell (i := C) (by rw [SL.out]; omega)
      rw [oa] at h1
      rw [ob] at h2
      obtain ⟨x, hxx⟩ : ∃ x, xs.getD A 0 = x := ⟨_, rfl⟩
      obtain ⟨y, hyy⟩ : ∃ y, xs.getD C 0 = y := ⟨_, rfl⟩
      rw [hxx, hyy] at s0
      rw [hxx] at h1
      rw [hyy] at h2
      have S0 := Lib.hid s0
      have OY : Hid (A = C → x = y) := fun h => by rw [← hxx, ← hyy, h]
      have f1 := I.out.free A
      have C36 : C < N := by omega
      clear ca cb hA hC s0 oa ob hxx hyy ja jb
      go_wp2_with fail
      go_quiet (fail)
      have I := Lib.hid (I.out.drewN nq)
      have G := Lib.hid (grown_drewN_one G.out nq)
      have ng : w.heap.size ≠ g := by omega
      replace h1 : (wr.drewN nq).cell? ⟨g, A, none⟩ = some (.int .i64 x) := h1
      replace h2 : (wr.drewN nq).cell? ⟨g, C, none⟩ = some (.int .i64 y) := h2
      replace f1 : (wr.drewN nq).frozen? ⟨g, A, none⟩ = false := f1
      replace r0 : (wr.drewN nq).cell? ⟨w.heap.size, 0, none⟩ = some (.int .i64 r) := r0
      replace r1 : (wr.drewN nq).cell? ⟨w.heap.size, 1, none⟩ = some (.int .i64 c) := r1
      replace r2 : (wr.drewN nq).cell? ⟨w.heap.size, 2, none⟩ = some (.slice (some ⟨g, 0, none⟩) N cap) := r2
      generalize wr.drewN nq = wd at I G h1 h2 f1 r0 r1 r2
      go_upto_region 5 with fail
      have hS := Lib.hid (show wd.drew.cell? ⟨w.heap.size, 0, none⟩ = some (.int .i64 r) ∧ wd.drew.cell? ⟨w.heap.size, 1, none⟩ = some (.int .i64 c) ∧ wd.drew.cell? ⟨w.heap.size, 2, none⟩ = some (.slice (some ⟨g, 0, none⟩) N cap) from ⟨r0, r1, r2⟩)
      have G := Lib.hid (grown_drew_one G.out)
      have ID := I.out.drew
      have IS := ID.set A y
      have f2 := IS.free C
      have h3 := IS.cell (i := C) (by rw [List.length_set, SL.out]; omega)
      have IS2 := Lib.hid (IS.set C x)
      replace h1 : wd.drew.cell? ⟨g, A, none⟩ = some (.int .i64 x) := h1
      replace h2 : wd.drew.cell? ⟨g, C, none⟩ = some (.int .i64 y) := h2
      replace f1 : wd.drew.frozen? ⟨g, A, none⟩ = false := f1
      clear r0 r1 r2 I ID IS
      refine wp_region_held_drew (S := fun w' => w'.cell? ⟨w.heap.size, 0, none⟩ = some (.int .i64 r) ∧ w'.cell? ⟨w.heap.size, 1, none⟩ = some (.int .i64 c) ∧ w'.cell? ⟨w.heap.size, 2, none⟩ = some (.slice (some ⟨g, 0, none⟩) N cap)) (by kernel_rfl) hS.out (fun hH => ?_)
      (try dsimp only at hH)
      generalize wd.drew = we at hS G f2 h3 IS2 h1 h2 f1 hH ⊢
      refine wpAnyH_take (i := 0) (v := ?_) (by simp only [List.getElem?_toArray, List.getElem?_cons_zero]; rfl) (by kernel_rfl) (by kernel_rfl) (by kernel_rfl) (by exact fun _ _ _ h => h) (Or.inl ⟨by rfl, ?_⟩) hH ?_
      rotate_left
      · (intro wS hS; clear hS; go_simp; try rfl)
      try simp only [Act.put, List.setIfInBounds_toArray, List.set_cons_zero, List.set_cons_succ]
      refine wpAnyH_take (i := 1) (v := ?_) (by simp only [List.getElem?_toArray, List.getElem?_cons_succ, List.getElem?_cons_zero]; rfl) (by kernel_rfl) (by kernel_rfl) (by kernel_rfl) (by exact fun _ _ _ h => h) (Or.inl ⟨by rfl, ?_⟩) hH ?_
      rotate_left
      · (intro wS hS; (try dsimp only at hS); obtain ⟨k0, k1, k2⟩ := hS; go_simp; try rfl)
      try simp only [Act.put, List.setIfInBounds_toArray, List.set_cons_zero, List.set_cons_succ]
      refine wpAnyH_take (i := 2) (v := ?_) (by simp only [List.getElem?_toArray, List.getElem?_cons_succ, List.getElem?_cons_zero]; rfl) (by kernel_rfl) (by kernel_rfl) (by kernel_rfl) (by exact fun _ _ _ h => h) (Or.inl ⟨by rfl, ?_⟩) hH ?_
      rotate_left
      · (intro wS hS; clear hS; go_simp; try rfl)
      try simp only [Act.put, List.setIfInBounds_toArray, List.set_cons_zero, List.set_cons_succ]
      refine wpAnyH_take (i := 3) (v := ?_) (by simp only [List.getElem?_toArray, List.getElem?_cons_succ, List.getElem?_cons_zero]; rfl) (by kernel_rfl) (by kernel_rfl) (by kernel_rfl) (by exact fun _ _ _ h => h) (Or.inl ⟨by rfl, ?_⟩) hH ?_
      rotate_left
      · (intro wS hS; clear hS; go_simp; try rfl)
      try simp only [Act.put, List.setIfInBounds_toArray, List.set_cons_zero, List.set_cons_succ]
      refine wpAnyH_take (i := 4) (v := ?_) (by simp only [List.getElem?_toArray, List.getElem?_cons_succ, List.getElem?_cons_zero]; rfl) (by kernel_rfl) (by kernel_rfl) (by kernel_rfl) (by exact fun _ _ _ h => h) (Or.inl ⟨by rfl, ?_⟩) hH ?_
      rotate_left
      · (intro wS hS; (try dsimp only at hS); obtain ⟨k0, k1, k2⟩ := hS; go_simp; try rfl)
      try simp only [Act.put, List.setIfInBounds_toArray, List.set_cons_zero, List.set_cons_succ]
      refine wpAnyH_take (i := 5) (v := ?_) (by simp only [List.getElem?_toArray, List.getElem?_cons_succ, List.getElem?_cons_zero]; rfl) (by kernel_rfl) (by kernel_rfl) (by kernel_rfl) (by exact fun _ _ _ h => h) (Or.inl ⟨by rfl, ?_⟩) hH ?_
      rotate_left
      · (intro wS hS; clear hS; go_simp; try rfl)
      try simp only [Act.put, List.setIfInBounds_toArray, List.set_cons_zero, List.set_cons_succ]
      refine wpAnyH_take (i := 6) (v := ?_) (by simp only [List.getElem?_toArray, List.getElem?_cons_succ, List.getElem?_cons_zero]; rfl) (by kernel_rfl) (by kernel_rfl) (by kernel_rfl) (by exact fun _ _ _ h => h) (Or.inl ⟨by rfl, ?_⟩) hH ?_
      rotate_left
      · (intro wS hS; clear hS; go_simp; try rfl)
      try simp only [Act.put, List.setIfInBounds_toArray, List.set_cons_zero, List.set_cons_succ]
      refine wpAnyH_take (i := 7) (v := ?_) (by simp only [List.getElem?_toArray, List.getElem?_cons_succ, List.getElem?_cons_zero]; rfl) (by kernel_rfl) (by kernel_rfl) (by kernel_rfl) (by exact fun _ _ _ h => h) (Or.inl ⟨by rfl, ?_⟩) hH ?_
      rotate_left
      · (intro wS hS; (try dsimp only at hS); obtain ⟨k0, k1, k2⟩ := hS; go_simp; try rfl)
      try simp only [Act.put, List.setIfInBounds_toArray, List.set_cons_zero, List.set_cons_succ]
      refine wpAnyH_take (i := 8) (v := ?_) (by simp only [List.getElem?_toArray, List.getElem?_cons_succ, List.getElem?_cons_zero]; rfl) (by kernel_rfl) (by kernel_rfl) (by kernel_rfl) (by exact fun _ _ _ h => h) (Or.inl ⟨by rfl, ?_⟩) hH ?_
      rotate_left
      · (intro wS hS; clear hS; go_simp; try rfl)
      try simp only [Act.put, List.setIfInBounds_toArray, List.set_cons_zero, List.set_cons_succ]
      refine wpAnyH_take (i := 9) (v := ?_) (by simp only [List.getElem?_toArray, List.getElem?_cons_succ, List.getElem?_cons_zero]; rfl) (by kernel_rfl) (by kernel_rfl) (by kernel_rfl) (by exact fun _ _ _ h => h) (Or.inl ⟨by rfl, ?_⟩) hH ?_
      rotate_left
      · (intro wS hS; (try dsimp only at hS); obtain ⟨k0, k1, k2⟩ := hS; go_simp; try rfl)
      try simp only [Act.put, List.setIfInBounds_toArray, List.set_cons_zero, List.set_cons_succ]
      refine wpAnyH_take (i := 11) (v := ?_) (by simp only [List.getElem?_toArray, List.getElem?_cons_succ, List.getElem?_cons_zero]; rfl) (by kernel_rfl) (by kernel_rfl) (by kernel_rfl) (by exact fun _ _ _ h => h) (Or.inl ⟨by rfl, ?_⟩) hH ?_
      rotate_left
      · (intro wS hS; clear hS; go_simp; try rfl)
      try simp only [Act.put, List.setIfInBounds_toArray, List.set_cons_zero, List.set_cons_succ]
      refine wpAnyH_take (i := 12) (v := ?_) (by simp only [List.getElem?_toArray, List.getElem?_cons_succ, List.getElem?_cons_zero]; rfl) (by kernel_rfl) (by kernel_rfl) (by kernel_rfl) (by exact fun _ _ _ h => h) (Or.inl ⟨by rfl, ?_⟩) hH ?_
      rotate_left
      · (intro wS hS; (try dsimp only at hS); obtain ⟨k0, k1, k2⟩ := hS; go_simp; try rfl)
      try simp only [Act.put, List.setIfInBounds_toArray, List.set_cons_zero, List.set_cons_succ]
      refine wpAnyH_take (i := 13) (v := ?_) (by simp only [List.getElem?_toArray, List.getElem?_cons_succ, List.getElem?_cons_zero]; rfl) (by kernel_rfl) (by kernel_rfl) (by kernel_rfl) (by exact fun _ _ _ h => h) (Or.inl ⟨by rfl, ?_⟩) hH ?_
      rotate_left
      · (intro wS hS; clear hS; go_simp; try rfl)
      try simp only [Act.put, List.setIfInBounds_toArray, List.set_cons_zero, List.set_cons_succ]
      refine wpAnyH_take (i := 14) (v := ?_) (by simp only [List.getElem?_toArray, List.getElem?_cons_succ, List.getElem?_cons_zero]; rfl) (by kernel_rfl) (by kernel_rfl) (by kernel_rfl) (by exact fun _ _ _ h => h) (Or.inl ⟨by rfl, ?_⟩) hH ?_
      rotate_left
      · (intro wS hS; (try dsimp only at hS); obtain ⟨k0, k1, k2⟩ := hS; go_simp; try rfl)
      try simp only [Act.put, List.setIfInBounds_toArray, List.set_cons_zero, List.set_cons_succ]
      refine wpAnyH_ready (rs := [10, 15]) (by kernel_rfl) (by simp) ?_
      refine AllReadyH.cons (by simp only [List.getElem?_toArray, List.getElem?_cons_succ, List.getElem?_cons_zero]; rfl) (fun KK hKK => ?_) (AllReadyH.cons (by simp only [List.getElem?_toArray, List.getElem?_cons_succ, List.getElem?_cons_zero]; rfl) (fun KK hKK => ?_) AllReadyH.nil)
      · go_simp
        try dsimp only
        refine hKK.out _ _ ?_ (fun hH2 => ?_)
        · exact hH
        clear hKK KK
        have hO := hH
        clear hH
        have hH := hH2
        clear hH2
        try simp only [Act.put, List.setIfInBounds_toArray, List.set_cons_zero, List.set_cons_succ]
        refine wpAnyH_ready (rs := [15]) (by kernel_rfl) (by simp) ?_
        refine AllReadyH.cons (by simp only [List.getElem?_toArray, List.getElem?_cons_succ, List.getElem?_cons_zero]; rfl) (fun KK hKK => ?_) AllReadyH.nil
        go_simp
        try dsimp only
        refine hKK.out _ _ ?_ (fun hH2 => ?_)
        · exact hH
        clear hKK KK
        have hO := hH
        clear hH
        have hH := hH2
        clear hH2
        try simp only [Act.put, List.setIfInBounds_toArray, List.set_cons_zero, List.set_cons_succ]
        refine wpAnyH_take (i := 16) (v := ?_) (by simp only [List.getElem?_toArray, List.getElem?_cons_succ, List.getElem?_cons_zero]; rfl) (by kernel_rfl) (by kernel_rfl) (by kernel_rfl) (by exact fun _ _ _ h => h) (Or.inl ⟨by rfl, ?_⟩) hH ?_
        rotate_left
        · (intro wS hS; (try dsimp only at hS); obtain ⟨k0, k1, k2⟩ := hS; go_simp; try rfl)
        try simp only [Act.put, List.setIfInBounds_toArray, List.set_cons_zero, List.set_cons_succ]
        refine wpAnyH_ready (rs := [17]) (by kernel_rfl) (by simp) ?_
        refine AllReadyH.cons (by simp only [List.getElem?_toArray, List.getElem?_cons_succ, List.getElem?_cons_zero]; rfl) (fun KK hKK => ?_) AllReadyH.nil
        go_simp
        try dsimp only
        refine hKK.out _ _ ?_ (fun hH2 => ?_)
        · exact keepC hH ng _ _
        clear hKK KK
        have hO := hH
        clear hH
        have hH := hH2
        clear hH2
        try simp only [Act.put, List.setIfInBounds_toArray, List.set_cons_zero, List.set_cons_succ]
        refine wpAnyH_take (i := 18) (v := ?_) (by simp only [List.getElem?_toArray, List.getElem?_cons_succ, List.getElem?_cons_zero]; rfl) (by kernel_rfl) (by kernel_rfl) (by kernel_rfl) (by exact fun _ _ _ h => h) (Or.inl ⟨by rfl, ?_⟩) hH ?_
        rotate_left
        · (intro wS hS; (try dsimp only at hS); obtain ⟨k0, k1, k2⟩ := hS; go_simp; try rfl)
        try simp only [Act.put, List.setIfInBounds_toArray, List.set_cons_zero, List.set_cons_succ]
        refine wpAnyH_ready (rs := [19]) (by kernel_rfl) (by simp) ?_
        refine AllReadyH.cons (by simp only [List.getElem?_toArray, List.getElem?_cons_succ, List.getElem?_cons_zero]; rfl) (fun KK hKK => ?_) AllReadyH.nil
        go_simp
        try dsimp only
        refine hKK.out _ _ ?_ (fun hH2 => ?_)
        · exact keepC hH ng _ _
        clear hKK KK
        have hO := hH
        clear hH
        have hH := hH2
        clear hH2
        try simp only [Act.put, List.setIfInBounds_toArray, List.set_cons_zero, List.set_cons_succ]
        refine wpAnyH_done (by kernel_rfl) ?_ _
        go_wp2_with fail
        go_roundw
        case rel => exact ⟨q + 1, by go_num, by omega, by rw [← S0.out]; exact IS2.out, grown_set_one (a := ⟨g, C, none⟩) (grown_set_one (a := ⟨g, A, none⟩) G.out rfl _) rfl _⟩
        case measure => simp [intOf]; omega
      · go_simp
        try dsimp only
        refine hKK.out _ _ ?_ (fun hH2 => ?_)
        · exact hH
        clear hKK KK
        have hO := hH
        clear hH
        have hH := hH2
        clear hH2
        try simp only [Act.put, List.setIfInBounds_toArray, List.set_cons_zero, List.set_cons_succ]
        refine wpAnyH_ready (rs := [10]) (by kernel_rfl) (by simp) ?_
        refine AllReadyH.cons (by simp only [List.getElem?_toArray, List.getElem?_cons_succ, List.getElem?_cons_zero]; rfl) (fun KK hKK => ?_) AllReadyH.nil
        go_simp
        try dsimp only
        refine hKK.out _ _ ?_ (fun hH2 => ?_)
        · exact hH
        clear hKK KK
        have hO := hH
        clear hH
        have hH := hH2
        clear hH2
        try simp only [Act.put, List.setIfInBounds_toArray, List.set_cons_zero, List.set_cons_succ]
        refine wpAnyH_take (i := 16) (v := ?_) (by simp only [List.getElem?_toArray, List.getElem?_cons_succ, List.getElem?_cons_zero]; rfl) (by kernel_rfl) (by kernel_rfl) (by kernel_rfl) (by exact fun _ _ _ h => h) (Or.inl ⟨by rfl, ?_⟩) hH ?_
        rotate_left
        · (intro wS hS; (try dsimp only at hS); obtain ⟨k0, k1, k2⟩ := hS; go_simp; try rfl)
        try simp only [Act.put, List.setIfInBounds_toArray, List.set_cons_zero, List.set_cons_succ]
        refine wpAnyH_ready (rs := [17]) (by kernel_rfl) (by simp) ?_
        refine AllReadyH.cons (by simp only [List.getElem?_toArray, List.getElem?_cons_succ, List.getElem?_cons_zero]; rfl) (fun KK hKK => ?_) AllReadyH.nil
        go_simp
        try dsimp only
        refine hKK.out _ _ ?_ (fun hH2 => ?_)
        · exact keepC hH ng _ _
        clear hKK KK
        have hO := hH
        clear hH
        have hH := hH2
        clear hH2
        try simp only [Act.put, List.setIfInBounds_toArray, List.set_cons_zero, List.set_cons_succ]
        refine wpAnyH_take (i := 18) (v := ?_) (by simp only [List.getElem?_toArray, List.getElem?_cons_succ, List.getElem?_cons_zero]; rfl) (by kernel_rfl) (by kernel_rfl) (by kernel_rfl) (by exact fun _ _ _ h => h) (Or.inl ⟨by rfl, ?_⟩) hH ?_
        rotate_left
        · (intro wS hS; (try dsimp only at hS); obtain ⟨k0, k1, k2⟩ := hS; go_simp; try rfl)
        try simp only [Act.put, List.setIfInBounds_toArray, List.set_cons_zero, List.set_cons_succ]
        refine wpAnyH_ready (rs := [19]) (by kernel_rfl) (by simp) ?_
        refine AllReadyH.cons (by simp only [List.getElem?_toArray, List.getElem?_cons_succ, List.getElem?_cons_zero]; rfl) (fun KK hKK => ?_) AllReadyH.nil
        go_simp
        try dsimp only
        refine hKK.out _ _ ?_ (fun hH2 => ?_)
        · exact keepC hH ng _ _
        clear hKK KK
        have hO := hH
        clear hH
        have hH := hH2
        clear hH2
        try simp only [Act.put, List.setIfInBounds_toArray, List.set_cons_zero, List.set_cons_succ]
        refine wpAnyH_done (by kernel_rfl) ?_ _
        go_wp2_with fail
        go_roundw
        case rel => exact ⟨q + 1, by go_num, by omega, by rw [← S0.out]; exact IS2.out, grown_set_one (a := ⟨g, C, none⟩) (grown_set_one (a := ⟨g, A, none⟩) G.out rfl _) rfl _⟩
        case measure => simp [intOf]; omega
    · obtain rfl : c = q := by omega
      clear hlt
      go_wp2_with fail
      go_end0
      exact ⟨rfl, by rw [← SE.out]; exact I.out, GW.out.trans G.out⟩
end Go.Proofs.YtcapddcmnjeloaaGreatDoor
end

section
/-
  Chapter 7, in the program: a row without its cell in the pivot's column.
-/
namespace Go.Proofs.YtcapddcmnjeloaaGreatDoor
set_option maxRecDepth 100000
open Go.RowKit
end Go.Proofs.YtcapddcmnjeloaaGreatDoor
end

section
/-
  Chapter 7, in the program: the elimination.
-/
namespace Go.Proofs.YtcapddcmnjeloaaGreatDoor
set_option maxRecDepth 100000
open Go.RowKit
end Go.Proofs.YtcapddcmnjeloaaGreatDoor
end

section
/-
  Chapter 8, in the program: the elimination over residues.
-/
namespace Go.Proofs.YtcapddcmnjeloaaGreatDoor
set_option maxRecDepth 100000
open Go.RowKit
structure EmSt (w : World) (b r c N cap g : Nat) (q : Option Addr) (ys : List Int) (wr : World) : Prop where
  blk : Blk3 wr b 26 (.int .i64 r) (.int .i64 c) (.slice q N cap)
  cel : Cel wr q N cap g ys
  gro : w.grownBy wr (Value.slice q N cap).ownBlock
theorem EmSt.below {w : World} {b r c N cap g : Nat} {q : Option Addr} {ys : List Int} {wr w' : World} (h : EmSt w b r c N cap g q ys wr) (hb : Below wr.heap.size wr w') : EmSt w b r c N cap g q ys w' :=
  ⟨h.blk.step hb, h.cel.keep hb, h.gro.trans (grown_of_below hb _)⟩
theorem EmSt.one {w : World} {b r c N cap g : Nat} {ys ys' : List Int} {wr w' : World} (h : EmSt w b r c N cap g (some ⟨g, 0, none⟩) ys wr) (hl : ys'.length = N) (hi : Ints w' g ys') (hg : wr.grownBy w' (some g)) (hb : b ≠ g) : EmSt w b r c N cap g (some ⟨g, 0, none⟩) ys' w' :=
  ⟨h.blk.keepOne hg hb, .inr ⟨rfl, h.cel.le, hl, hi⟩, h.gro.trans hg⟩
theorem clP_clear {p : Int} {r c t j l i : Nat} {us : List Int} (hx : us.length = r * c) (hcan : CanL p us) (hi : i < r) (hit : i ≠ t) : clP p r c t j (l + 1) i us = clP p r c t j l (i + 1) (rowL r c i (lsV p (mxC c us i j) (mxC c us i) (mxC c us t)) us) := by
  by_cases h0 : mxC c us i j = 0
  · rw [clP_skip (.inr h0), h0]
    congr 1
    refine (rowL_self hx fun _ k hk => ?_).symm
    obtain ⟨h1, h2⟩ := hcan.mx hx hi hk
    show (mxC c us i k - 0 * mxC c us t k) % p = mxC c us i k
    rw [Int.zero_mul, Int.sub_zero]
    exact Int.emod_eq_of_lt h1 h2
  · exact clP_on (fun h => h.elim hit h0)
theorem elP_full {p : Int} {r c k j : Nat} {xs : List Int} {pv : List Nat} {d : Int} (h : ¬ pv.length < r) : elP p r c (k + 1) j xs pv d = elP p r c k (j + 1) xs pv d := by rw [elP_end h, elP_end h]
theorem prod_pos {p d x : Int} (hp : Prm p) (d0 : 0 < d) (d1 : d < p) (x0 : 0 < x) (x1 : x < p) : 0 < (d * x) % p := by
  have h1 := Int.emod_nonneg (d * x) (show p ≠ 0 by omega)
  rcases Int.lt_or_eq_of_le h1 with h | h
  · exact h
  · rcases hp.mul (Int.dvd_of_emod_eq_zero h.symm) with h2 | h2
    · have := Int.le_of_dvd d0 h2; omega
    · have := Int.le_of_dvd x0 h2; omega
theorem neg_mod {p d : Int} (d0 : 0 < d) (d1 : d < p) : (-d) % p = p - d := by
  rw [show -d = (p - d) + p * (-1) by grind, Int.add_mul_emod_self_left]
  exact Int.emod_eq_of_lt (by omega) (by omega)
set_option maxHeartbeats 4000000 in
theorem iElim (r c n N cap g : Nat) (q : Option Addr) (p : Int) (xs : List Int) (w : World) (hN : N = r * c) (hr : r ≤ 24) (hc : c ≤ 24) (hnc : n ≤ c) (hp : prmB p = true) (hcan : CanL p xs) (hi : Cel w q N cap g xs) :
    Calls Tryz.prog 107 #[.agg #[.int .i64 r, .int .i64 c, .slice q N cap], .int .i64 n, .int .i64 p] w (fun e w' => e = .returned (.tuple #[.int .i64 ((elP p r c n 0 xs [] 1).2.1.length : Int), .int .i64 (elP p r c n 0 xs [] 1).2.2]) ∧ Cel w' q N cap g (elP p r c n 0 xs [] 1).1 ∧ w.grownBy w' (Value.slice q N cap).ownBlock) := by
  have hle : r * c ≤ 24 * 24 := Nat.mul_le_mul hr hc
  rw [← hN] at hle
  obtain ⟨pp, hp2⟩ := prmB_says hp
  have hp1 := pp.1
  have np : ¬ p = 0 := by omega
  have PP := Lib.hid pp
  have PB := Lib.hid hp
  have DL : Hid (∀ i, i < r → i * c + c ≤ N) := fun i hi => by rw [hN, ← Nat.succ_mul]; exact Nat.mul_le_mul_right _ hi
  have bne : ∀ g', q = some ⟨g', 0, none⟩ → 0 < N → w.heap.size ≠ g' := fun g' e h0 => by
    obtain ⟨e2, hI⟩ := hi.ints h0
    rw [e] at e2
    injection e2 with e2
    injection e2 with e2
    have := hI.lt
    omega
  have BN := Lib.hid bne
  obtain ⟨RES, hRES⟩ : ∃ RES, elP p r c n 0 xs [] 1 = RES := ⟨_, rfl⟩
  have HR := Lib.hid hRES
  rw [hRES]
  have HN := Lib.hid hN
  have CX := Lib.hid hcan
  have S0 : Hid (EmSt w w.heap.size r c N cap g q xs (w.alloc (.cells #[.int .i64 r, .int .i64 c, .slice q N cap] 26))) := ⟨Blk3.at_ _ _ _ _ rfl, hi.keep ((Below.refl _ _).alloc (Nat.le_refl _) _), World.grownBy_alloc w _ _⟩
  obtain ⟨b, hb⟩ : ∃ b, w.heap.size = b := ⟨_, rfl⟩
  have HB := Lib.hid hb
  clear hN hcan pp hRES hp hi bne hb
  go_enter Tryz.func107, Tryz.ntmps107
  go_upto_region 1 with fail
  rw [HB.out] at S0 BN ⊢
  generalize w.alloc (.cells #[.int .i64 r, .int .i64 c, .slice q N cap] 26) = W at S0 ⊢
  go_wp2_with fail
  go_loopw [8, 9, 10, 11, 12, 13, 15, 54] (fun v8 v9 _ _ _ _ v15 _ wr => ∃ (j k : Nat) (ys : List Int) (pv : List Nat) (d : Int), v8 = .int .i64 (pv.length : Int) ∧ v9 = .int .i64 d ∧ v15 = .int .i64 j ∧ j + k = n ∧ CanL p ys ∧ pv.length ≤ r ∧ 0 < d ∧ d < p ∧ elP p r c k j ys pv d = RES ∧ EmSt w b r c N cap g q ys wr) (fun _ _ _ _ _ _ v15 _ _ => n - (intOf v15).toNat)
  case atStart => exact ⟨0, n, xs, [], 1, rfl, rfl, rfl, by omega, CX.out, by simp, by omega, by omega, HR.out, S0.out⟩
  case round =>
    clear S0 HR CX HB
    obtain ⟨j, k, ys, pv, d, rfl, rfl, rfl, hjk, hn, hpv, hd0, hd1, hR, hst⟩ := hrel
    have ST := Lib.hid hst
    have HY := Lib.hid hn
    have HR := Lib.hid hR
    have HL := Lib.hid hst.cel.len
    clear hst hn hR
    obtain ⟨t, ht⟩ : ∃ t, pv.length = t := ⟨_, rfl⟩
    have PT := Lib.hid ht
    rw [ht] at hpv ⊢
    clear ht
    obtain ⟨p0, p1, p2, -, -, -⟩ := ST.out.blk.all
    by_cases hjn : j < n
    · have hjc : j < c := by omega
      obtain ⟨k, rfl⟩ : ∃ k', k = k' + 1 := ⟨k - 1, by omega⟩
      obtain ⟨f1, f2, f3, f4⟩ := fstR_says (c := c) (j := j) (xs := ys) (k := r - t) (p := t)
      go_wp2_with fail
      refine (iPivR r c t j N cap g q ys _ HN.out hr hc hpv hjc ST.out.cel).mono ?_
      rintro e w5 ⟨rfl, hb5⟩
      have ST := Lib.hid (ST.out.below hb5)
      clear hb5 p0 p1 p2
      by_cases hf : fstR c j ys (r - t) t = r
      · have n1 : pvR r c j t ys = -1 := if_pos hf
        have HE : Hid (elP p r c k (j + 1) ys pv d = RES) := by
          have h1 := HR.out
          by_cases htl : t < r
          · rw [elP_skip (by rw [PT.out]; exact htl) (by rw [PT.out]; exact hf)] at h1
            exact h1
          · rw [elP_full (by rw [PT.out]; exact htl)] at h1
            exact h1
        rw [n1]
        clear n1 hf f1 f2 f3 f4
        go_wp2_with fail
        go_roundw
        case rel => exact ⟨j + 1, k, ys, pv, d, by rw [PT.out], rfl, by go_num, by omega, HY.out, by rw [PT.out]; exact hpv, hd0, hd1, HE.out, ST.out⟩
        case measure => simp [intOf]; omega
      · have n1 : pvR r c j t ys = (fstR c j ys (r - t) t : Int) := if_neg hf
        obtain ⟨s, hs⟩ : ∃ s, fstR c j ys (r - t) t = s := ⟨_, rfl⟩
        rw [hs] at n1 hf f1 f2 f3 f4
        have hsr : s < r := by omega
        have htl : t < r := by omega
        have N0 : 0 < N := by have := DL.out t htl; omega
        have FS : Hid (fstR c j ys (r - pv.length) pv.length = s) := by show _ = _; rw [PT.out]; exact hs
        obtain ⟨rfl, hI⟩ := ST.out.cel.ints N0
        have II := Lib.hid hI
        have bg : b ≠ g := BN.out g rfl N0
        have ZL : Hid ((swC s t c ys).length = N) := by show _ = _; rw [swC_length, HL.out]
        have ZC : Hid (CanL p (swC s t c ys)) := HY.out.sw (by rw [HL.out, HN.out]) hsr htl
        have x0 : mxC c (swC s t c ys) t j ≠ 0 := by
          rw [swC_at (by rw [HL.out, HN.out]) htl hjc]
          by_cases e : t = s
          · rw [if_pos e, e]; exact f4 (by omega)
          · rw [if_neg e, if_pos rfl]; exact f4 (by omega)
        obtain ⟨x1, x2⟩ := ZC.out.mx (by rw [ZL.out, HN.out]) htl hjc
        have EO : Hid (elP p r c k (j + 1) (clP p r c t j r 0 (rowL r c t (scV p (invF p (mxC c (swC s t c ys) t j)) (mxC c (swC s t c ys) t)) (swC s t c ys))) (pv ++ [j]) (((if s = t then d else (-d) % p) * mxC c (swC s t c ys) t j) % p) = RES) := by
          have h1 := HR.out
          rw [elP_on (s := s) (by rw [PT.out]; exact htl) FS.out (by omega), PT.out] at h1
          exact h1
        have SN : Hid (s = t → ys = swC s t c ys) := fun h => by unfold swC; rw [if_pos h]
        have n2 : decide ((s : Int) < 0) = false := decide_eq_false (by omega)
        obtain ⟨x, hx⟩ : ∃ x, mxC c (swC s t c ys) t j = x := ⟨_, rfl⟩
        have X := Lib.hid hx
        rw [hx] at x0 x1 x2 EO
        obtain ⟨d2, hd2⟩ : ∃ d2, (if s = t then d else (-d) % p) = d2 := ⟨_, rfl⟩
        have D2 := Lib.hid hd2
        rw [hd2] at EO
        have d20 : 0 < d2 ∧ d2 < p := by
          rw [← hd2]
          split
          · exact ⟨hd0, hd1⟩
          · rw [neg_mod hd0 hd1]; omega
        obtain ⟨d21, d22⟩ := d20
        have DP := Lib.hid (prod_pos PP.out d21 d22 (by omega) x2)
        have SWC : Hid (∀ w', Ints w' g ys → Calls Tryz.prog 131 #[.agg #[.int .i64 r, .int .i64 c, .slice (some ⟨g, 0, none⟩) N cap], .int .i64 s, .int .i64 t] w' (fun e w2 => Void e ∧ Ints w2 g (swC s t c ys) ∧ w'.grownBy w2 (some g))) := fun w' hi' => iSwR r c s t N cap g ys w' HN.out HL.out hr hc (by omega) hsr htl hi'
        have RW : Hid (∀ i, i < r → ∀ w', Calls Tryz.prog 44 #[.agg #[.int .i64 r, .int .i64 c, .slice (some ⟨g, 0, none⟩) N cap], .int .i64 i] w' (RowAt (some ⟨g, 0, none⟩) (i * c) c w')) := fun i hi w' => iRowIn r c i (i * c) N cap _ w' (.inr ⟨g, 0, rfl⟩) rfl (DL.out i hi) ST.out.cel.le (fun h => by cases h) (by omega) (by omega)
        rw [n1]
        clear n1 hf f1 f2 f3 f4 hI hs FS hx hd2 HR
        obtain ⟨p0, p1, p2, -, -, -⟩ := ST.out.blk.all
        go_upto_if 26 with fail
        generalize swC s t c ys = zs at ZL ZC EO SN X SWC
        go_cut [9] (fun v9 wx => v9 = .int .i64 d2 ∧ EmSt w b r c N cap g (some ⟨g, 0, none⟩) zs wx)
        case first =>
          by_cases hst : s = t
          · have n3 : ((s : Int) != (t : Int)) = false := by simp [hst]
            have hs := ST.out
            rw [SN.out hst] at hs
            have S2 := Lib.hid hs
            have DD : Hid (d = d2) := by show _ = _; rw [← D2.out, if_pos hst]
            clear hs hst
            go_wp2_with fail
            go_meet
            exact ⟨by rw [DD.out], S2.out⟩
          · have n3 : ((s : Int) != (t : Int)) = true := by simp; omega
            have DD : Hid (p - d = d2) := by show _ = _; rw [← D2.out, if_neg hst, neg_mod hd0 hd1]
            have w9 : IntKind.i64.wrap (p - d) = p - d := IntWalk.i64_in _ (by omega)
            clear hst
            go_wp2_with fail
            refine (SWC.out _ II.out).mono ?_
            rintro e w6 ⟨rfl, hi6, hg6⟩
            have S6 := Lib.hid (ST.out.one ZL.out hi6 hg6 bg)
            clear hi6 hg6 p0 p1 p2
            go_wp2_with fail
            go_meet
            exact ⟨by rw [DD.out], S6.out⟩
        case rest =>
          clear ST II SN HY HL D2 SWC
          obtain ⟨rfl, hst⟩ := hcut
          have ST := Lib.hid hst
          clear hst p0 p1 p2
          obtain ⟨p0, p1, p2, -, -, -⟩ := ST.out.blk.all
          have DV : Hid (∀ (m : Nat) (w' : World), Ints w' g zs → Calls Tryz.prog 151 #[.slice (some ⟨g, t * c, none⟩) c m, .int .i64 x, .int .i64 p] w' (fun e w2 => Void e ∧ Ints w2 g (rowL r c t (scV p (invF p x) (mxC c zs t)) zs) ∧ w'.grownBy w2 (some g))) := fun m w' hi' => iDivide r c t N g m x p zs w' HN.out ZL.out hc htl PB.out ZC.out x1 x2 x0 hi'
          have UL : Hid ((rowL r c t (scV p (invF p x) (mxC c zs t)) zs).length = N) := by show _ = _; rw [rowL_length, HN.out]
          have UC : Hid (CanL p (rowL r c t (scV p (invF p x) (mxC c zs t)) zs)) := ZC.out.row (by rw [ZL.out, HN.out]) fun q _ => ⟨Int.emod_nonneg _ (by omega), Int.emod_lt_of_pos _ (by omega)⟩
          generalize rowL r c t (scV p (invF p x) (mxC c zs t)) zs = vs at DV UL UC EO
          have CZ : Hid (∀ w', Ints w' g zs → w'.cell? ⟨g, t * c + j, none⟩ = some (.int .i64 x)) := fun w' hi' => by
            have h1 := hi'.cell (i := t * c + j) (by rw [ZL.out, HN.out]; exact idx_lt htl hjc)
            rw [show zs.getD (t * c + j) 0 = x from X.out] at h1
            exact h1
          obtain ⟨m3, m4⟩ := mul_bd (show 0 ≤ d2 by omega) d22 x1 x2 hp2
          obtain ⟨y, hy⟩ : ∃ y, d2 * x = y := ⟨_, rfl⟩
          have w8 : IntKind.i64.wrap (d2 * x) = y := by rw [← hy]; exact IntWalk.i64_in _ (by omega)
          rw [hy] at m3 m4 EO DP
          have e8 : Int.tmod y p = y % p := Int.tmod_eq_emod_of_nonneg m3
          clear hy ZC ZL X
          go_wp2_with fail
          refine (RW.out t htl _).mono ?_
          rintro e v1 ⟨q1, m1, rfl, hm1, hq1, -, hb1⟩
          obtain rfl := hq1 g 0 rfl (by omega)
          rw [Nat.zero_add]
          have S1 := Lib.hid (ST.out.below hb1)
          clear hq1 hb1 ST p0 p1 p2
          have hcz := CZ.out _ (S1.out.cel.ints N0).2
          go_wp2_with fail
          refine (DV.out _ _ (S1.out.cel.ints N0).2).mono ?_
          rintro e v2 ⟨rfl, hi2, hg2⟩
          have S2 := Lib.hid (S1.out.one UL.out hi2 hg2 bg)
          clear hi2 hg2 S1 hcz DV CZ
          obtain ⟨p0, p1, p2, -, -, -⟩ := S2.out.blk.all
          obtain ⟨E, hE⟩ : ∃ E, clP p r c t j r 0 vs = E := ⟨_, rfl⟩
          rw [hE] at EO
          have EE := Lib.hid hE
          clear hE
          go_wp2_with fail
          clear p0 p1 p2
          go_loopw [13, 54] (fun _ v54 wu => ∃ (i l : Nat) (us : List Int), v54 = .int .i64 i ∧ i + l = r ∧ CanL p us ∧ clP p r c t j l i us = E ∧ EmSt w b r c N cap g (some ⟨g, 0, none⟩) us wu) (fun _ v54 _ => r - (intOf v54).toNat)
          case atStart => exact ⟨0, r, vs, rfl, by omega, UC.out, EE.out, S2.out⟩
          case round =>
            clear S2 UL UC EE
            obtain ⟨i, l, us, rfl, hil, hun, hue, hst⟩ := hrel
            have ST := Lib.hid hst
            have UL := Lib.hid hst.cel.len
            have UN := Lib.hid hun
            have UE := Lib.hid hue
            clear hst hun hue
            obtain ⟨p0, p1, p2, -, -, -⟩ := ST.out.blk.all
            by_cases hir : i < r
            · obtain ⟨l, rfl⟩ : ∃ l', l = l' + 1 := ⟨l - 1, by omega⟩
              by_cases hit : i = t
              · have n2 : ((i : Int) != (t : Int)) = false := by simp [hit]
                have UE2 : Hid (clP p r c t j l (i + 1) us = E) := by
                  have h1 := UE.out
                  rw [clP_skip (.inl hit)] at h1
                  exact h1
                clear hit
                go_wp2_with fail
                go_roundw
                case rel => exact ⟨i + 1, l, us, by go_num, by omega, UN.out, UE2.out, ST.out⟩
                case measure => simp [intOf]; omega
              · have n2 : ((i : Int) != (t : Int)) = true := by simp; omega
                have CM : Hid (∀ (mi : Nat) (w' : World), Ints w' g us → Calls Tryz.prog 152 #[.slice (some ⟨g, i * c, none⟩) c mi, .slice (some ⟨g, t * c, none⟩) c m1, .int .i64 j, .int .i64 p] w' (fun e w2 => Void e ∧ Ints w2 g (rowL r c i (lsV p (mxC c us i j) (mxC c us i) (mxC c us t)) us) ∧ w'.grownBy w2 (some g))) := fun mi w' hi' => iClearM r c i t j N g mi m1 p us w' HN.out UL.out hc hir htl hit hjc PB.out UN.out hi'
                have UE2 : Hid (clP p r c t j l (i + 1) (rowL r c i (lsV p (mxC c us i j) (mxC c us i) (mxC c us t)) us) = E) := by
                  have h1 := UE.out
                  rw [clP_clear (by rw [UL.out, HN.out]) UN.out hir hit] at h1
                  exact h1
                have VL : Hid ((rowL r c i (lsV p (mxC c us i j) (mxC c us i) (mxC c us t)) us).length = N) := by show _ = _; rw [rowL_length, HN.out]
                have VC : Hid (CanL p (rowL r c i (lsV p (mxC c us i j) (mxC c us i) (mxC c us t)) us)) := UN.out.row (by rw [UL.out, HN.out]) fun q _ => ⟨Int.emod_nonneg _ (by omega), Int.emod_lt_of_pos _ (by omega)⟩
                generalize rowL r c i (lsV p (mxC c us i j) (mxC c us i) (mxC c us t)) us = ws at CM UE2 VL VC
                clear hit
                go_wp2_with fail
                refine (RW.out i hir _).mono ?_
                rintro e v3 ⟨q3, m3', rfl, -, hq3, -, hb3⟩
                obtain rfl := hq3 g 0 rfl (by omega)
                rw [Nat.zero_add]
                have S3 := Lib.hid (ST.out.below hb3)
                clear hq3 hb3 ST p0 p1 p2
                go_wp2_with fail
                refine (CM.out _ _ (S3.out.cel.ints N0).2).mono ?_
                rintro e v4 ⟨rfl, hi4, hg4⟩
                have S4 := Lib.hid (S3.out.one VL.out hi4 hg4 bg)
                clear hi4 hg4
                go_wp2_with fail
                go_roundw
                case rel => exact ⟨i + 1, l, ws, by go_num, by omega, VC.out, UE2.out, S4.out⟩
                case measure => simp [intOf]; omega
            · obtain rfl : l = 0 := by omega
              have UF : Hid (us = E) := UE.out
              have UR : Hid (elP p r c k (j + 1) us (pv ++ [j]) (y % p) = RES) := by
                have h1 := EO.out
                rw [← UF.out] at h1
                exact h1
              have y1 : y % p < p := Int.emod_lt_of_pos _ (by omega)
              have LP : Hid ((t : Int) + 1 = (((pv ++ [j]).length : Nat) : Int)) := by show _ = _; rw [List.length_append, PT.out]; simp
              have LR : Hid ((pv ++ [j]).length ≤ r) := by show _ ≤ _; rw [List.length_append, PT.out]; simp; omega
              have w7 : IntKind.i64.wrap ((t : Int) + 1) = (t : Int) + 1 := IntWalk.i64_in _ (by omega)
              go_wp2_with fail
              go_roundw
              case rel => exact ⟨j + 1, k, us, pv ++ [j], y % p, by rw [← LP.out], rfl, by go_num, by omega, UN.out, LR.out, DP.out, y1, UR.out, ST.out⟩
              case measure => simp [intOf]; omega
    · obtain rfl : k = 0 := by omega
      have RF : Hid ((ys, pv, d) = RES) := HR.out
      go_wp2_with fail
      refine bodyPost_ret (v := .tuple #[.int .i64 (t : Int), .int .i64 d]) (by simp [results, Tryz.results107, go_sem]) rfl ⟨?_, ?_, ST.out.gro⟩
      · rw [← RF.out, ← PT.out]
      · rw [← RF.out]; exact ST.out.cel
end Go.Proofs.YtcapddcmnjeloaaGreatDoor
end

section
/-
  Chapter 8, in the program: RankMod, DeterminantMod.
-/
namespace Go.Proofs.YtcapddcmnjeloaaGreatDoor
set_option maxRecDepth 100000
open Go.RowKit
end Go.Proofs.YtcapddcmnjeloaaGreatDoor
end
