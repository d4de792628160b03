/-
  Texts of this seat, joined: PrI3 · NumIDiv · CopyI · MatI · RwI · SpnT · EchLaw · EchB · SgMath · LdI · Row3
-/
import Derived.Shelf.Abstract
import Derived.WalkKit
import Derived.OwnWalkIn
import Derived.TacticsInMore
import Derived.LoopNIn
import Derived.LoopIn
import Derived.Maps.AppendAt
import Derived.Test.YtncplikadacjnaaRows
import Derived.BigQuiet
import Derived.Deep.QuietTactic
import Derived.Lib.Hide
import Derived.Deep.RegionHeld3
import Derived.Deep.DeepCutAuto
import Derived.IntWalk
import Derived.Test.YtncplikadacjnaaPk1
import Derived.Test.YtncplikadacjnaaPk2
import Derived.Test.YtncplikadacjnaaPk3

section
/-
  Chapter 8, in the program: the iterator over primes; IsPrime.
-/
namespace Go.Proofs.Ytncplikadacjnaa
set_option maxRecDepth 100000
open Go.RowKit Go.Shelf

attribute [local go_sem] Oper.semAt_some

/-- A prime that the iterator gives out. -/
abbrev PrmQ := { q : Nat // q < 10001 ∧ prmB (q : Int) = true }
def prmV (ys : List PrmQ) : List Int := ys.map fun x => (x.1 : Int)
theorem prmV_snoc (ys : List PrmQ) (x : PrmQ) : prmV (ys ++ [x]) = prmV ys ++ [(x.1 : Int)] := by simp [prmV]
theorem prmV_length (ys : List PrmQ) : (prmV ys).length = ys.length := List.length_map ..
/-- What is left for the iterator, read off the cell of its variable. -/
def leftX (w : World) (v : Value) : Nat := match v with
  | .pointer (some a) => match w.cell? a with
    | some (.int _ z) => 10001 - z.toNat
    | _ => 0
  | _ => 0
theorem leftX_at {w : World} {b m : Nat} (h : w.cell? ⟨b, 0, none⟩ = some (.int .i64 (m : Int))) : leftX w (.pointer (some ⟨b, 0, none⟩)) = 10001 - m := by
  unfold leftX
  simp [h]
theorem prmTo_get {m k : Nat} (hk : k < (prmTo m).length) : (prmTo m).getD k 0 ∈ prmTo m := by
  have : (prmTo m).getD k 0 = (prmTo m)[k] := by simp [List.getD, hk]
  rw [this]
  exact List.getElem_mem hk
theorem prmTo_two_le {m k : Nat} (hk : k < (prmTo m).length) : 2 ≤ (prmTo m).getD k 0 := by
  obtain ⟨q, e, -, h⟩ := prmTo_mem.mp (prmTo_get hk)
  have := (prmB_says h).1.1
  omega
theorem prm_test {m : Nat} (h1 : 2 ≤ m) (h2 : m ≤ 10000) : (!prmB (m : Int)) = true ↔ ∃ k, k < (prmTo m).length ∧ (m : Int) % (prmTo m).getD k 0 = 0 := by
  constructor
  · intro h
    refine Classical.byContradiction fun hn => ?_
    have : prmB (m : Int) = true := (prm_iff h1 h2).mpr fun x hx he => by
      obtain ⟨k, hk, e⟩ := List.getElem_of_mem hx
      exact hn ⟨k, hk, by rw [show (prmTo m).getD k 0 = x by simp [List.getD, hk, e]]; exact he⟩
    rw [this] at h
    cases h
  · rintro ⟨k, hk, he⟩
    cases hp : prmB (m : Int) with
    | false => rfl
    | true => exact absurd he ((prm_iff h1 h2).mp hp _ (prmTo_get hk))
/-- The iterator's worlds, ahead of the test of m. -/
structure ItSt (J : List PrmQ → World → Prop) (B m b : Nat) (q : Option Addr) (qc : Nat) (pre : List PrmQ) (wr : World) : Prop where
  own : OwnQ B wr (.slice q (prmTo m).length qc) (prmTo m)
  box : Blk1 wr b 3 (.int .i64 m)
  ge : B ≤ b
  ne : (Value.slice q (prmTo m).length qc).ownBlock ≠ some b
  pre_ : prmV pre = prmTo m
  j : J pre wr
  sz : B ≤ wr.heap.size
theorem ItSt.kept {J : List PrmQ → World → Prop} {B m b : Nat} {q : Option Addr} {qc : Nat} {pre : List PrmQ} {wr w' : World} (h : ItSt J B m b q qc pre wr) (hk : KpX B wr w') :
    OwnQ B w' (.slice q (prmTo m).length qc) (prmTo m) ∧ Blk1 w' b 3 (.int .i64 m) ∧ B ≤ w'.heap.size :=
  ⟨h.own.move fun k e => hk.2 k (h.own.le e) (h.own.lt e), hk.at_ h.ge h.box, Nat.le_trans h.sz hk.1⟩
/-- The end of a round: a new box for the next number. -/
theorem ItSt.next {J : List PrmQ → World → Prop} {B m : Nat} {v : Value} {q : Option Addr} {qc : Nat} {pre : List PrmQ} {wr : World} (hab : AbX B J) (hv : v = .slice q (prmTo (m + 1)).length qc) (ho : OwnQ B wr v (prmTo (m + 1))) (hp : prmV pre = prmTo (m + 1)) (hj : J pre wr) (hs : B ≤ wr.heap.size) (z : Int) (hz : z = ((m + 1 : Nat) : Int)) :
    ItSt J B (m + 1) wr.heap.size q qc pre (wr.alloc (.cells #[.int .i64 z] 3)) := by
  subst hv hz
  exact ⟨ho.move fun k e => Below.heap_alloc wr _ k (ho.lt e), Blk1.at_ _ _ rfl, hs, fun e => by have := ho.lt e; omega, hp, hab.old hj _, by simp; omega⟩
set_option maxHeartbeats 4000000 in
theorem seqPrimes (n : Nat) (hn : 1 ≤ n) : SeqX Fence.wide n Try.prog 95 (fun x : PrmQ => #[Value.int .i64 (x.1 : Int)]) (fun ys => prmV ys = prmTo 10001) (fun pre => ∃ (ini : List PrmQ) (x : PrmQ), pre = ini ++ [x] ∧ prmV ini = prmTo x.1) 10001 := by
  intro l J Jx W hJ hJx hY h0
  have AJ := Lib.hid hJ
  have YY := Lib.hid hY
  clear hJ hJx hY
  have o0 : OwnQ W.heap.size (W.alloc (.cells #[] 3)) (.slice (some ⟨W.heap.size, 0, none⟩) 0 0) [] := OwnQ.none_ (Nat.le_refl _) ⟨Nat.zero_le _, [], rfl, heap_alloc_new W _⟩
  have S0 : Hid (ItSt J W.heap.size 2 (W.heap.size + 1) (some ⟨W.heap.size, 0, none⟩) 0 [] ((W.alloc (.cells #[] 3)).alloc (.cells #[.int .i64 2] 3))) := by
    refine ⟨?_, Blk1.at_ _ _ (by simp), by omega, by rw [prmTo_two]; simp [Value.ownBlock], by rw [prmTo_two]; rfl, AJ.out.old (AJ.out.old h0 _) _, by simp; omega⟩
    rw [prmTo_two]
    exact o0.move fun k e => Below.heap_alloc _ _ k (o0.lt e)
  clear o0
  refine callsIn_of_wp Try.func95 rfl trivial ?_ rfl
  simp only [Try.ntmps95, List.size_toArray, List.length_cons, List.length_nil, Nat.reduceAdd, Nat.reduceSub, Array.replicate_succ, Array.replicate_zero, List.push_toArray, List.append_toArray, List.nil_append, List.cons_append]
  gi_wp2
  gi_loopw [2, 3] (fun v2 v3 wr => ∃ (m b : Nat) (q : Option Addr) (qc : Nat) (pre : List PrmQ), v2 = .slice q (prmTo m).length qc ∧ v3 = .pointer (some ⟨b, 0, none⟩) ∧ 2 ≤ m ∧ m ≤ 10001 ∧ ItSt J W.heap.size m b q qc pre wr) (fun _ v3 wr => leftX wr v3)
  case atStart => exact ⟨2, _, _, _, [], by rw [prmTo_two]; rfl, rfl, by omega, by omega, S0.out⟩
  case round =>
    clear S0 h0
    obtain ⟨m, b, q, qc, pre, rfl, rfl, hm1, hm2, hS⟩ := hrel
    have S := Lib.hid hS
    have hc := hS.box.cell0
    have hLX := Lib.hid (leftX_at hc)
    have hL := prmTo_length m
    clear hS
    by_cases hlt : m ≤ 10000
    · have hcon := Lib.hid (iContains m b qc (prmTo m).length q (prmTo m) wr (S.out.own.own (by omega)).rdq rfl hc (by omega) (fun k hk => prmTo_two_le hk) (by omega) (!prmB (m : Int)) (prm_test hm1 hlt))
      have NX : Hid (∀ (v : Value) (q' : Option Addr) (qc' : Nat) (pre' : List PrmQ) (w' : World), v = .slice q' (prmTo (m + 1)).length qc' → OwnQ W.heap.size w' v (prmTo (m + 1)) → prmV pre' = prmTo (m + 1) → J pre' w' → W.heap.size ≤ w'.heap.size → ∀ z : Int, z = ((m + 1 : Nat) : Int) → ItSt J W.heap.size (m + 1) w'.heap.size q' qc' pre' (w'.alloc (.cells #[.int .i64 z] 3))) := fun v q' qc' pre' w' hv ho hp hj hs z hz => ItSt.next AJ.out hv ho hp hj hs z hz
      have LM : Hid (10001 - (m + 1) < 10001 - m) := by show _ < _; omega
      rcases Bool.eq_false_or_eq_true (prmB (m : Int)) with hp | hp
      · have PS : Hid (prmTo (m + 1) = prmTo m ++ [(m : Int)]) := by show _ = _; rw [prmTo_succ, if_pos hp]
        have PP : Hid (m < 10001 ∧ prmB (m : Int) = true) := ⟨by omega, hp⟩
        rw [hp] at hcon
        clear hp
        have PL : Hid (pre.length = (prmTo m).length) := by
          show _ = _
          rw [← prmV_length, S.out.pre_]
        obtain ⟨fn, tmps, assign, body, hy, hR⟩ := YY.out pre ⟨m, PP.out⟩ wr S.out.j (by rw [PL.out]; omega)
        dsimp only at hy
        gi_wp2_with (refine ⟨trivial, ?_⟩; gi_at_call 96; refine (callsIn_wide.2 hcon.out).mono ?_; rintro e w' ⟨rfl, rfl⟩)
        refine hR.mono ?_
        rintro e W3 (⟨rfl, hJ3, hk3⟩ | ⟨rfl, hJx3⟩)
        · obtain ⟨o3, b3, s3⟩ := S.out.kept hk3
          have O3 := Lib.hid o3
          have N3 := Lib.hid S.out.ne
          have B3 := Lib.hid b3
          have J3 := Lib.hid hJ3
          have hc3 := b3.cell0
          have PV : Hid (prmV (pre ++ [⟨m, PP.out⟩]) = prmTo (m + 1)) := by
            show _ = _
            rw [prmV_snoc, S.out.pre_, PS.out]
          clear hk3 o3 b3 hJ3 hR hy
          obtain ⟨fi, hfi, hz0, hz1, hz2⟩ := facts_int
          have HO : Hid ((W3.alloc (.cells #[.int .i64 m] 3)).ownsRow W.heap.size 3 1 (.slice q (prmTo m).length qc) (prmTo m).length ((prmTo m).map (Value.int .i64))) := by
            have h1 := O3.out.keep ((Below.refl _ _).alloc (Nat.le_refl _) (.cells #[.int .i64 m] 3))
            unfold OwnQ at h1
            exact h1
          gi_wp2_with (gi_at_builtin; refine wpListIn_append_own _ rfl _ _ 24 rfl W.heap.size 3 fi (.int .i64 0) 1 8 underlying_ints hfi hz0 hz1 hz2 rfl (by decide) _ _ _ rfl HO.out ⟨W3.heap.size, 0, none⟩ 1 1 [.int .i64 m] ?hx ?hl ?hnews ?h1 ?h63 ?hbytes ?hbase ?hnext)
          case hx => rfl
          case hl => rfl
          case hnews => exact cell_one_new _ _ _
          case h1 => intro v hv; simp at hv; subst hv; rfl
          case h63 => unfold maxLen; omega
          case hbytes => omega
          case hbase => simp; omega
          case hnext =>
            rintro v' w7 ho hg7 -
            have O7 : OwnQ W.heap.size w7 v' (prmTo (m + 1)) := by
              unfold OwnQ
              rw [PS.out, List.map_append, List.length_append]
              exact ho
            have b7 : Blk1 w7 b 3 (.int .i64 m) := (hg7.block b (by have := B3.out.lt; simp; omega) (fun e => N3.out e.symm)).trans ((Below.heap_alloc _ _ b B3.out.lt).trans B3.out)
            have s7 := hg7.size
            simp at s7
            have j7 : J (pre ++ [⟨m, PP.out⟩]) w7 := AJ.out _ _ _ _ (AJ.out.old J3.out _) hg7 (fun r e => O3.out.le e)
            obtain ⟨q', qc', hv'⟩ := O7.form
            have hc7 := b7.cell0
            have N7 := Lib.hid (NX.out v' q' qc' _ w7 hv' O7 PV.out j7 (by omega))
            subst hv'
            clear O7 ho hg7 b7 j7
            have ez : (m : Int) + 1 = ((m + 1 : Nat) : Int) := by omega
            have N8 := Lib.hid (N7.out ((m : Int) + 1) ez)
            clear ez
            gi_wp2
            go_roundw
            case rel => exact ⟨m + 1, _, q', qc', _, rfl, rfl, by omega, by omega, N8.out⟩
            case measure =>
              rw [hLX.out, leftX_at N8.out.box.cell0]
              exact LM.out
        · gi_wp2
          refine bodyPost_ret (results_none rfl _ _ _) rfl ?_
          exact ⟨⟨_, rfl⟩, .inr ⟨_, ⟨pre, ⟨m, PP.out⟩, rfl, S.out.pre_⟩, hJx3⟩⟩
      · have PS : Hid (prmTo (m + 1) = prmTo m) := by show _ = _; rw [prmTo_succ, if_neg (by rw [hp]; decide)]
        rw [hp] at hcon
        clear hp
        gi_wp2_with (refine ⟨trivial, ?_⟩; gi_at_call 96; refine (callsIn_wide.2 hcon.out).mono ?_; rintro e w' ⟨rfl, rfl⟩)
        have ez : (m : Int) + 1 = ((m + 1 : Nat) : Int) := by omega
        have N8 := Lib.hid (NX.out (.slice q (prmTo m).length qc) q qc pre wr (by rw [PS.out]) (by rw [PS.out]; exact S.out.own) (by rw [PS.out]; exact S.out.pre_) S.out.j S.out.sz ((m : Int) + 1) ez)
        clear ez
        go_roundw
        case rel => exact ⟨m + 1, _, q, qc, pre, by rw [PS.out], rfl, by omega, by omega, N8.out⟩
        case measure =>
          rw [hLX.out, leftX_at N8.out.box.cell0]
          exact LM.out
    · obtain rfl : m = 10001 := by omega
      gi_wp2
      go_end0
      exact ⟨⟨_, rfl⟩, .inl ⟨pre, S.out.pre_, S.out.j⟩⟩
/-- primes(). -/
theorem iPrimes (w : World) : Calls Try.prog 66 #[] w fun e w' => e = .returned (.func (.func 95) #[] #[]) ∧ w = w' := by
  go_enter Try.func66, Try.ntmps66
  go_wp2_with fail
  go_ret
  exact ⟨rfl, rfl⟩
/-- What holds of the worlds between two rounds of IsPrime's loop. -/
def prI (w : World) (p : Int) (pre : List PrmQ) (W : World) : Prop := (∀ x ∈ pre, (x.1 : Int) * (x.1 : Int) ≤ p ∧ p % (x.1 : Int) ≠ 0) ∧ Blk1 W w.heap.size 3 (.int .i64 p) ∧ Blk1 W (w.heap.size + 1) 4 (.bool false) ∧ Below w.heap.size w W
/-- .. and where it is left. -/
def prX (w : World) (p : Int) (c : Code) (pre : List PrmQ) (W : World) : Prop :=
  (∃ (ini : List PrmQ) (x : PrmQ), pre = ini ++ [x] ∧ (∀ y ∈ ini, p % (y.1 : Int) ≠ 0) ∧ ((c = .exit 0 ∧ p < (x.1 : Int) * (x.1 : Int)) ∨ (c = .ret ∧ (x.1 : Int) * (x.1 : Int) ≤ p ∧ p % (x.1 : Int) = 0))) ∧ Blk1 W (w.heap.size + 1) 4 (.bool false) ∧ Below w.heap.size w W
theorem prI.ab (w : World) (p : Int) : AbX (w.heap.size + 2) (prI w p) := fun s A B row hs hg hr => by
  obtain ⟨h1, h2, h3, h4⟩ := hs
  exact ⟨h1, (hg.block _ h2.lt (fun e => by have := hr _ e.symm; omega)).trans h2, (hg.block _ h3.lt (fun e => by have := hr _ e.symm; omega)).trans h3, h4.grown hg h4.size (fun k e => by have := hr _ e; omega)⟩
theorem prX.ab (w : World) (p : Int) (c : Code) : AbX (w.heap.size + 2) (prX w p c) := fun s A B row hs hg hr => by
  obtain ⟨h1, h3, h4⟩ := hs
  exact ⟨h1, (hg.block _ h3.lt (fun e => by have := hr _ e.symm; omega)).trans h3, h4.grown hg h4.size (fun k e => by have := hr _ e; omega)⟩
/-- All primes up to the limit have been tried. -/
theorem prm_done {p : Int} {ys : List PrmQ} (h1 : 2 ≤ p) (h2 : p ≤ 10000) (hS : prmV ys = prmTo 10001) (h : ∀ x ∈ ys, (x.1 : Int) * (x.1 : Int) ≤ p ∧ p % (x.1 : Int) ≠ 0) : prmB p = true := by
  cases hp : prmB p with
  | true => rfl
  | false =>
    obtain ⟨q, hq, hqp, -, he⟩ := not_prm h1 h2 hp
    have : (q : Int) ∈ prmV ys := by rw [hS]; exact prmTo_mem.mpr ⟨q, rfl, hq, hqp⟩
    obtain ⟨x, hx, e⟩ := List.mem_map.mp this
    rw [← e] at he
    exact absurd he (h x hx).2
/-- The loop has been left: at a prime whose square is beyond p. -/
theorem prm_broke {p : Int} {ini : List PrmQ} {x : PrmQ} (h1 : 2 ≤ p) (h2 : p ≤ 10000) (hS : prmV ini = prmTo x.1) (h : ∀ y ∈ ini, p % (y.1 : Int) ≠ 0) (hx : p < (x.1 : Int) * (x.1 : Int)) : prmB p = true := by
  cases hp : prmB p with
  | true => rfl
  | false =>
    obtain ⟨q, hq, hqp, hqq, he⟩ := not_prm h1 h2 hp
    rcases Nat.lt_or_ge q x.1 with h3 | h3
    · have : (q : Int) ∈ prmV ini := by rw [hS]; exact prmTo_mem.mpr ⟨q, rfl, h3, hqp⟩
      obtain ⟨y, hy, e⟩ := List.mem_map.mp this
      rw [← e] at he
      exact absurd he (h y hy)
    · have h4 : x.1 * x.1 ≤ q * q := Nat.mul_le_mul h3 h3
      have h5 : ((x.1 * x.1 : Nat) : Int) ≤ ((q * q : Nat) : Int) := Int.ofNat_le.mpr h4
      rw [Int.natCast_mul, Int.natCast_mul] at h5
      omega
theorem prm_hit {p : Int} {x : PrmQ} (hx : (x.1 : Int) * (x.1 : Int) ≤ p) (he : p % (x.1 : Int) = 0) : prmB p = false :=
  prmB_div (d := x.1) (by have := (prmB_says x.2.2).1.1; omega) hx (Int.dvd_of_emod_eq_zero he)
theorem put_blk {W : World} {b D : Nat} {t : TypeId} {v : Value} (h : Blk1 W b t v) (hne : b ≠ D) (o : Obj) : Blk1 (W.putObj D o) b t v := (World.putObj_heap_other hne).trans h
set_option maxHeartbeats 2000000 in
theorem iPrime_in (p : Int) (w : World) (h1 : 2 ≤ p) (h2 : p ≤ 10000) : Calls Try.prog 28 #[.int .i64 p] w fun e w' => e = .returned (.bool (prmB p)) ∧ Below w.heap.size w w' := by
  have HT := Lib.hid (fun ys (hS : prmV ys = prmTo 10001) (h : ∀ x ∈ ys, (x.1 : Int) * (x.1 : Int) ≤ p ∧ p % (x.1 : Int) ≠ 0) => prm_done h1 h2 hS h)
  have HB := Lib.hid (fun (ini : List PrmQ) (x : PrmQ) (hS : prmV ini = prmTo x.1) (h : ∀ y ∈ ini, p % (y.1 : Int) ≠ 0) (hx : p < (x.1 : Int) * (x.1 : Int)) => prm_broke h1 h2 hS h hx)
  have HF := Lib.hid (fun (x : PrmQ) (hx : (x.1 : Int) * (x.1 : Int) ≤ p) (he : p % (x.1 : Int) = 0) => prm_hit hx he)
  generalize prmB p = bp at HT HB HF ⊢
  refine (callsIn_wide (n := 4)).1 ?_
  refine callsIn_of_wp_marks Try.func28 rfl trivial ?_ rfl
  simp only [Try.ntmps28, List.size_toArray, List.length_cons, List.length_nil, Nat.reduceAdd, Nat.reduceSub, Array.replicate_succ, Array.replicate_zero, List.push_toArray, List.append_toArray, List.nil_append, List.cons_append]
  gi_wp2_with (refine ⟨trivial, ?_⟩; gi_at_call 66; refine (callsIn_wide.2 (iPrimes _)).mono ?_; rintro e w' ⟨rfl, rfl⟩)
  have k0 : Blk1 ((w.alloc (.cells #[.int .i64 p] 3)).alloc (.cells #[.bool false] 4)) w.heap.size 3 (.int .i64 p) := (Blk1.at_ _ _ rfl).old _
  have k1 : Blk1 ((w.alloc (.cells #[.int .i64 p] 3)).alloc (.cells #[.bool false] 4)) (w.heap.size + 1) 4 (.bool false) := Blk1.at_ _ _ (by simp)
  have B0 : Below w.heap.size w ((w.alloc (.cells #[.int .i64 p] 3)).alloc (.cells #[.bool false] 4)) := ((Below.refl _ w).alloc (Nat.le_refl _) _).alloc (by simp) _
  have SZ : ((w.alloc (.cells #[.int .i64 p] 3)).alloc (.cells #[.bool false] 4)).heap.size = w.heap.size + 2 := by simp
  generalize (w.alloc (.cells #[.int .i64 p] 3)).alloc (.cells #[.bool false] 4) = W0 at k0 k1 B0 SZ ⊢
  refine wpIn_rangeX (F := Fence.wide) rfl (by omega) (gf := 95) rfl trivial (enters_of Try.func95 (by kernel_rfl) rfl) (seqPrimes 3 (by omega)) (fun _ => rfl) (prI w p) (prX w p) (by rw [SZ]; exact prI.ab w p) (fun c => by rw [SZ]; exact prX.ab w p c) ⟨by simp, k0, k1, B0⟩
    (fun x => { tmps := #[.int .i64 p, .pointer (some ⟨w.heap.size, 0, none⟩), .pointer (some ⟨w.heap.size + 1, 0, none⟩), .int .i64 (x.1 : Int), .int .i64 p, .bool (decide (p < 2)), .bool (decide (p < 2)), .int .i64 p, .bool (decide (10000 < p)), .bool (decide (p < 2) || decide (10000 < p)), .func (.func 95) #[] #[], .int .i64 (x.1 : Int), undef, undef, undef, undef, undef, undef, undef, undef, undef], defers := [] }) ?assign ?body ?done ?stop
  case assign =>
    intro l x W K hK
    gi_wp2
    exact hK
  case body =>
    rintro l pre x W ⟨hp, hb1, hb2, hB⟩ _
    have HP := Lib.hid hp
    have B2 := Lib.hid hb2
    have BB := Lib.hid hB
    have hc := hb1.cell0
    have hc2 := hb2.cell0
    have hf2 := hb2.free 0
    have x1 := (prmB_says x.2.2).1.1
    have x2 := x.2.1
    obtain ⟨d, hd⟩ : ∃ d : Nat, x.1 = d := ⟨_, rfl⟩
    have D := Lib.hid hd
    rw [hd] at x1 x2
    clear hp hB
    have q0 : (d : Int) * (d : Int) = ((d * d : Nat) : Int) := (Int.natCast_mul _ _).symm
    have q1 : d * d ≤ 10001 * 10001 := Nat.mul_le_mul (by omega) (by omega)
    have w1 : IntKind.i64.wrap ((d : Int) * (d : Int)) = (d : Int) * (d : Int) := IntWalk.i64_in _ (by rw [q0]; omega)
    obtain ⟨q, hq⟩ : ∃ q : Int, (d : Int) * (d : Int) = q := ⟨_, rfl⟩
    have HQ := Lib.hid hq
    rw [hq] at w1
    have w1 : IntKind.i64.wrap ((d : Int) * (d : Int)) = q := by rw [hq]; exact w1
    have n0 : ((d : Int) == 0) = false := by simp; omega
    rw [hd]
    clear q0 q1 hq hd
    by_cases h3 : p < q
    · have X : Hid (p < (x.1 : Int) * (x.1 : Int)) := by show _ < _; rw [D.out, HQ.out]; exact h3
      gi_wp2
      exact ⟨KpX.refl _ _, ⟨pre, x, rfl, fun y hy => (HP.out y hy).2, .inl ⟨rfl, X.out⟩⟩, B2.out, BB.out⟩
    · have X : Hid ((x.1 : Int) * (x.1 : Int) ≤ p) := by show _ ≤ _; rw [D.out, HQ.out]; omega
      by_cases h4 : p % (d : Int) = 0
      · have n1 : (p % (d : Int) == 0) = true := by simp [h4]
        have Y : Hid (p % (x.1 : Int) = 0) := by show _ = _; rw [D.out]; exact h4
        clear h4
        gi_wp2
        exact ⟨KpX.set W (by show w.heap.size + 1 < w.heap.size + 2; omega) _, ⟨pre, x, rfl, fun y hy => (HP.out y hy).2, .inr ⟨rfl, X.out, Y.out⟩⟩, B2.out.set0 _, BB.out.setCell (by simp) _⟩
      · have n1 : (p % (d : Int) == 0) = false := by simpa using h4
        have Y : Hid (p % (x.1 : Int) ≠ 0) := by show _ ≠ _; rw [D.out]; exact h4
        clear h4
        gi_wp2
        exact ⟨KpX.refl _ _, fun y hy => (List.mem_append.1 hy).elim (HP.out y) (fun e => by simp at e; subst e; exact ⟨X.out, Y.out⟩), hb1, B2.out, BB.out⟩
  case done =>
    rintro ys W hS ⟨hp, hb1, hb2, hB⟩ hK
    have HR : Hid (bp = true) := HT.out ys hS hp
    have b3 := hb2.set0 (.bool true)
    have hK' : (W.setCell ⟨w.heap.size + 1, 0, none⟩ (.bool true)).heap[W0.heap.size]? = some (.deferred (some [])) := (Below.heap_setCell W ⟨w.heap.size + 1, 0, none⟩ (.bool true) _ (by show W0.heap.size ≠ w.heap.size + 1; omega)).trans hK
    have hc := hb2.cell0
    have hf := hb2.free 0
    clear hp HT HB HF
    gi_wp2
    refine ⟨by simp, .inl ⟨_, _, rfl, run_takeDeferred hK', ?_⟩⟩
    have hc5 := (put_blk b3 (D := W0.heap.size) (by omega) (.deferred none)).cell0
    refine ⟨.bool true, by simp [results, Try.f28, go_sem, hc5], by rw [HR.out], ?_⟩
    exact (hB.setCell (p := ⟨w.heap.size + 1, 0, none⟩) (by simp) _).grown (grownBy_putObj' _ _ _) (by have := hB.size; simp [World.setCell]; omega) (fun k e => by cases e; omega)
  case stop =>
    rintro c pre W ⟨ini, x, e, hS⟩ ⟨⟨ini', x', e', hi, hx⟩, hb2, hB⟩ hK
    rw [e] at e'
    obtain ⟨rfl, e5⟩ := List.append_inj' e' rfl
    obtain rfl : x = x' := by simpa using e5
    have hc := hb2.cell0
    have hf := hb2.free 0
    rcases hx with ⟨rfl, hx⟩ | ⟨rfl, hx1, hx2⟩
    · have HR : Hid (bp = true) := HB.out _ x hS hi hx
      have b3 := hb2.set0 (.bool true)
      have hK' : (W.setCell ⟨w.heap.size + 1, 0, none⟩ (.bool true)).heap[W0.heap.size]? = some (.deferred (some [])) := (Below.heap_setCell W ⟨w.heap.size + 1, 0, none⟩ (.bool true) _ (by show W0.heap.size ≠ w.heap.size + 1; omega)).trans hK
      clear hi hx HT HB HF e5 e' e
      gi_wp2
      refine ⟨by simp, .inl ⟨_, _, rfl, run_takeDeferred hK', ?_⟩⟩
      have hc5 := (put_blk b3 (D := W0.heap.size) (by omega) (.deferred none)).cell0
      refine ⟨.bool true, by simp [results, Try.f28, go_sem, hc5], by rw [HR.out], ?_⟩
      exact (hB.setCell (p := ⟨w.heap.size + 1, 0, none⟩) (by simp) _).grown (grownBy_putObj' _ _ _) (by have := hB.size; simp [World.setCell]; omega) (fun k e => by cases e; omega)
    · have HR : Hid (bp = false) := HF.out x hx1 hx2
      clear hi hx1 hx2 HT HB HF e5 e' e
      gi_wp2
      refine ⟨by simp, .inl ⟨_, _, rfl, run_takeDeferred hK, ?_⟩⟩
      have hc5 := (put_blk hb2 (D := W0.heap.size) (by omega) (.deferred none)).cell0
      refine ⟨.bool false, by simp [results, Try.f28, go_sem, hc5], by rw [HR.out], ?_⟩
      exact hB.grown (grownBy_putObj' _ _ _) hB.size (fun k e => by cases e; omega)
theorem iPrime (p : Int) (w : World) : Calls Try.prog 28 #[.int .i64 p] w fun e w' => e = .returned (.bool (prmB p)) ∧ Below w.heap.size w w' := by
  by_cases h : 2 ≤ p ∧ p ≤ 10000
  · exact iPrime_in p w h.1 h.2
  · have E : Hid (prmB p = false) := prmB_out (by omega)
    have h' : p < 2 ∨ 10000 < p := by omega
    have B0 : Hid (Below w.heap.size w ((w.alloc (.cells #[.int .i64 p] 3)).alloc (.cells #[.bool false] 4))) := ((Below.refl _ w).alloc (Nat.le_refl _) _).alloc (by simp) _
    clear h
    rw [E.out]
    go_enter Try.func28, Try.ntmps28
    have hc : Hid (((w.alloc (.cells #[.int .i64 p] 3)).alloc (.cells #[.bool false] 4)).cell? ⟨w.heap.size + 1, 0, none⟩ = some (.bool false)) := (Blk1.at_ (w := w.alloc (.cells #[.int .i64 p] 3)) (b := w.heap.size + 1) 4 (.bool false) (by simp)).cell0
    rcases h' with h1 | h1
    · go_wp2_with fail
      have hc := hc.out
      exact bodyPost_ret (v := .bool false) (by simp [results, Try.results28, go_sem, hc]) rfl ⟨rfl, B0.out⟩
    · by_cases h2 : p < 2
      · omega
      · go_wp2_with fail
        have hc := hc.out
        exact bodyPost_ret (v := .bool false) (by simp [results, Try.results28, go_sem, hc]) rfl ⟨rfl, B0.out⟩
end Go.Proofs.Ytncplikadacjnaa
end

section
/-
  Chapter 1, in the program: DivideFloor.
-/
namespace Go.Proofs.Ytncplikadacjnaa
open Go.RowKit

set_option maxHeartbeats 400000 in
theorem iDiv (n d : Int) (w : World) (hn1 : -400000000 ≤ n) (hn2 : n ≤ 400000000) (hd1 : -400000000 ≤ d) (hd2 : d ≤ 400000000) (hd0 : d ≠ 0) :
    Calls Try.prog 59 #[.int .i64 n, .int .i64 d] w fun e w' => e = .returned (.tuple #[.int .i64 (n / d), .int .i64 (n % d), .bool true]) ∧ ∃ n, w' = w.drewN n := by
  have hz : (d == 0) = false := by simpa using hd0
  obtain ⟨b1, b2⟩ := tdiv_bd n d hn1 hn2
  have l := tmod_small n d hd0
  have l1 : -400000000 ≤ n.tmod d := by omega
  have l2 : n.tmod d ≤ 400000000 := by omega
  clear l
  by_cases h : n.tmod d < 0
  · have hn : n < 0 := by
      rcases Int.lt_or_le n 0 with h' | h'
      · exact h'
      · have := Int.tmod_nonneg d h'; omega
    by_cases hd : 0 < d
    · have E := Lib.hid (tdiv_down n d hd h)
      go_enter Try.func59, Try.ntmps59
      go_wp2_with (first | (go_at_call 81; refine (iIsNum_t _ _ (by omega) (by omega)).mono ?_; rintro e w' ⟨rfl, rfl⟩) | go_quiet (fail))
      go_ret3
      exact ⟨by rw [E.out.1, E.out.2]; rfl, _, rfl⟩
    · have E : Hid (n / d = n.tdiv d + 1 ∧ n % d = n.tmod d - d) := by
        obtain ⟨c, rfl⟩ : ∃ c, d = -c := ⟨-d, by omega⟩
        exact iDiv_neg n c (by omega) h
      have hd' : decide (0 < d) = false := by simpa using hd
      go_enter Try.func59, Try.ntmps59
      go_wp2_with (first | (go_at_call 81; refine (iIsNum_t _ _ (by omega) (by omega)).mono ?_; rintro e w' ⟨rfl, rfl⟩) | go_quiet (fail))
      go_ret3
      exact ⟨by rw [E.out.1, E.out.2]; rfl, _, rfl⟩
  · have E := Lib.hid (iDiv_pos n d hd0 (by omega))
    have h' : decide (n.tmod d < 0) = false := by simpa using h
    have hp : 0 ≤ n % d := Int.emod_nonneg n hd0
    have hp' : decide (n % d < 0) = false := by simpa using hp
    go_enter Try.func59, Try.ntmps59
    go_wp2_with (first | (go_at_call 81; refine (iIsNum_t _ _ (by omega) (by omega)).mono ?_; rintro e w' ⟨rfl, rfl⟩) | go_quiet (fail))
    go_ret3
    exact ⟨by rw [E.out.1, E.out.2]; rfl, _, rfl⟩

theorem iDiv_f (n d : Int) (w : World) (h : ¬ ((-400000000 ≤ n ∧ n ≤ 400000000) ∧ (-400000000 ≤ d ∧ d ≤ 400000000) ∧ d ≠ 0)) :
    Calls Try.prog 59 #[.int .i64 n, .int .i64 d] w fun e w' => e = .returned (.tuple #[.int .i64 0, .int .i64 0, .bool false]) ∧ w = w' := by
  by_cases hn : -400000000 ≤ n ∧ n ≤ 400000000
  · by_cases hd : -400000000 ≤ d ∧ d ≤ 400000000
    · have h0 : d = 0 := by omega
      subst h0
      clear h hd
      go_enter Try.func59, Try.ntmps59
      go_wp2_with fail
      refine (iIsNum_t _ _ hn.1 hn.2).mono ?_
      rintro e w' ⟨rfl, rfl⟩
      go_wp2_with fail
      refine (iIsNum_t _ _ (by omega) (by omega)).mono ?_
      rintro e w' ⟨rfl, rfl⟩
      go_wp2_with fail
      go_ret3
      exact ⟨rfl, rfl⟩
    · have hd' : d < -400000000 ∨ 400000000 < d := by omega
      clear h hd
      go_enter Try.func59, Try.ntmps59
      go_wp2_with fail
      refine (iIsNum_t _ _ hn.1 hn.2).mono ?_
      rintro e w' ⟨rfl, rfl⟩
      go_wp2_with fail
      refine (iIsNum_f _ _ hd').mono ?_
      rintro e w' ⟨rfl, rfl⟩
      go_wp2_with fail
      go_ret3
      exact ⟨rfl, rfl⟩
  · have hn' : n < -400000000 ∨ 400000000 < n := by omega
    clear h hn
    go_enter Try.func59, Try.ntmps59
    go_wp2_with fail
    refine (iIsNum_f _ _ hn').mono ?_
    rintro e w' ⟨rfl, rfl⟩
    go_wp2_with fail
    go_ret3
    exact ⟨rfl, rfl⟩

end Go.Proofs.Ytncplikadacjnaa
end

section
/-
  Chapter 3, in the program: a matrix copied.
-/
namespace Go.Proofs.Ytncplikadacjnaa
set_option maxRecDepth 100000
open Go.RowKit

def CopyM (r c : Int) (n : Nat) (zs : List Int) (w : World) (e : Ending) (w' : World) : Prop := ∃ q qc, e = .returned (.agg #[.int .i64 r, .int .i64 c, .slice q n qc]) ∧ Own w.heap.size w' (.slice q n qc) zs ∧ Below w.heap.size w w'
set_option maxHeartbeats 400000 in
theorem iCopyOf (r c : Int) (a : Option Addr) (cap n : Nat) (zs : List Int) (hz : zs.length = n) (w : World) (h : Rd w a zs) (hn : n ≤ 16777216) :
    Calls Try.prog 58 #[.agg #[.int .i64 r, .int .i64 c, .slice a n cap]] w (CopyM r c n zs w) := by
  have H := Lib.hid h
  have HZ := Lib.hid hz
  have K0 : Hid (Blk3 ((w.alloc (.cells #[.int .i64 r, .int .i64 c, .slice a n cap] 26)).alloc (.cells #[.int .i64 0, .int .i64 0, .slice none 0 0] 26)) w.heap.size 26 (.int .i64 r) (.int .i64 c) (.slice a n cap)) := (Blk3.at_ _ _ _ _ rfl).old _
  have K1 : Hid (Blk3 ((w.alloc (.cells #[.int .i64 r, .int .i64 c, .slice a n cap] 26)).alloc (.cells #[.int .i64 0, .int .i64 0, .slice none 0 0] 26)) (w.heap.size + 1) 26 (.int .i64 0) (.int .i64 0) (.slice none 0 0)) := Blk3.at_ _ _ _ _ (by simp)
  have B : Hid (Below w.heap.size w ((w.alloc (.cells #[.int .i64 r, .int .i64 c, .slice a n cap] 26)).alloc (.cells #[.int .i64 0, .int .i64 0, .slice none 0 0] 26))) := ((Below.refl _ _).alloc (Nat.le_refl _) _).alloc (by simp) _
  clear h hz
  go_enter Try.func58, Try.ntmps58
  go_wp2_with fail
  refine wp_region_held_drew (S := fun w' => Blk3 w' w.heap.size 26 (.int .i64 r) (.int .i64 c) (.slice a n cap) ∧ (∃ p q r, Blk3 w' (w.heap.size + 1) 26 p q r) ∧ Below w.heap.size w w') (by kernel_rfl) ⟨K0.out.drew, ⟨_, _, _, K1.out.drew⟩, B.out.drew⟩ (fun hH => ?_)
  refine wpAnyH_take (i := 0) (v := ?_) (by simp only [List.getElem?_toArray, List.getElem?_cons_zero]; rfl) (by kernel_rfl) (by kernel_rfl) (by kernel_rfl) (by exact fun _ _ _ h => h) (Or.inl ⟨by rfl, ?_⟩) hH ?_
  rotate_left
  · (intro wS hS; (try dsimp only at hS); obtain ⟨hS, -, -⟩ := hS; obtain ⟨k1, k2, k3, -, -, -⟩ := hS.all; go_simp; try rfl)
  try simp only [Act.put, List.setIfInBounds_toArray, List.set_cons_zero, List.set_cons_succ]
  refine wpAnyH_take (i := 1) (v := ?_) (by simp only [List.getElem?_toArray, List.getElem?_cons_succ, List.getElem?_cons_zero]; rfl) (by kernel_rfl) (by kernel_rfl) (by kernel_rfl) (by exact fun _ _ _ h => h) (Or.inl ⟨by rfl, ?_⟩) hH ?_
  rotate_left
  · (intro wS hS; (try dsimp only at hS); obtain ⟨hS, -, -⟩ := hS; obtain ⟨k1, k2, k3, -, -, -⟩ := hS.all; go_simp; try rfl)
  try simp only [Act.put, List.setIfInBounds_toArray, List.set_cons_zero, List.set_cons_succ]
  refine wpAnyH_take (i := 2) (v := ?_) (by simp only [List.getElem?_toArray, List.getElem?_cons_succ, List.getElem?_cons_zero]; rfl) (by kernel_rfl) (by kernel_rfl) (by kernel_rfl) (by exact fun _ _ _ h => h) (Or.inl ⟨by rfl, ?_⟩) hH ?_
  rotate_left
  · (intro wS hS; (try dsimp only at hS); obtain ⟨hS, -, -⟩ := hS; obtain ⟨k1, k2, k3, -, -, -⟩ := hS.all; go_simp; try rfl)
  try simp only [Act.put, List.setIfInBounds_toArray, List.set_cons_zero, List.set_cons_succ]
  refine wpAnyH_take (i := 3) (v := ?_) (by simp only [List.getElem?_toArray, List.getElem?_cons_succ, List.getElem?_cons_zero]; rfl) (by kernel_rfl) (by kernel_rfl) (by kernel_rfl) (by exact fun _ _ _ h => h) (Or.inl ⟨by rfl, ?_⟩) hH ?_
  rotate_left
  · (intro wS hS; (try dsimp only at hS); obtain ⟨hS, -, -⟩ := hS; obtain ⟨k1, k2, k3, -, -, -⟩ := hS.all; go_simp; try rfl)
  try simp only [Act.put, List.setIfInBounds_toArray, List.set_cons_zero, List.set_cons_succ]
  refine wpAnyH_take (i := 4) (v := ?_) (by simp only [List.getElem?_toArray, List.getElem?_cons_succ, List.getElem?_cons_zero]; rfl) (by kernel_rfl) (by kernel_rfl) (by kernel_rfl) (by exact fun _ _ _ h => h) (Or.inl ⟨by rfl, ?_⟩) hH ?_
  rotate_left
  · (intro wS hS; (try dsimp only at hS); obtain ⟨hS, -, -⟩ := hS; obtain ⟨k1, k2, k3, -, -, -⟩ := hS.all; go_simp; try rfl)
  try simp only [Act.put, List.setIfInBounds_toArray, List.set_cons_zero, List.set_cons_succ]
  refine wpAnyH_take (i := 5) (v := ?_) (by simp only [List.getElem?_toArray, List.getElem?_cons_succ, List.getElem?_cons_zero]; rfl) (by kernel_rfl) (by kernel_rfl) (by kernel_rfl) (by exact fun _ _ _ h => h) (Or.inl ⟨by rfl, ?_⟩) hH ?_
  rotate_left
  · (intro wS hS; (try dsimp only at hS); obtain ⟨hS, -, -⟩ := hS; obtain ⟨k1, k2, k3, -, -, -⟩ := hS.all; go_simp; try rfl)
  try simp only [Act.put, List.setIfInBounds_toArray, List.set_cons_zero, List.set_cons_succ]
  refine wpAnyH_ready (rs := [6]) (by kernel_rfl) (by simp) ?_
  refine AllReadyH.cons (by simp only [List.getElem?_toArray, List.getElem?_cons_succ, List.getElem?_cons_zero]; rfl) (fun K hK => ?_) AllReadyH.nil
  go_simp
  obtain ⟨hH0, ⟨p, q, s, hH1⟩, hH2⟩ := hH
  have l1 := hH1.lt
  (with_reducible refine (iCloneN a cap n zs HZ.out _ (H.out.below hH2) (by omega)).mono ?_)
  rintro e v1 ⟨q0, qc, rfl, own, hb1⟩
  try dsimp only
  have J0 := Lib.hid (hH0.step hb1)
  have J1 := Lib.hid (hH1.step hb1)
  have JB := Lib.hid (stepB hH2 hb1)
  have O := Lib.hid own
  have l2 : w.heap.size + 1 < _ := l1
  refine hK.out _ _ ⟨J0.out, ⟨_, _, _, J1.out⟩, JB.out⟩ (fun hH => ?_)
  clear hK K own
  try simp only [Act.put, List.setIfInBounds_toArray, List.set_cons_zero, List.set_cons_succ]
  refine wpAnyH_take (i := 7) (v := ?_) (by simp only [List.getElem?_toArray, List.getElem?_cons_succ, List.getElem?_cons_zero]; rfl) (by kernel_rfl) (by kernel_rfl) (by kernel_rfl) (by exact fun _ _ _ h => h) (Or.inl ⟨by rfl, ?_⟩) hH ?_
  rotate_left
  · (intro wS hS; clear hS; go_simp; try rfl)
  try simp only [Act.put, List.setIfInBounds_toArray, List.set_cons_zero, List.set_cons_succ]
  refine wpAnyH_ready (rs := [8]) (by kernel_rfl) (by simp) ?_
  refine AllReadyH.cons (by simp only [List.getElem?_toArray, List.getElem?_cons_succ, List.getElem?_cons_zero]; rfl) (fun K hK => ?_) AllReadyH.nil
  obtain ⟨y0, y1, y2, y3, y4, y5⟩ := J1.out.all
  clear hH
  go_simp
  have Z0 := Lib.hid (((J0.out.far (a := ⟨w.heap.size + 1, 0, none⟩) (by simp) (.int .i64 r)).far (a := ⟨w.heap.size + 1, 1, none⟩) (by simp) (.int .i64 c)).far (a := ⟨w.heap.size + 1, 2, none⟩) (by simp) (.slice q0 n qc))
  have Z1 := Lib.hid (((J1.out.set0 (.int .i64 r)).set1 (.int .i64 c)).set2 (.slice q0 n qc))
  have OO := Lib.hid (((O.out.far (a := ⟨w.heap.size + 1, 0, none⟩) l2 (.int .i64 r)).far (a := ⟨w.heap.size + 1, 1, none⟩) l2 (.int .i64 c)).far (a := ⟨w.heap.size + 1, 2, none⟩) l2 (.slice q0 n qc))
  refine hK.out _ _ ⟨Z0.out, ⟨_, _, _, Z1.out⟩, ((JB.out.setCell (Nat.le_succ _) _).setCell (Nat.le_succ _) _).setCell (Nat.le_succ _) _⟩ (fun hH => ?_)
  have ZB := Lib.hid hH.2.2
  clear hK K hH
  refine wpAnyH_done (by kernel_rfl) ?_ _
  go_wp2_with fail
  obtain ⟨E0, E1, E2, -, -, -⟩ := Z1.out.all
  exact bodyPost_ret (v := .agg #[.int .i64 r, .int .i64 c, .slice q0 n qc]) (by simp [results, Try.results58, go_sem, E0, E1, E2]) rfl ⟨q0, qc, rfl, OO.out.le (by omega), ZB.out⟩
end Go.Proofs.Ytncplikadacjnaa
end

section
/-
  Chapter 3, in the program: IsMatrix.
-/
namespace Go.Proofs.Ytncplikadacjnaa
open Go.RowKit

theorem iSize_t (n : Int) (w : World) (h1 : 0 ≤ n) (h2 : n ≤ 24) :
    Calls Try.prog 91 #[.int .i64 n] w fun e w' => e = .returned (.bool true) ∧ w = w' := by
  go_enter Try.func91, Try.ntmps91
  go_wp2
  go_ret
  exact ⟨rfl, rfl⟩
theorem iSize_f (n : Int) (w : World) (h : n < 0 ∨ 24 < n) :
    Calls Try.prog 91 #[.int .i64 n] w fun e w' => e = .returned (.bool false) ∧ w = w' := by
  by_cases h1 : 0 ≤ n
  · have h2 : decide (n ≤ 24) = false := by simp; omega
    go_enter Try.func91, Try.ntmps91
    go_wp2
    go_ret
    exact ⟨rfl, rfl⟩
  · go_enter Try.func91, Try.ntmps91
    go_wp2
    go_ret
    exact ⟨rfl, rfl⟩
theorem iSize (n : Int) (w : World) :
    Calls Try.prog 91 #[.int .i64 n] w fun e w' => e = .returned (.bool (decide (SizeP n))) ∧ w = w' := by
  by_cases h : SizeP n
  · rw [decide_eq_true h]; exact iSize_t n w h.1 h.2
  · rw [decide_eq_false h]; exact iSize_f n w (by unfold SizeP at h; omega)
theorem iIsNum (n : Int) (w : World) :
    Calls Try.prog 81 #[.int .i64 n] w fun e w' => e = .returned (.bool (decide (NumP n))) ∧ w = w' := by
  by_cases h : NumP n
  · rw [decide_eq_true h]; exact iIsNum_t n w h.1 h.2
  · rw [decide_eq_false h]; exact iIsNum_f n w (by unfold NumP at h; omega)
/-- The step of IsMatrix's fold. -/
theorem iStep (b : Bool) (i j z : Int) (w : World) :
    Calls Try.prog 93 #[.bool b, .int .i64 i, .int .i64 j, .int .i64 z] w fun e w' => e = .returned (.bool (b && decide (NumP z))) ∧ w = w' := by
  cases b
  · go_enter Try.func93, Try.ntmps93
    go_wp2_with fail
    go_ret
    exact ⟨rfl, rfl⟩
  · go_enter Try.func93, Try.ntmps93
    go_wp2_with fail
    refine (iIsNum z _).mono ?_
    rintro e w' ⟨rfl, rfl⟩
    go_wp2_with fail
    go_ret
    exact ⟨rfl, rfl⟩
theorem take_nums (zs : List Int) (k : Nat) (hk : k < zs.length) : nums (zs.take (k + 1)) = (nums (zs.take k) && decide (NumP (zs.getD k 0))) := by
  unfold nums
  rw [List.take_succ_eq_append_getElem hk, List.all_append]
  simp only [List.all_cons, List.all_nil, Bool.and_true, List.getD, List.getElem?_eq_getElem hk, Option.getD_some]
set_option maxHeartbeats 400000 in
theorem iFoldB (r c : Int) (a : Option Addr) (cap : Nat) (zs : List Int) (w : World) (h : Rd w a zs) (hn : zs.length ≤ 16777216) (hc : zs.length = 0 ∨ 0 < c) :
    Calls Try.prog 92 #[.agg #[.int .i64 r, .int .i64 c, .slice a zs.length cap], .bool true, .func (.func 93) #[] #[]] w (Gives (.bool (nums zs)) w) := by
  have B0 : ∀ o, Below w.heap.size w (w.alloc o) := fun o => (Below.refl _ _).alloc (Nat.le_refl _) o
  have BH := Lib.hid B0
  have H := Lib.hid h
  obtain ⟨n, hnn⟩ : ∃ n, zs.length = n := ⟨_, rfl⟩
  have HN := Lib.hid hnn
  rw [hnn] at hn hc ⊢
  clear h B0 hnn
  go_enter Try.func92, Try.ntmps92
  go_wp2_with fail
  go_loopw [7, 8, 9, 14] (fun b _ _ i wr => ∃ k : Nat, i = .int .i64 k ∧ k ≤ n ∧ b = .bool (nums (zs.take k)) ∧ ∃ q, wr = (w.alloc (.cells #[.int .i64 r, .int .i64 c, .slice a n cap] 26)).drewN q) (fun _ _ _ i _ => n - (intOf i).toNat)
  case atStart => exact ⟨0, rfl, by omega, rfl, 0, rfl⟩
  case round =>
    obtain ⟨k, rfl, hk, rfl, q, rfl⟩ := hrel
    by_cases hlt : k < n
    · have c0 : (c == 0) = false := by simp; omega
      obtain ⟨b, o, rfl, hcell⟩ := (H.out.below (BH.out (.cells #[.int .i64 r, .int .i64 c, .slice a n cap] 26))) k (by rw [HN.out]; exact hlt)
      obtain ⟨z, hz⟩ : ∃ z, zs.getD k 0 = z := ⟨_, rfl⟩
      obtain ⟨bb, hbb⟩ : ∃ bb, nums (zs.take k) = bb := ⟨_, rfl⟩
      rw [hz] at hcell
      have Z := Lib.hid hz
      have BB := Lib.hid hbb
      rw [hbb]
      clear hz hbb
      go_wp2_with fail
      go_quiet ((refine (iStep _ _ _ _ _).mono ?_; rintro e w' ⟨rfl, rfl⟩; exact ⟨rfl, _, rfl⟩))
      go_wp2_with fail
      go_roundw
      case rel => exact ⟨k + 1, by go_num, by omega, by rw [take_nums zs k (by rw [HN.out]; exact hlt), BB.out, Z.out], _, rfl⟩
      case measure => simp [intOf]; omega
    · have hkn : k = n := by omega
      subst hkn
      have E : Hid (nums (zs.take k) = nums zs) := by show nums (zs.take k) = nums zs; rw [← HN.out, List.take_length]
      go_wp2_with fail
      go_ret
      exact ⟨by rw [E.out]; rfl, below_drewN (BH.out _) q⟩

set_option maxHeartbeats 400000 in
theorem iIsMat (r c : Int) (a : Option Addr) (cap : Nat) (zs : List Int) (w : World) (h : Rd w a zs) (hn : zs.length ≤ 16777216) :
    Calls Try.prog 57 #[.agg #[.int .i64 r, .int .i64 c, .slice a zs.length cap]] w (Gives (.bool (isMat r c zs)) w) := by
  have B0 : ∀ o, Below w.heap.size w (w.alloc o) := fun o => (Below.refl _ _).alloc (Nat.le_refl _) o
  have BH := Lib.hid B0
  have H := Lib.hid h
  clear h B0
  obtain ⟨n, hnn⟩ : ∃ n, zs.length = n := ⟨_, rfl⟩
  have HN := Lib.hid hnn
  have ED : isMat r c zs = (decide (SizeP r) && decide (SizeP c) && decide ((n : Int) = r * c) && nums zs) := by unfold isMat; rw [hnn]
  have E := Lib.hid ED
  rw [hnn] at hn ⊢
  clear hnn ED
  by_cases hr : 0 ≤ r ∧ r ≤ 24
  · by_cases hc : 0 ≤ c ∧ c ≤ 24
    · obtain ⟨m1, m2⟩ := mul_size r c hr hc
      by_cases hl : (n : Int) = r * c
      · have l1 : ((n : Int) != r * c) = false := by simpa using hl
        have l2 : ((n : Int) == r * c) = true := by simpa using hl
        have E2 : Hid (isMat r c zs = nums zs) := by
          show isMat r c zs = nums zs
          rw [E.out, show decide (SizeP r) = true from decide_eq_true hr, show decide (SizeP c) = true from decide_eq_true hc, show decide ((n : Int) = r * c) = true from decide_eq_true hl]; rfl
        have hz : zs.length = 0 ∨ 0 < c := by
          rw [HN.out]
          rcases Nat.eq_zero_or_pos n with e | e
          · exact .inl e
          · right
            rcases Int.lt_or_lt_of_ne (a := c) (b := 0) (fun e0 => by rw [e0, Int.mul_zero] at hl; omega) with h | h <;> omega
        have HZ := Lib.hid hz
        clear hl hz
        obtain ⟨r1, r2⟩ := hr
        obtain ⟨c1, c2⟩ := hc
        go_enter Try.func57, Try.ntmps57
        go_wp2_with (go_at_call 91; refine (iSize_t _ _ (by omega) (by omega)).mono ?_; rintro e w' ⟨rfl, rfl⟩)
        have ST := iFoldB r c a cap zs _ (H.out.below (BH.out (.cells #[.int .i64 r, .int .i64 c, .slice a n cap] 26))) (by rw [HN.out]; exact hn) HZ.out
        rw [HN.out] at ST
        refine ST.mono ?_
        clear ST
        rintro e w' ⟨rfl, hb⟩
        have HB := Lib.hid ((BH.out _).trans (hb.mono (BH.out (.cells #[.int .i64 r, .int .i64 c, .slice a n cap] 26)).size))
        clear hb
        go_wp2_with fail
        go_ret
        exact ⟨by rw [E2.out]; rfl, HB.out⟩
      · have l1 : ((n : Int) != r * c) = true := by simpa using hl
        have l2 : ((n : Int) == r * c) = false := by simpa using hl
        have E2 : Hid (isMat r c zs = false) := by
          show isMat r c zs = false
          rw [E.out, show decide ((n : Int) = r * c) = false from decide_eq_false hl]; simp
        clear hl
        obtain ⟨r1, r2⟩ := hr
        obtain ⟨c1, c2⟩ := hc
        go_enter Try.func57, Try.ntmps57
        go_wp2_with (go_at_call 91; refine (iSize_t _ _ (by omega) (by omega)).mono ?_; rintro e w' ⟨rfl, rfl⟩)
        go_ret
        exact ⟨by rw [E2.out]; rfl, BH.out _⟩
    · have E2 : Hid (isMat r c zs = false) := by
        show isMat r c zs = false
        rw [E.out, show decide (SizeP c) = false from decide_eq_false hc]; simp
      have hc' : c < 0 ∨ 24 < c := by omega
      clear hc
      go_enter Try.func57, Try.ntmps57
      go_wp2_with fail
      refine (iSize_t r _ hr.1 hr.2).mono ?_
      rintro e w' ⟨rfl, rfl⟩
      go_wp2_with fail
      refine (iSize_f c _ hc').mono ?_
      rintro e w' ⟨rfl, rfl⟩
      go_wp2_with fail
      go_ret
      exact ⟨by rw [E2.out]; rfl, BH.out _⟩
  · have E2 : Hid (isMat r c zs = false) := by
      show isMat r c zs = false
      rw [E.out, show decide (SizeP r) = false from decide_eq_false hr]; simp
    have hr' : r < 0 ∨ 24 < r := by omega
    clear hr
    go_enter Try.func57, Try.ntmps57
    go_wp2_with fail
    refine (iSize_f r _ hr').mono ?_
    rintro e w' ⟨rfl, rfl⟩
    go_wp2_with fail
    go_ret
    exact ⟨by rw [E2.out]; rfl, BH.out _⟩
end Go.Proofs.Ytncplikadacjnaa
end

section
/-
  Chapter 3, in the program: a row that shares its memory with the matrix.
-/
namespace Go.Proofs.Ytncplikadacjnaa
set_option maxRecDepth 100000
open Go.RowKit

/-- The cells of a row. -/
def rwL (c : Nat) (v : Nat → Int) : List Int := (List.range c).map v
theorem rwL_length (c : Nat) (v : Nat → Int) : (rwL c v).length = c := by simp [rwL]
theorem rwL_at {c : Nat} {v : Nat → Int} {j : Nat} (hj : j < c) : (rwL c v).getD j 0 = v j := by simp [rwL, List.getD, hj]
theorem rwL_congr {c : Nat} {u v : Nat → Int} (h : ∀ j, j < c → u j = v j) : rwL c u = rwL c v := List.map_congr_left fun j hj => h j (List.mem_range.mp hj)
/-- What rowIn gives: a slice q' of the room behind cell D of what q begins. -/
def RowAt (q : Option Addr) (D c : Nat) (w : World) (e : Ending) (w' : World) : Prop :=
  ∃ (q' : Option Addr) (m' : Nat), e = .returned (.slice q' c m') ∧ c ≤ m' ∧ (∀ g o : Nat, q = some ⟨g, o, none⟩ → 0 < c → q' = some ⟨g, o + D, none⟩) ∧ (q = none → q' = none) ∧ Below w.heap.size w w'
/-- A row of what is read. -/
theorem Rd.row {w : World} {q q' : Option Addr} {xs : List Int} {r c i : Nat} (h : Rd w q xs) (hx : xs.length = r * c) (hi : i < r) (hq : ∀ g o : Nat, q = some ⟨g, o, none⟩ → 0 < c → q' = some ⟨g, o + i * c, none⟩) : Rd w q' (rwL c (mxC c xs i)) := fun j hj => by
  rw [rwL_length] at hj
  obtain ⟨b, o, ha, hc⟩ := h (i * c + j) (by rw [hx]; exact idx_lt hi hj)
  refine ⟨b, o + i * c, hq b o ha (by omega), ?_⟩
  rw [rwL_at hj, Nat.add_assoc]
  exact hc
set_option maxHeartbeats 1000000 in
theorem iRowIn (r c i D N cap : Nat) (q : Option Addr) (w : World) (hq : Spot q) (hD : i * c = D) (hN : D + c ≤ N) (hc : N ≤ cap) (hn : q = none → cap = 0) (h1 : N ≤ 600) (hi : i ≤ 600) :
    Calls Try.prog 55 #[.agg #[.int .i64 r, .int .i64 c, .slice q N cap], .int .i64 i] w (RowAt q D c w) := by
  have u1 : (i : Int) * (c : Int) = (D : Int) := by rw [← hD]; exact (Int.natCast_mul _ _).symm
  have u2 : ((i : Int) + 1) * (c : Int) = ((D + c : Nat) : Int) := by rw [Int.add_mul, Int.one_mul, u1]; rfl
  have v1 : IntKind.i64.wrap ((i : Int) * (c : Int)) = (D : Int) := by rw [u1]; exact IntWalk.i64_in _ (by omega)
  have v2 : IntKind.i64.wrap ((i : Int) + 1) = (i : Int) + 1 := IntWalk.i64_in _ (by omega)
  have v3 : IntKind.i64.wrap (((i : Int) + 1) * (c : Int)) = ((D + c : Nat) : Int) := by rw [u2]; exact IntWalk.i64_in _ (by omega)
  have Z : Hid (c = 0 → D = 0) := fun h => by rw [← hD, h, Nat.mul_zero]
  have Dm : D + c ≤ cap := by omega
  have K0 : Hid (Blk3 (w.alloc (.cells #[.int .i64 r, .int .i64 c, .slice q N cap] 26)) w.heap.size 26 (.int .i64 r) (.int .i64 c) (.slice q N cap)) := Blk3.at_ _ _ _ _ rfl
  have B : Hid (Below w.heap.size w (w.alloc (.cells #[.int .i64 r, .int .i64 c, .slice q N cap] 26))) := (Below.refl _ _).alloc (Nat.le_refl _) _
  clear hD u1 u2
  rcases hq with rfl | ⟨g, o, rfl⟩
  · obtain rfl : cap = 0 := hn rfl
    obtain rfl : c = 0 := by omega
    obtain rfl : D = 0 := by omega
    obtain rfl : N = 0 := by omega
    go_enter Try.func55, Try.ntmps55
    go_wp2_with fail
    exact bodyPost_ret (v := .slice none 0 0) (by simp [results, Try.results55, go_sem]) rfl ⟨none, 0, rfl, Nat.le_refl _, (fun g o h => by cases h), (fun _ => rfl), B.out⟩
  · rcases Nat.lt_or_ge D cap with hlt | hge
    · go_enter Try.func55, Try.ntmps55
      go_wp2_with fail
      rw [show D + c - D = c by omega]
      exact bodyPost_ret (v := .slice (some ⟨g, o + D, none⟩) c (cap - D)) (by simp [results, Try.results55, go_sem]) rfl ⟨_, _, rfl, by omega, (fun g' o' h _ => by injection h with h; injection h with h1 h2; rw [h1, h2]), (fun h => by cases h), B.out⟩
    · obtain rfl : c = 0 := by omega
      obtain rfl : D = 0 := Z.out rfl
      obtain rfl : cap = 0 := by omega
      obtain rfl : N = 0 := by omega
      go_enter Try.func55, Try.ntmps55
      go_wp2_with fail
      exact bodyPost_ret (v := .slice (some ⟨g, o, none⟩) 0 0) (by simp [results, Try.results55, go_sem]) rfl ⟨_, _, rfl, Nat.le_refl _, (fun g' o' h h0 => by omega), (fun h => by cases h), B.out⟩
end Go.Proofs.Ytncplikadacjnaa
end

section
/-
  Plain mathematics of chapter 7: the rank of a matrix turned over; products. Nothing of a program is used.
-/
namespace Go.Proofs.Ytncplikadacjnaa

theorem sumN_skip (n a : Nat) (ha : a < n + 1) (f : Nat → Int) : sumN (n + 1) f = f a + sumN n fun i => f (skp a i) := by
  induction n generalizing a with
  | zero =>
    obtain rfl : a = 0 := by omega
    show sumN 0 f + f 0 = _
    simp [sumN]
  | succ n ih =>
    rcases Nat.lt_or_ge a (n + 1) with h | h
    · have e := ih a h
      have e2 : skp a n = n + 1 := by unfold skp; rw [if_neg (by omega)]
      have : sumN (n + 1) (fun i => f (skp a i)) = sumN n (fun i => f (skp a i)) + f (skp a n) := rfl
      rw [this, e2]
      show sumN (n + 1) f + f (n + 1) = _
      rw [e, Int.add_assoc]
    · obtain rfl : a = n + 1 := by omega
      show sumN (n + 1) f + f (n + 1) = _
      rw [Int.add_comm]
      congr 1
      refine sumN_congr fun i hi => ?_
      unfold skp
      rw [if_pos (by omega)]
/-- More unknowns than equations: there is a solution that is not 0. -/
theorem ker_some : ∀ (t s : Nat) (C : Mx), t < s → ∃ l : Nat → Int, (∃ i, i < s ∧ l i ≠ 0) ∧ ∀ j, j < t → (sumN s fun i => l i * C i j) = 0 := by
  intro t
  induction t with
  | zero => intro s C hs; exact ⟨fun _ => 1, ⟨0, hs, by decide⟩, fun j hj => by omega⟩
  | succ t ih =>
    intro s C hs
    by_cases hz : ∀ i, i < s → C i t = 0
    · obtain ⟨l, hl, h0⟩ := ih s C (by omega)
      refine ⟨l, hl, fun j hj => ?_⟩
      rcases Nat.lt_or_ge j t with h | h
      · exact h0 j h
      · obtain rfl : j = t := by omega
        exact sumN_all_zero fun i hi => by rw [hz i hi, Int.mul_zero]
    · have : ∃ a, a < s ∧ C a t ≠ 0 := Classical.byContradiction fun hn => hz fun i hi => Classical.byContradiction fun h => hn ⟨i, hi, h⟩
      obtain ⟨a, ha, hat⟩ := this
      obtain ⟨s, rfl⟩ : ∃ m, s = m + 1 := ⟨s - 1, by omega⟩
      obtain ⟨l, ⟨b, hb, hlb⟩, h0⟩ := ih s (fun i j => C a t * C (skp a i) j - C (skp a i) t * C a j) (by omega)
      have hself : ∀ i, skp a i ≠ a := fun i => skp_ne a i
      let L : Nat → Int := fun i => if i = a then -(sumN s fun i => l i * C (skp a i) t) else C a t * l (unskp a i)
      have LA : L a = -(sumN s fun i => l i * C (skp a i) t) := if_pos rfl
      have LS : ∀ i, L (skp a i) = C a t * l i := fun i => by
        show (if skp a i = a then _ else _) = _
        rw [if_neg (hself i), unskp_skp]
      refine ⟨L, ⟨skp a b, skp_lt hb, by rw [LS]; exact Int.mul_ne_zero hat hlb⟩, fun j hj => ?_⟩
      rw [sumN_skip s a ha, LA, Int.neg_mul, sumN_mul]
      have e1 : (sumN s fun i => L (skp a i) * C (skp a i) j) = sumN s fun i => C a t * l i * C (skp a i) j := sumN_congr fun i _ => by rw [LS]
      rw [e1]
      rcases Nat.lt_or_ge j t with h | h
      · have := h0 j h
        have e2 : (sumN s fun i => C a t * l i * C (skp a i) j) = sumN s (fun i => l i * (C a t * C (skp a i) j - C (skp a i) t * C a j)) + sumN s (fun i => l i * C (skp a i) t * C a j) := by
          rw [← sumN_add]
          exact sumN_congr fun i _ => by grind
        rw [e2, this]
        omega
      · obtain rfl : j = t := by omega
        have e2 : (sumN s fun i => C a j * l i * C (skp a i) j) = sumN s (fun i => l i * C (skp a i) j * C a j) := sumN_congr fun i _ => by grind
        rw [e2]
        omega
/-- One divisor for all. -/
theorem one_den {r c s : Nat} {A B : Mx} (h : SubSp r s c A B) : ∃ (d : Int) (K : Mx), d ≠ 0 ∧ ∀ i j, i < r → j < c → d * A i j = sumN s fun k => K i k * B k j := by
  induction r with
  | zero => exact ⟨1, fun _ _ => 0, by decide, fun i j hi => by omega⟩
  | succ r ih =>
    obtain ⟨d, K, hd, hK⟩ := ih fun i hi => h i (by omega)
    obtain ⟨e, k, he, hk⟩ := h r (by omega)
    refine ⟨d * e, fun i j => if i = r then d * k j else e * K i j, Int.mul_ne_zero hd he, fun i j hi hj => ?_⟩
    by_cases hir : i = r
    · subst hir
      have e1 : (sumN s fun l => (if i = i then d * k l else e * K i l) * B l j) = sumN s fun l => d * (k l * B l j) := sumN_congr fun l _ => by rw [if_pos rfl, Int.mul_assoc]
      show _ = sumN s fun l => (if i = i then d * k l else e * K i l) * B l j
      rw [e1, ← sumN_mul_left, ← hk j hj, Int.mul_assoc]
    · have e1 : (sumN s fun l => (if i = r then d * k l else e * K i l) * B l j) = sumN s fun l => e * (K i l * B l j) := sumN_congr fun l _ => by rw [if_neg hir, Int.mul_assoc]
      show _ = sumN s fun l => (if i = r then d * k l else e * K i l) * B l j
      rw [e1, ← sumN_mul_left, ← hK i j (by omega) hj]
      grind
/-- An echelon form inside the span of t rows has at most t pivots. -/
theorem Ech.few {r c s : Nat} {B : Mx} {q : Nat → Nat} (h : Ech r c B q s) {t : Nat} {K : Mx} (hs : SubSp r t c B K) : s ≤ t := by
  refine Classical.byContradiction fun hn => ?_
  obtain ⟨d, C, hd, hC⟩ := one_den hs
  obtain ⟨l, ⟨i, hi, hli⟩, h0⟩ := ker_some t s C (by omega)
  have hr : s ≤ r := h.le
  have hz : ∀ j, j < c → (sumN s fun i => l i * (d * B i j)) = 0 := fun j hj => by
    have e : (sumN s fun i => l i * (d * B i j)) = sumN s fun i => sumN t fun k => l i * C i k * K k j := sumN_congr fun i hi => by
      rw [hC i j (by omega) hj, sumN_mul_left]
      exact sumN_congr fun k _ => by rw [Int.mul_assoc]
    rw [e, sumN_swap]
    refine sumN_all_zero fun k hk => ?_
    rw [← sumN_mul, h0 k hk, Int.zero_mul]
  have := hz (q i) (h.col i hi)
  rw [sumN_one hi (fun k hk hne => by rw [h.only i k hi (by omega) hne, Int.mul_zero, Int.mul_zero])] at this
  have hp := h.pos i hi
  rcases Int.mul_eq_zero.mp this with h1 | h1
  · exact hli h1
  · rcases Int.mul_eq_zero.mp h1 with h2 | h2
    · exact hd h2
    · omega
theorem rank_tr_le {r c t s : Nat} {M A B : Mx} {p q : Nat → Nat} (hA : Ech r c A p t) (hMA : SubSp r r c M A) (hB : Ech c r B q s) (hBM : SubSp c c r B (trX M)) : s ≤ t := by
  -- the rows of A behind the pivots' are 0
  have hMA' : SubSp r t c M A := fun i hi => by
    obtain ⟨d, k, hd, hk⟩ := hMA i hi
    refine ⟨d, k, hd, fun j hj => ?_⟩
    rw [hk j hj]
    obtain ⟨m, hm⟩ : ∃ m, r = t + m := ⟨r - t, by have := hA.le; omega⟩
    have key : ∀ m, t + m ≤ r → (sumN (t + m) fun i => k i * A i j) = sumN t fun i => k i * A i j := by
      intro m
      induction m with
      | zero => intro _; rfl
      | succ m ih =>
        intro h
        show sumN (t + m) _ + k (t + m) * A (t + m) j = _
        rw [ih (by omega), hA.rest (t + m) j (by omega) (by omega) hj, Int.mul_zero, Int.add_zero]
    rw [hm]
    exact key m (by omega)
  obtain ⟨d, K, hd, hK⟩ := one_den hMA'
  have hsub : SubSp c t r (trX M) (trX K) := fun j hj => ⟨d, fun k => A k j, hd, fun i hi => by
    show d * M i j = sumN t fun k => A k j * K i k
    rw [hK i j hi hj]
    exact sumN_congr fun k _ => Int.mul_comm _ _⟩
  exact hB.few (hBM.trans hsub)
/-- The rank of a matrix turned over is that of the matrix. -/
theorem rank_tr {r c t s : Nat} {M A B : Mx} {p q : Nat → Nat} (hA : Ech r c A p t) (hMA : SubSp r r c M A) (hAM : SubSp r r c A M) (hB : Ech c r B q s) (hBM : SubSp c c r B (trX M)) (hMB : SubSp c c r (trX M) B) : s = t := by
  have h1 := rank_tr_le hA hMA hB hBM
  have h2 := rank_tr_le (M := trX M) hB hMB hA hAM
  omega
/-- The rows of a product are in the span of the right factor's. -/
theorem sub_mul {n c : Nat} (U M : Mx) : SubSp n n c (mulX n U M) M := fun i _ => ⟨1, U i, by decide, fun j _ => by rw [Int.one_mul]; rfl⟩
theorem mul_sub {n c : Nat} {U M V : Mx} {d : Int} (hd : d ≠ 0) (h : ∀ i k, i < n → k < n → mulX n V U i k = if i = k then d else 0) : SubSp n n c M (mulX n U M) := fun i hi => by
  refine ⟨d, V i, hd, fun j hj => ?_⟩
  have e : (sumN n fun k => V i k * mulX n U M k j) = sumN n fun l => mulX n V U i l * M l j := by
    have e1 : (sumN n fun k => V i k * mulX n U M k j) = sumN n fun k => sumN n fun l => V i k * U k l * M l j := sumN_congr fun k _ => by
      show V i k * sumN n _ = _
      rw [sumN_mul_left]
      exact sumN_congr fun l _ => by rw [Int.mul_assoc]
    rw [e1, sumN_swap]
    refine sumN_congr fun l _ => ?_
    show _ = sumN n _ * M l j
    rw [sumN_mul]
  rw [e, sumN_one hi (fun l hl hne => by rw [h i l hi hl, if_neg (fun e => hne e.symm), Int.zero_mul]), h i i hi hi, if_pos rfl]
/-- A product with a factor whose determinant is not 0 spans what the other factor spans. -/
theorem span_mul {n c : Nat} {U M : Mx} (h : det n U ≠ 0) : SubSp n n c M (mulX n U M) := by
  cases n with
  | zero => intro i hi; omega
  | succ n => exact mul_sub h (fun i k hi hk => adj_mul n U i k hi hk)
/-- Two matrices, one on top of the other. -/
def stkX (r : Nat) (A B : Mx) : Mx := fun i j => if i < r then A i j else B (i - r) j
theorem stk_left {r s c : Nat} {A B : Mx} : SubSp r (r + s) c A (stkX r A B) := fun i hi => (InSp.row (A := stkX r A B) (show i < r + s by omega)).congr fun j _ => by show A i j = if i < r then _ else _; rw [if_pos hi]
theorem stk_right {r s c : Nat} {A B : Mx} : SubSp s (r + s) c B (stkX r A B) := fun i hi => (InSp.row (A := stkX r A B) (show r + i < r + s by omega)).congr fun j _ => by
  show B i j = if r + i < r then _ else B (r + i - r) j
  rw [if_neg (by omega), show r + i - r = i by omega]
theorem stk_sub {r s t c : Nat} {A B C : Mx} (h : SubSp r t c A C) (h' : SubSp s t c B C) : SubSp (r + s) t c (stkX r A B) C := fun i hi => by
  by_cases e : i < r
  · exact (h i e).congr fun j _ => by show (if i < r then _ else _) = _; rw [if_pos e]
  · exact (h' (i - r) (by omega)).congr fun j _ => by show (if i < r then _ else _) = _; rw [if_neg e]
end Go.Proofs.Ytncplikadacjnaa
end

section
/-
  Plain mathematics of chapter 7: what the laws ask of echelon forms. Nothing of a program is used.
-/
namespace Go.Proofs.Ytncplikadacjnaa

theorem elimR_fix {r c t j : Nat} {xs : List Int} : ∀ (k i : Nat), (∀ p, i ≤ p → p < i + k → p = t ∨ mxC c xs p j = 0) → elimR r c t j k i xs = some xs := by
  intro k
  induction k with
  | zero => intro i _; rfl
  | succ k ih =>
    intro i h
    show (if i = t ∨ mxC c xs i j = 0 then elimR r c t j k (i + 1) xs else _) = _
    rw [if_pos (h i (Nat.le_refl _) (by omega))]
    exact ih (i + 1) fun p h1 h2 => h p (by omega) (by omega)
theorem map_getD {t : Nat} {p : Nat → Nat} {i : Nat} (hi : i < t) : ((List.range t).map p).getD i 0 = p i := by simp [List.getD, hi]
theorem echC_fix {r c t : Nat} {xs : List Int} {p : Nat → Nat} (h : Ech r c (mxC c xs) p t) : ∀ (k j m : Nat), j + k = c → m ≤ t → (∀ i, i < m → p i < j) → (m < t → j ≤ p m) → echC r c k j xs ((List.range m).map p) = some (xs, (List.range t).map p) := by
  intro k
  induction k with
  | zero =>
    intro j m hjk hm _ h2
    have : m = t := by
      rcases Nat.lt_or_ge m t with h3 | h3
      · have := h2 h3; have := h.col m h3; omega
      · omega
    rw [this]; rfl
  | succ k ih =>
    intro j m hjk hm h1 h2
    have hl : ((List.range m).map p).length = m := by simp
    show (if ((List.range m).map p).length < r then
      if fstR c j xs (r - ((List.range m).map p).length) ((List.range m).map p).length = r then echC r c k (j + 1) xs ((List.range m).map p)
      else match elimR r c ((List.range m).map p).length j r 0 (swC (fstR c j xs (r - ((List.range m).map p).length) ((List.range m).map p).length) ((List.range m).map p).length c xs) with
        | none => none
        | some ys => echC r c k (j + 1) ys ((List.range m).map p ++ [j])
    else some (xs, (List.range m).map p)) = _
    rw [hl]
    have hle := h.le
    by_cases hmr : m < r
    · rw [if_pos hmr]
      by_cases hp : m < t ∧ p m = j
      · obtain ⟨hmt, hpm⟩ := hp
        have hpos := h.pos m hmt
        rw [hpm] at hpos
        have hf : fstR c j xs (r - m) m = m := fstR_eq (Nat.le_refl _) (by omega) (fun i h3 h4 => by omega) (fun _ => by omega)
        rw [hf, if_neg (by omega)]
        have hs : swC m m c xs = xs := by unfold swC; rw [if_pos rfl]
        have he : elimR r c m j r 0 xs = some xs := elimR_fix r 0 fun q _ hq => by
          by_cases e : q = m
          · exact .inl e
          · right
            have := h.only m q hmt (by omega) e
            rw [hpm] at this
            exact this
        rw [hs, he]
        show echC r c k (j + 1) xs ((List.range m).map p ++ [j]) = _
        have e : (List.range m).map p ++ [j] = (List.range (m + 1)).map p := by rw [List.range_succ, List.map_append, List.map_cons, List.map_nil, hpm]
        rw [e]
        refine ih (j + 1) (m + 1) (by omega) hmt (fun i hi => ?_) (fun h3 => ?_)
        · rcases Nat.lt_or_ge i m with h4 | h4
          · have := h1 i h4; omega
          · obtain rfl : i = m := by omega
            omega
        · have := h.inc m (m + 1) (by omega) h3
          omega
      · have hz : ∀ i, m ≤ i → i < r → mxC c xs i j = 0 := fun i h3 h4 => by
          rcases Nat.lt_or_ge i t with h5 | h5
          · have h6 : m < t := by omega
            have h7 := h2 h6
            have h8 : j < p m := by
              have : p m ≠ j := fun e => hp ⟨h6, e⟩
              omega
            rcases Nat.lt_or_ge m i with h9 | h9
            · have := h.inc m i h9 h5
              exact h.left i j h5 (by omega)
            · obtain rfl : i = m := by omega
              exact h.left i j h5 h8
          · exact h.rest i j h5 h4 (by omega)
        have hf : fstR c j xs (r - m) m = r := fstR_eq (by omega) (by omega) (fun i h3 h4 => hz i h3 h4) (fun h3 => by omega)
        rw [hf, if_pos rfl]
        refine ih (j + 1) m (by omega) hm (fun i hi => by have := h1 i hi; omega) (fun h3 => ?_)
        have h4 := h2 h3
        have : p m ≠ j := fun e => hp ⟨h3, e⟩
        omega
    · rw [if_neg hmr]
      have : m = t := by omega
      rw [this]
theorem prTo_fix {r c : Nat} {xs : List Int} (hx : xs.length = r * c) (hn : ∀ i, i < r → Norm c (mxC c xs i)) : prTo r c r xs = xs := by
  refine (tab_ext hx fun i j hi hj => ?_).symm
  rw [if_pos hi, prV_id (hn i hi) hj]
  rfl
theorem pv_map {pv : List Nat} : (List.range pv.length).map (fun k => pv.getD k 0) = pv := by
  refine List.ext_getElem (by simp) fun i h1 h2 => ?_
  simp [List.getD, h2]
/-- An echelon form stays us it is. -/
theorem echM_fix {r c : Nat} {xs ys : List Int} {pv : List Nat} (hx : xs.length = r * c) (hn : nums xs = true) (h : echM r c xs = some (ys, pv)) : echM r c ys = some (ys, pv) := by
  obtain ⟨he, -, -, hl, -, hm⟩ := echM_says hx hn h
  unfold echM
  rw [prTo_fix hl hm]
  have := echC_fix he c 0 0 (by omega) (Nat.zero_le _) (fun i hi => by omega) (fun _ => Nat.zero_le _)
  rw [pv_map] at this
  exact this
theorem mx_ext {r c : Nat} {xs ys : List Int} (hx : xs.length = r * c) (hy : ys.length = r * c) (h : ∀ i j, i < r → j < c → mxC c xs i j = mxC c ys i j) : xs = ys := by
  have e1 := tab_ext (r := r) (c := c) (f := mxC c ys) hx h
  have e2 := tab_ext (r := r) (c := c) (f := mxC c ys) hy (fun _ _ _ _ => rfl)
  rw [e1]; exact e2.symm
theorem ech_same {r c : Nat} {xs ys us vs : List Int} {p q : List Nat} (hx : xs.length = r * c) (hxn : nums xs = true) (hy : ys.length = r * c) (hyn : nums ys = true) (ha : echM r c xs = some (us, p)) (hb : echM r c ys = some (vs, q)) (h1 : SubSp r r c (mxC c xs) (mxC c ys)) (h2 : SubSp r r c (mxC c ys) (mxC c xs)) : us = vs ∧ p = q := by
  obtain ⟨ea, ta, fa, la, -, -⟩ := echM_says hx hxn ha
  obtain ⟨eb, tb, fb, lb, -, -⟩ := echM_says hy hyn hb
  obtain ⟨u1, u2, u3⟩ := ea.uniq eb (ta.trans (h1.trans fb)) (tb.trans (h2.trans fa))
  refine ⟨mx_ext la lb fun i j hi hj => ?_, List.ext_getElem u1 fun i h3 h4 => ?_⟩
  · rcases Nat.lt_or_ge i p.length with h | h
    · exact (u3 i j h hj).symm
    · rw [ea.rest i j h hi hj, eb.rest i j (by omega) hi hj]
  · have := u2 i h3
    simpa [List.getD, h3, h4] using this.symm
/-- The rank of a matrix turned over. -/
theorem ech_turn {r c : Nat} {xs ys us vs : List Int} {p q : List Nat} (hx : xs.length = r * c) (hxn : nums xs = true) (hy : ys.length = c * r) (hyn : nums ys = true) (ht : ∀ i j, i < c → j < r → mxC r ys i j = mxC c xs j i) (ha : echM r c xs = some (us, p)) (hb : echM c r ys = some (vs, q)) : q.length = p.length := by
  obtain ⟨ea, ta, fa, -, -, -⟩ := echM_says hx hxn ha
  obtain ⟨eb, tb, fb, -, -, -⟩ := echM_says hy hyn hb
  have h1 : SubSp c c r (trX (mxC c xs)) (mxC r ys) := fun i hi => (InSp.row (A := mxC r ys) hi).congr fun j hj => (ht i j hi hj).symm
  have h2 : SubSp c c r (mxC r ys) (trX (mxC c xs)) := fun i hi => (InSp.row (A := trX (mxC c xs)) hi).congr fun j hj => ht i j hi hj
  exact rank_tr ea fa ta eb (tb.trans h2) (h1.trans fb)
/-- The first rows that are not zeros are equal. -/
def sameTop (c : Nat) (us vs : List Int) (p q : List Nat) : Bool := decide (p.length = q.length) && decide (∀ i, i < p.length * c → us.getD i 0 = vs.getD i 0)
theorem top_at {c t : Nat} {us vs : List Int} (h : ∀ i, i < t * c → us.getD i 0 = vs.getD i 0) {i j : Nat} (hi : i < t) (hj : j < c) : mxC c us i j = mxC c vs i j := h _ (idx_lt hi hj)
theorem sameTop_iff {r s c : Nat} {xs ys us vs : List Int} {p q : List Nat} (hx : xs.length = r * c) (hxn : nums xs = true) (hy : ys.length = s * c) (hyn : nums ys = true) (ha : echM r c xs = some (us, p)) (hb : echM s c ys = some (vs, q)) : sameTop c us vs p q = true ↔ SubSp r s c (mxC c xs) (mxC c ys) ∧ SubSp s r c (mxC c ys) (mxC c xs) := by
  obtain ⟨ea, ta, fa, la, -, -⟩ := echM_says hx hxn ha
  obtain ⟨eb, tb, fb, lb, -, -⟩ := echM_says hy hyn hb
  unfold sameTop
  rw [Bool.and_eq_true, decide_eq_true_eq, decide_eq_true_eq]
  constructor
  · rintro ⟨h1, h2⟩
    have s1 : SubSp r s c (mxC c us) (mxC c vs) := fun i hi => by
      rcases Nat.lt_or_ge i p.length with h | h
      · exact (InSp.row (A := mxC c vs) (show i < s by have := eb.le; omega)).congr fun j hj => top_at h2 h hj
      · exact (InSp.zero s c _).congr fun j hj => ea.rest i j h hi hj
    have s2 : SubSp s r c (mxC c vs) (mxC c us) := fun i hi => by
      rcases Nat.lt_or_ge i p.length with h | h
      · exact (InSp.row (A := mxC c us) (show i < r by have := ea.le; omega)).congr fun j hj => (top_at h2 h hj).symm
      · exact (InSp.zero r c _).congr fun j hj => eb.rest i j (by omega) hi hj
    exact ⟨fa.trans (s1.trans tb), fb.trans (s2.trans ta)⟩
  · rintro ⟨h1, h2⟩
    obtain ⟨u1, -, u3⟩ := ea.uniq eb (ta.trans (h1.trans fb)) (tb.trans (h2.trans fa))
    refine ⟨u1, fun i hi => ?_⟩
    have hc : 0 < c := by
      rcases Nat.eq_zero_or_pos c with e | e
      · rw [e, Nat.mul_zero] at hi; omega
      · exact e
    have e : i = i / c * c + i % c := by rw [Nat.mul_comm]; exact (Nat.div_add_mod i c).symm
    have h3 : i / c < p.length := Nat.div_lt_of_lt_mul (by rw [Nat.mul_comm]; exact hi)
    have := u3 (i / c) (i % c) h3 (Nat.mod_lt i hc)
    unfold mxC at this
    rw [← e] at this
    exact this.symm
/-- Two matrices span one space just if the rank does not grow where they are put together. -/
theorem spaces_law {r s c : Nat} {xs ys zs us vs ws : List Int} {p q u : List Nat} (hx : xs.length = r * c) (hxn : nums xs = true) (hy : ys.length = s * c) (hyn : nums ys = true) (hz : zs.length = (r + s) * c) (hzn : nums zs = true) (hst : ∀ i j, i < r + s → j < c → mxC c zs i j = stkX r (mxC c xs) (mxC c ys) i j)
    (ha : echM r c xs = some (us, p)) (hb : echM s c ys = some (vs, q)) (hc : echM (r + s) c zs = some (ws, u)) : sameTop c us vs p q = (decide (p.length = u.length) && decide (q.length = u.length)) := by
  obtain ⟨ea, ta, fa, -, -, -⟩ := echM_says hx hxn ha
  obtain ⟨eb, tb, fb, -, -, -⟩ := echM_says hy hyn hb
  obtain ⟨ec, tc, fc, -, -, -⟩ := echM_says hz hzn hc
  have z1 : SubSp (r + s) (r + s) c (mxC c zs) (stkX r (mxC c xs) (mxC c ys)) := fun i hi => (InSp.row (A := stkX r (mxC c xs) (mxC c ys)) hi).congr fun j hj => hst i j hi hj
  have z2 : SubSp (r + s) (r + s) c (stkX r (mxC c xs) (mxC c ys)) (mxC c zs) := fun i hi => (InSp.row (A := mxC c zs) hi).congr fun j hj => (hst i j hi hj).symm
  have xz : SubSp r (r + s) c (mxC c xs) (mxC c zs) := stk_left.trans z2
  have yz : SubSp s (r + s) c (mxC c ys) (mxC c zs) := stk_right.trans z2
  have ac : SubSp r (r + s) c (mxC c us) (mxC c ws) := ta.trans (xz.trans fc)
  have bc : SubSp s (r + s) c (mxC c vs) (mxC c ws) := tb.trans (yz.trans fc)
  rw [Bool.eq_iff_iff, sameTop_iff hx hxn hy hyn ha hb, Bool.and_eq_true, decide_eq_true_eq, decide_eq_true_eq]
  constructor
  · rintro ⟨h1, h2⟩
    have zx : SubSp (r + s) r c (mxC c zs) (mxC c xs) := z1.trans (stk_sub (SubSp.refl _ _ _) h2)
    have zy : SubSp (r + s) s c (mxC c zs) (mxC c ys) := z1.trans (stk_sub h1 (SubSp.refl _ _ _))
    have a1 := ea.count ec ac
    have a2 := ec.count ea (tc.trans (zx.trans fa))
    have b1 := eb.count ec bc
    have b2 := ec.count eb (tc.trans (zy.trans fb))
    exact ⟨by omega, by omega⟩
  · rintro ⟨h1, h2⟩
    have ca : SubSp (r + s) r c (mxC c ws) (mxC c us) := by
      rw [← h1] at ec
      exact ea.whole ec ac
    have cb : SubSp (r + s) s c (mxC c ws) (mxC c vs) := by
      rw [← h2] at ec
      exact eb.whole ec bc
    exact ⟨xz.trans (fc.trans (cb.trans tb)), yz.trans (fc.trans (ca.trans ta))⟩
end Go.Proofs.Ytncplikadacjnaa
end

section
/-
  Plain mathematics of chapter 7: telling an echelon form. Nothing of a program is used.
-/
namespace Go.Proofs.Ytncplikadacjnaa

/-- The first column of a row that is not 0 (k columns are left from j on); where there is none, their end. -/
def leadF (v : Nat → Int) : Nat → Nat → Nat
  | 0, j => j
  | k + 1, j => if v j = 0 then leadF v k (j + 1) else j
def leadC (c : Nat) (v : Nat → Int) : Nat := leadF v c 0
theorem leadF_eq {v : Nat → Int} : ∀ {k j q : Nat}, j ≤ q → q ≤ j + k → (∀ i, j ≤ i → i < q → v i = 0) → (q < j + k → v q ≠ 0) → leadF v k j = q := by
  intro k
  induction k with
  | zero => intro j q h1 h2 _ _; show j = q; omega
  | succ k ih =>
    intro j q h1 h2 hz hn
    show (if v j = 0 then leadF v k (j + 1) else j) = q
    rcases Nat.lt_or_ge j q with h | h
    · rw [if_pos (hz j (Nat.le_refl _) h)]
      exact ih (by omega) (by omega) (fun i h3 h4 => hz i (by omega) h4) (fun h3 => hn (by omega))
    · obtain rfl : j = q := by omega
      rw [if_neg (hn (by omega))]
theorem leadF_says {v : Nat → Int} : ∀ {k j : Nat}, j ≤ leadF v k j ∧ leadF v k j ≤ j + k ∧ (∀ i, j ≤ i → i < leadF v k j → v i = 0) ∧ (leadF v k j < j + k → v (leadF v k j) ≠ 0) := by
  intro k
  induction k with
  | zero => intro j; exact ⟨Nat.le_refl _, Nat.le_refl _, fun i h1 h2 => absurd h2 (by show ¬ i < j; omega), fun h => absurd h (by show ¬ j < j + 0; omega)⟩
  | succ k ih =>
    intro j
    by_cases h : v j = 0
    · have e : leadF v (k + 1) j = leadF v k (j + 1) := if_pos h
      rw [e]
      obtain ⟨h1, h2, h3, h4⟩ := ih (j := j + 1)
      refine ⟨by omega, by omega, fun i h5 h6 => ?_, fun h5 => h4 (by omega)⟩
      rcases Nat.lt_or_ge j i with h7 | h7
      · exact h3 i h7 h6
      · obtain rfl : i = j := by omega
        exact h
    · have e : leadF v (k + 1) j = j := if_neg h
      rw [e]
      exact ⟨Nat.le_refl _, by omega, fun i h1 h2 => by omega, fun _ => h⟩
theorem leadC_says (c : Nat) (v : Nat → Int) : leadC c v ≤ c ∧ (∀ i, i < leadC c v → v i = 0) ∧ (leadC c v < c → v (leadC c v) ≠ 0) := by
  obtain ⟨-, h2, h3, h4⟩ := leadF_says (v := v) (k := c) (j := 0)
  exact ⟨by show leadF v c 0 ≤ c; omega, fun i hi => h3 i (Nat.zero_le _) hi, fun h => h4 (by show leadF v c 0 < 0 + c; have : leadF v c 0 < c := h; omega)⟩
/-- What is wrong with row i, whose pivot is in column p, behind a row whose pivot is in column last. -/
def rowBad (c : Nat) (xs : List Int) (i : Nat) (last : Int) : Prop := leadC c (mxC c xs i) < c ∧ (last = c ∨ (leadC c (mxC c xs i) : Int) ≤ last ∨ mxC c xs i (leadC c (mxC c xs i)) < 0 ∨ gcdN c (mxC c xs i) ≠ 1)
def colBad (r c : Nat) (xs : List Int) (i : Nat) : Prop := leadC c (mxC c xs i) < c ∧ ∃ k, k < r ∧ k ≠ i ∧ mxC c xs k (leadC c (mxC c xs i)) ≠ 0
/-- k rows from row i on are those of an echelon form. -/
def EchB (r c : Nat) (xs : List Int) : Nat → Nat → Int → Prop
  | 0, _, _ => True
  | k + 1, i, last => ¬ rowBad c xs i last ∧ ¬ colBad r c xs i ∧ EchB r c xs k (i + 1) (leadC c (mxC c xs i))
theorem Ech.lead_at {r c t : Nat} {xs : List Int} {p : Nat → Nat} (h : Ech r c (mxC c xs) p t) {i : Nat} (hi : i < t) : leadC c (mxC c xs i) = p i :=
  leadF_eq (Nat.zero_le _) (by have := h.col i hi; omega) (fun j _ hj => h.left i j hi hj) (fun _ => by have := h.pos i hi; omega)
theorem Ech.lead_no {r c t : Nat} {xs : List Int} {p : Nat → Nat} (h : Ech r c (mxC c xs) p t) {i : Nat} (hi : t ≤ i) (hir : i < r) : leadC c (mxC c xs i) = c :=
  leadF_eq (Nat.zero_le _) (by omega) (fun j _ hj => h.rest i j hi hir hj) (fun h => by omega)
theorem Ech.echB {r c t : Nat} {xs : List Int} {p : Nat → Nat} (h : Ech r c (mxC c xs) p t) (hn : ∀ i, i < r → Norm c (mxC c xs i)) : ∀ (k i : Nat) (last : Int), i + k = r → (i < t → last < p i ∧ last ≠ c) → EchB r c xs k i last := by
  intro k
  induction k with
  | zero => intro i last _ _; trivial
  | succ k ih =>
    intro i last hik hl
    have hir : i < r := by omega
    rcases Nat.lt_or_ge i t with hit | hit
    · obtain ⟨h1, h2⟩ := hl hit
      have e := h.lead_at hit
      have hc := h.col i hit
      have hp := h.pos i hit
      refine ⟨?_, ?_, ?_⟩
      · rintro ⟨-, hb⟩
        rw [e] at hb
        rcases hb with h3 | h3 | h3 | h3
        · exact h2 h3
        · omega
        · omega
        · exact h3 ((hn i hir).1.resolve_left fun h4 => by have := gcdN_none h4 _ hc; omega)
      · rintro ⟨-, k', h3, h4, h5⟩
        rw [e] at h5
        exact h5 (h.only i k' hit h3 h4)
      · rw [e]
        refine ih (i + 1) _ (by omega) fun h3 => ?_
        have := h.inc i (i + 1) (by omega) h3
        omega
    · have e := h.lead_no hit hir
      refine ⟨fun hb => ?_, fun hb => ?_, ih (i + 1) _ (by omega) fun h3 => by omega⟩
      · have := hb.1; omega
      · have := hb.1; omega
/-- What is told to be an echelon form is one. -/
theorem EchB.ech {r c : Nat} {xs : List Int} : ∀ (k i : Nat) (last : Int), i + k = r → EchB r c xs k i last →
    (last = c → ∀ q j, i ≤ q → q < r → j < c → mxC c xs q j = 0) ∧ (∀ q, i ≤ q → q < r → leadC c (mxC c xs q) < c → last ≠ c ∧ last < leadC c (mxC c xs q)) ∧ (∀ q s, i ≤ q → q < s → s < r → leadC c (mxC c xs s) < c → leadC c (mxC c xs q) < leadC c (mxC c xs s)) ∧ (∀ q, i ≤ q → q < r → Norm c (mxC c xs q)) ∧ ∀ q s, i ≤ q → q < r → leadC c (mxC c xs q) < c → s < r → s ≠ q → mxC c xs s (leadC c (mxC c xs q)) = 0 := by
  intro k
  induction k with
  | zero => intro i last hik _; exact ⟨fun _ q j h1 h2 => by omega, fun q h1 h2 => by omega, fun q s h1 h2 h3 => by omega, fun q h1 h2 => by omega, fun q s h1 h2 => by omega⟩
  | succ k ih =>
    intro i last hik ⟨hrow, hcol, hrest⟩
    obtain ⟨g1, g2, g3, g4, g5⟩ := ih (i + 1) _ (by omega) hrest
    obtain ⟨l1, l2, l3⟩ := leadC_says c (mxC c xs i)
    have own : leadC c (mxC c xs i) < c → last ≠ c ∧ last < leadC c (mxC c xs i) ∧ 0 < mxC c xs i (leadC c (mxC c xs i)) ∧ gcdN c (mxC c xs i) = 1 := fun h => by
      have h0 := l3 h
      refine ⟨fun e => hrow ⟨h, .inl e⟩, ?_, ?_, ?_⟩
      · exact Int.not_le.mp fun e => hrow ⟨h, .inr (.inl e)⟩
      · have : ¬ mxC c xs i (leadC c (mxC c xs i)) < 0 := fun e => hrow ⟨h, .inr (.inr (.inl e))⟩
        omega
      · exact Classical.byContradiction fun e => hrow ⟨h, .inr (.inr (.inr e))⟩
    have full : leadC c (mxC c xs i) = c → ∀ q, i + 1 ≤ q → q < r → ¬ leadC c (mxC c xs q) < c := fun e q h1 h2 h3 => (g2 q h1 h2 h3).1 (by rw [e])
    refine ⟨fun e q j h1 h2 h3 => ?_, fun q h1 h2 h3 => ?_, fun q s h1 h2 h3 h4 => ?_, fun q h1 h2 => ?_, fun q s h1 h2 h3 h4 h5 => ?_⟩
    · have hi : leadC c (mxC c xs i) = c := by
        rcases Nat.lt_or_ge (leadC c (mxC c xs i)) c with h4 | h4
        · exact absurd e (own h4).1
        · omega
      rcases Nat.lt_or_ge i q with h4 | h4
      · exact g1 (by rw [hi]) q j h4 h2 h3
      · obtain rfl : q = i := by omega
        exact l2 j (by omega)
    · rcases Nat.lt_or_ge i q with h4 | h4
      · have h5 := g2 q h4 h2 h3
        have h6 : leadC c (mxC c xs i) < c := by
          rcases Nat.lt_or_ge (leadC c (mxC c xs i)) c with h7 | h7
          · exact h7
          · exact absurd h3 (full (by omega) q h4 h2)
        have h7 := own h6
        exact ⟨h7.1, by omega⟩
      · obtain rfl : q = i := by omega
        exact ⟨(own h3).1, (own h3).2.1⟩
    · rcases Nat.lt_or_ge i q with h5 | h5
      · exact g3 q s h5 h2 h3 h4
      · obtain rfl : q = i := by omega
        have := (g2 s h2 h3 h4).2
        omega
    · rcases Nat.lt_or_ge i q with h5 | h5
      · exact g4 q h5 h2
      · obtain rfl : q = i := by omega
        rcases Nat.lt_or_ge (leadC c (mxC c xs q)) c with h6 | h6
        · obtain ⟨-, -, h7, h8⟩ := own h6
          refine ⟨.inr h8, .inr ?_⟩
          rw [sgnN_first h6 l2 (by omega), if_neg (by omega)]
        · have hz : ∀ j, j < c → mxC c xs q j = 0 := fun j hj => l2 j (by omega)
          exact ⟨.inl (gcdN_all hz), .inl (sgnN_all hz)⟩
    · rcases Nat.lt_or_ge i q with h6 | h6
      · exact g5 q s h6 h2 h3 h4 h5
      · obtain rfl : q = i := by omega
        exact Classical.byContradiction fun h7 => hcol ⟨h3, s, h4, h5, h7⟩
/-- How many of the first rows are not zeros. -/
def topN (c : Nat) (xs : List Int) : Nat → Nat → Nat
  | 0, i => i
  | k + 1, i => if leadC c (mxC c xs i) < c then topN c xs k (i + 1) else i
theorem topN_says {c : Nat} {xs : List Int} : ∀ {k i : Nat}, i ≤ topN c xs k i ∧ topN c xs k i ≤ i + k ∧ (∀ q, i ≤ q → q < topN c xs k i → leadC c (mxC c xs q) < c) ∧ (topN c xs k i < i + k → ¬ leadC c (mxC c xs (topN c xs k i)) < c) := by
  intro k
  induction k with
  | zero => intro i; exact ⟨Nat.le_refl _, Nat.le_refl _, fun q h1 h2 => absurd h2 (by show ¬ q < i; omega), fun h => absurd h (by show ¬ i < i + 0; omega)⟩
  | succ k ih =>
    intro i
    by_cases h : leadC c (mxC c xs i) < c
    · have e : topN c xs (k + 1) i = topN c xs k (i + 1) := if_pos h
      rw [e]
      obtain ⟨h1, h2, h3, h4⟩ := ih (i := i + 1)
      refine ⟨by omega, by omega, fun q h5 h6 => ?_, fun h5 => h4 (by omega)⟩
      rcases Nat.lt_or_ge i q with h7 | h7
      · exact h3 q h7 h6
      · obtain rfl : q = i := by omega
        exact h
    · have e : topN c xs (k + 1) i = i := if_neg h
      rw [e]
      exact ⟨Nat.le_refl _, by omega, fun q h1 h2 => by omega, fun _ => h⟩
theorem EchB.all {r c : Nat} {xs : List Int} (h : EchB r c xs r 0 (-1)) : Ech r c (mxC c xs) (fun i => leadC c (mxC c xs i)) (topN c xs r 0) ∧ ∀ i, i < r → Norm c (mxC c xs i) := by
  obtain ⟨-, -, g3, g4, g5⟩ := EchB.ech r 0 (-1) (by omega) h
  obtain ⟨-, t2, t3, t4⟩ := topN_says (c := c) (xs := xs) (k := r) (i := 0)
  have lead0 : ∀ i j, j < leadC c (mxC c xs i) → mxC c xs i j = 0 := fun i j hj => (leadC_says c (mxC c xs i)).2.1 j hj
  refine ⟨⟨by omega, fun k hk => t3 k (Nat.zero_le _) hk, fun k l hkl hl => g3 k l (Nat.zero_le _) hkl (by omega) (t3 l (Nat.zero_le _) hl), fun k hk => ?_, fun k i hk hi hne => g5 k i (Nat.zero_le _) (by omega) (t3 k (Nat.zero_le _) hk) hi hne, fun k j hk hj => lead0 k j hj, fun i j hi hir hj => ?_, fun k hk => ?_⟩, fun i hi => g4 i (Nat.zero_le _) hi⟩
  · have h1 := t3 k (Nat.zero_le _) hk
    exact (g4 k (Nat.zero_le _) (by omega)).pos h1 (fun j hj => lead0 k j hj) ((leadC_says c (mxC c xs k)).2.2 h1)
  · have ht := t4 (by omega)
    rcases Nat.lt_or_ge (topN c xs r 0) i with h1 | h1
    · refine lead0 i j ?_
      rcases Nat.lt_or_ge (leadC c (mxC c xs i)) c with h2 | h2
      · have := g3 _ i (Nat.zero_le _) h1 hir h2
        omega
      · omega
    · obtain rfl : i = topN c xs r 0 := by omega
      exact lead0 _ j (by omega)
  · have h1 := t3 k (Nat.zero_le _) hk
    exact (g4 k (Nat.zero_le _) (by omega)).prim h1 ((leadC_says c (mxC c xs k)).2.2 h1)
/-- Just the echelon forms stay as they are. -/
theorem EchB_iff {r c : Nat} {xs : List Int} (hx : xs.length = r * c) (hn : nums xs = true) : EchB r c xs r 0 (-1) ↔ ∃ pv, echM r c xs = some (xs, pv) := by
  constructor
  · intro h
    obtain ⟨he, hm⟩ := EchB.all h
    refine ⟨(List.range (topN c xs r 0)).map fun i => leadC c (mxC c xs i), ?_⟩
    unfold echM
    rw [prTo_fix hx hm]
    exact echC_fix he c 0 0 (by omega) (Nat.zero_le _) (fun i hi => by omega) (fun _ => Nat.zero_le _)
  · rintro ⟨pv, h⟩
    obtain ⟨he, -, -, -, -, hm⟩ := echM_says hx hn h
    exact he.echB hm r 0 (-1) (by omega) fun _ => ⟨by omega, by omega⟩
end Go.Proofs.Ytncplikadacjnaa
end

section
/-
  Plain mathematics of chapter 7: what a row is divided by in the program. Nothing of a program is used.
-/
namespace Go.Proofs.Ytncplikadacjnaa

/-- What a row is divided by. -/
def sgD (c : Nat) (v : Nat → Int) : Int := if gcdN c v = 0 then 1 else sgnN c v * gcdN c v
theorem sgD_div {c : Nat} {v : Nat → Int} (j : Nat) : (v j).tdiv (sgD c v) = prV c v j := by
  unfold sgD prV
  by_cases h : gcdN c v = 0
  · rw [if_pos h, if_pos h, Int.tdiv_one]
  · rw [if_neg h, if_neg h]
    rcases sgnN_or c v with hs | hs | hs
    · exact absurd hs (sgnN_ne h)
    · rw [hs, Int.one_mul, Int.one_mul]
    · rw [hs, Int.neg_mul, Int.neg_mul, Int.one_mul, Int.one_mul, Int.tdiv_neg, Int.neg_tdiv]
theorem sgD_ne (c : Nat) (v : Nat → Int) : sgD c v ≠ 0 := by
  unfold sgD
  by_cases h : gcdN c v = 0
  · rw [if_pos h]; decide
  · rw [if_neg h]
    exact Int.mul_ne_zero (sgnN_ne h) h
theorem sgD_num {c : Nat} {v : Nat → Int} (h : ∀ j, j < c → NumP (v j)) : NumP (sgD c v) := by
  have hg := gcdN_num h
  unfold sgD
  split
  · exact ⟨by decide, by decide⟩
  · unfold NumP at hg ⊢
    rcases sgnN_or c v with hs | hs | hs <;> rw [hs] <;> omega
theorem lead_zero {c : Nat} {v : Nat → Int} : leadC c v = c ↔ gcdN c v = 0 := by
  obtain ⟨h1, h2, h3⟩ := leadC_says c v
  constructor
  · intro h
    exact gcdN_all fun j hj => h2 j (by omega)
  · intro h
    rcases Nat.lt_or_ge (leadC c v) c with h4 | h4
    · exact absurd (gcdN_none h _ h4) (h3 h4)
    · omega
theorem sgD_end {c : Nat} {v : Nat → Int} (h : leadC c v = c) : sgD c v = 1 := by
  unfold sgD
  rw [if_pos (lead_zero.mp h)]
theorem sgD_lead {c : Nat} {v : Nat → Int} (h : leadC c v < c) : sgD c v = if v (leadC c v) < 0 then -gcdN c v else gcdN c v := by
  obtain ⟨h1, h2, h3⟩ := leadC_says c v
  unfold sgD
  rw [if_neg (fun e => by have := lead_zero.mpr e; omega), sgnN_first h h2 (h3 h)]
  split
  · rw [Int.neg_mul, Int.one_mul]
  · rw [Int.one_mul]
/-- The divisor is 1 for a row as an echelon form has it. -/
theorem sgD_one {c : Nat} {v : Nat → Int} : sgD c v = 1 ↔ ¬ (leadC c v < c ∧ (v (leadC c v) < 0 ∨ gcdN c v ≠ 1)) := by
  have g0 := gcdN_nonneg c v
  obtain ⟨h1, h2, h3⟩ := leadC_says c v
  rcases Nat.lt_or_ge (leadC c v) c with h | h
  · rw [sgD_lead h]
    by_cases hn : v (leadC c v) < 0
    · rw [if_pos hn]
      constructor
      · intro e; omega
      · intro e; exact absurd ⟨h, .inl hn⟩ e
    · rw [if_neg hn]
      constructor
      · rintro e ⟨-, h4 | h4⟩
        · exact hn h4
        · exact h4 e
      · intro e
        exact Classical.byContradiction fun h4 => e ⟨h, .inr h4⟩
  · rw [sgD_end (by omega)]
    exact ⟨fun _ h4 => by omega, fun _ => rfl⟩
/-- A row that is primitive has no other divisor. -/
theorem prL_norm {r c i : Nat} {xs : List Int} (hx : xs.length = r * c) (h : i < r → Norm c (mxC c xs i)) : prL r c i xs = xs := by
  rw [prL_row]
  exact rowL_self hx fun hi q hq => prV_id (h hi) hq
/-- A row with 0 in the pivot's column stays as it is. -/
theorem rdV_skip {u v : Nat → Int} {j : Nat} (hu : u j = 0) (hv : 0 < v j) (k : Nat) : rdV j u v k = u k := by
  unfold rdV
  rw [hu, Int.gcd_zero_left, Int.natAbs_of_nonneg (by omega), Int.tdiv_self (by omega), Int.zero_tdiv]
  omega
theorem rdL_skip {r c t j i : Nat} {xs : List Int} (hx : xs.length = r * c) (hu : mxC c xs i j = 0) (hv : 0 < mxC c xs t j) (hn : i < r → Norm c (mxC c xs i)) : rdL r c t j i xs = xs := by
  rw [rdL_row]
  refine rowL_self hx fun hi q hq => ?_
  have e : prV c (rdV j (mxC c xs i) (mxC c xs t)) q = prV c (mxC c xs i) q := prV_congr (fun k _ => rdV_skip hu hv k) q hq
  rw [e, prV_id (hn hi) hq]
theorem rowN_skip {c t j i r : Nat} {xs : List Int} (hx : xs.length = r * c) (nx : nums xs = true) (hi : i < r) (hu : mxC c xs i j = 0) (hv : 0 < mxC c xs t j) : rowN c (rdV j (mxC c xs i) (mxC c xs t)) = true :=
  rowN_iff.mpr fun q hq => by rw [rdV_skip hu hv]; exact mx_nums hx nx hi hq
/-- One row of the elimination as the program does it: rows with 0 are not left out. -/
theorem elimR_go {r c t j k i : Nat} {xs : List Int} (hx : xs.length = r * c) (nx : nums xs = true) (hi : i < r) (hit : i ≠ t) (hv : 0 < mxC c xs t j) (hn : Norm c (mxC c xs i)) :
    (rowN c (rdV j (mxC c xs i) (mxC c xs t)) = true → elimR r c t j (k + 1) i xs = elimR r c t j k (i + 1) (rdL r c t j i xs)) ∧ (rowN c (rdV j (mxC c xs i) (mxC c xs t)) ≠ true → elimR r c t j (k + 1) i xs = none) := by
  by_cases h0 : mxC c xs i j = 0
  · refine ⟨fun _ => ?_, fun h => absurd (rowN_skip hx nx hi h0 hv) h⟩
    rw [elimR_skip (.inr h0), rdL_skip hx h0 hv fun _ => hn]
  · have h1 : ¬ (i = t ∨ mxC c xs i j = 0) := fun e => e.elim hit h0
    exact ⟨fun h => elimR_on h1 h, fun h => elimR_bad h1 h⟩
/-- Where all rows have their pivots, nothing is left to do. -/
theorem echC_full {r c : Nat} {xs : List Int} {pv : List Nat} (h : ¬ pv.length < r) (k j : Nat) : echC r c k j xs pv = some (xs, pv) := by
  cases k with
  | zero => rfl
  | succ k => exact if_neg h
end Go.Proofs.Ytncplikadacjnaa
end

section
/-
  Chapter 7, in the program: a row's first cell with something, and what the row is divided by.
-/
namespace Go.Proofs.Ytncplikadacjnaa
set_option maxRecDepth 100000
open Go.RowKit

theorem iLead (c cap : Nat) (q : Option Addr) (v : Nat → Int) (w : World) (h : Rd w q (rwL c v)) (hc : c ≤ 24) :
    Calls Try.prog 104 #[.slice q c cap] w (fun e w' => e = .returned (.int .i64 (leadC c v : Int)) ∧ w' = w) := by
  have RX : Hid (∀ j, j < c → ∃ b o : Nat, q = some ⟨b, o, none⟩ ∧ w.cell? ⟨b, o + j, none⟩ = some (.int .i64 (v j))) := fun j hj => by
    have := h j (by rw [rwL_length]; exact hj)
    rw [rwL_at hj] at this
    exact this
  clear h
  go_enter Try.func104, Try.ntmps104
  go_wp2_with fail
  go_loopw [3, 4, 7] (fun _ _ v7 wr => ∃ j : Nat, v7 = .int .i64 j ∧ j ≤ c ∧ (∀ i, i < j → v i = 0) ∧ wr = w) (fun _ _ v7 _ => c - (intOf v7).toNat)
  case atStart => exact ⟨0, rfl, by omega, fun i hi => by omega, rfl⟩
  case round =>
    obtain ⟨j, rfl, hj, hz, rfl⟩ := hrel
    have Z := Lib.hid hz
    clear hz
    by_cases hlt : j < c
    · obtain ⟨b, o, rfl, hcell⟩ := RX.out j hlt
      obtain ⟨x, hx⟩ : ∃ x, v j = x := ⟨_, rfl⟩
      have X := Lib.hid hx
      rw [hx] at hcell
      clear hx
      by_cases h0 : x = 0
      · have n1 : (x != 0) = false := by simp [h0]
        have n2 : (x == 0) = true := by simp [h0]
        have Z1 : Hid (∀ i, i < j + 1 → v i = 0) := fun i hi => by
          rcases Nat.lt_or_ge i j with h1 | h1
          · exact Z.out i h1
          · obtain rfl : i = j := by omega
            rw [X.out, h0]
        clear h0
        go_wp2_with fail
        go_roundw
        case rel => exact ⟨j + 1, by go_num, by omega, Z1.out, trivial⟩
        case measure => simp [intOf]; omega
      · have n1 : (x != 0) = true := by simpa using h0
        have n2 : (x == 0) = false := by simpa using h0
        have L : Hid (leadC c v = j) := leadF_eq (Nat.zero_le _) (by omega) (fun i _ hi => Z.out i hi) (fun _ => by rw [X.out]; exact h0)
        clear h0
        go_wp2_with fail
        go_ret
        exact ⟨by rw [L.out]; rfl, rfl⟩
    · obtain rfl : c = j := by omega
      have L : Hid (leadC c v = c) := leadF_eq (Nat.zero_le _) (by omega) (fun i _ hi => Z.out i hi) (fun h => by omega)
      go_wp2_with fail
      go_ret
      exact ⟨by rw [L.out]; rfl, rfl⟩
theorem iSgD (c cap : Nat) (q : Option Addr) (v : Nat → Int) (w : World) (h : Rd w q (rwL c v)) (hc : c ≤ 24) (hv : ∀ j, j < c → NumP (v j)) :
    Calls Try.prog 83 #[.slice q c cap] w (fun e w' => e = .returned (.int .i64 (sgD c v)) ∧ ∃ n, w' = w.drewN n) := by
  have LD : Hid (Calls Try.prog 104 #[.slice q c cap] w (fun e w' => e = .returned (.int .i64 (leadC c v : Int)) ∧ w' = w)) := iLead c cap q v w h hc
  have RX : Hid (∀ j n, j < c → ∃ b o : Nat, q = some ⟨b, o, none⟩ ∧ (w.drewN n).cell? ⟨b, o + j, none⟩ = some (.int .i64 (v j))) := fun j n hj => by
    have := h.drewN n j (by rw [rwL_length]; exact hj)
    rw [rwL_at hj] at this
    exact this
  have VN := Lib.hid hv
  obtain ⟨l1, -, -⟩ := leadC_says c v
  have SE : Hid (leadC c v = c → sgD c v = 1) := sgD_end
  have SL : Hid (leadC c v < c → sgD c v = if v (leadC c v) < 0 then -gcdN c v else gcdN c v) := sgD_lead
  have GB := gcdN_num (n := c) (f := v) hv
  unfold NumP at GB
  generalize leadC c v = l at LD l1 SE SL
  clear h hv
  go_enter Try.func83, Try.ntmps83
  go_wp2_with fail
  refine LD.out.mono ?_
  rintro e w1 ⟨rfl, rfl⟩
  by_cases hl : l = c
  · have n1 : ((l : Int) == (c : Int)) = true := by simp [hl]
    have S1 := Lib.hid (SE.out hl)
    clear hl
    go_wp2_with fail
    go_ret
    exact ⟨by rw [S1.out]; rfl, 0, rfl⟩
  · have n1 : ((l : Int) == (c : Int)) = false := by simp; omega
    have hlc : l < c := by omega
    have S1 := Lib.hid (SL.out hlc)
    clear hl SE SL
    go_wp2_with fail
    go_loopw [4, 6, 15] (fun v4 _ v15 wr => ∃ j n : Nat, v15 = .int .i64 j ∧ j ≤ c ∧ v4 = .int .i64 (gcdN j v) ∧ wr = w1.drewN n) (fun _ _ v15 _ => c - (intOf v15).toNat)
    case atStart => exact ⟨0, 0, rfl, by omega, rfl, rfl⟩
    case round =>
      obtain ⟨j, n, rfl, hj, rfl, rfl⟩ := hrel
      by_cases hlt : j < c
      · obtain ⟨b, o, rfl, hcell⟩ := RX.out j n hlt
        have hb := VN.out j hlt
        have hg := gcdN_num (n := j) (f := v) (fun k hk => VN.out k (by omega))
        have GS : Hid (gcdN (j + 1) v = ((gcdN j v).gcd (v j) : Int)) := rfl
        generalize gcdN j v = gg at hg GS
        generalize v j = x at hcell hb GS
        unfold NumP at hb hg
        go_wp2_with fail
        refine (iGD gg x _ (by omega) (by omega)).mono ?_
        rintro e w2 ⟨rfl, k, rfl⟩
        go_wp2_with fail
        go_roundw
        case rel => exact ⟨j + 1, n + k, by go_num, by omega, by first | (rw [GS.out]; done) | (rw [GS.out]; simp), by first | rfl | rw [World.drewN_drewN]⟩
        case measure => simp [intOf]; omega
      · obtain rfl : c = j := by omega
        clear hlt
        obtain ⟨b, o, rfl, hcell⟩ := RX.out l n hlc
        obtain ⟨x, hx⟩ : ∃ x, v l = x := ⟨_, rfl⟩
        rw [hx] at hcell S1
        clear hx
        obtain ⟨gg, hgg⟩ : ∃ gg, gcdN c v = gg := ⟨_, rfl⟩
        rw [hgg] at S1 GB
        rw [hgg]
        clear hgg
        have v1 : IntKind.i64.wrap (-gg) = -gg := IntWalk.i64_in _ (by omega)
        have l0 : (0 : Int) ≤ (l : Int) := by omega
        have l2 : (l : Int) < (c : Int) := by omega
        by_cases hneg : x < 0
        · rw [if_pos hneg] at S1
          have n2 : decide (x < 0) = true := decide_eq_true hneg
          go_wp2_with fail
          go_ret
          exact ⟨by rw [S1.out]; rfl, n, rfl⟩
        · rw [if_neg hneg] at S1
          have n2 : decide (x < 0) = false := decide_eq_false hneg
          go_wp2_with fail
          go_ret
          exact ⟨by rw [S1.out]; rfl, n, rfl⟩
end Go.Proofs.Ytncplikadacjnaa
end

section
/-
  Chapter 5, in the model: an operation on rows, in place.
-/
namespace Go.Proofs.Ytncplikadacjnaa
set_option maxRecDepth 100000
open Go.RowKit

/-! ### l5Do -/
/-- A statement that gives back nothing. -/
def Void (e : Ending) : Prop := e = .returned (.tuple #[])
theorem tenF {W w' : World} {b b' : Nat} {t t' : TypeId} {p q r x y z u : Value} {pr : Nat → Prop} (h0 : Blk3 W b t p q r) (h1 : Blk4 W b' t' x y z u) (hg : FrS pr W w') (hb : ¬ pr b) (hb' : ¬ pr b') :
    w'.cell? ⟨b, 0, none⟩ = some p ∧ w'.cell? ⟨b, 1, none⟩ = some q ∧ w'.cell? ⟨b, 2, none⟩ = some r ∧ w'.cell? ⟨b', 0, none⟩ = some x ∧ w'.cell? ⟨b', 1, none⟩ = some y ∧ w'.cell? ⟨b', 2, none⟩ = some z ∧ w'.cell? ⟨b', 3, none⟩ = some u := by
  have k1 : Blk4 w' b' t' x y z u := (hg.block b' h1.lt hb').trans h1
  exact ⟨(h0.frs hg hb).cell0, (h0.frs hg hb).cell1, (h0.frs hg hb).cell2, k1.cell0, k1.cell1, k1.cell2, k1.cell3⟩
/-- Ints in a block whose size is known. -/
def IntsZ (S : Nat) (w : World) (g : Nat) (zs : List Int) : Prop := Ints w g zs ∧ ∃ (cur : Array Value) (t : TypeId) (f : Nat × Nat), w.heap[g]? = some (.cells cur t f) ∧ cur.size = S
theorem IntsZ.of {w : World} {g : Nat} {zs : List Int} (h : Ints w g zs) : ∃ S, IntsZ S w g zs := by
  obtain ⟨rest, e⟩ := id h
  exact ⟨_, h, _, _, _, e, rfl⟩
theorem IntsZ.move {S : Nat} {w w' : World} {g : Nat} {zs : List Int} (h : IntsZ S w g zs) (e : w'.heap[g]? = w.heap[g]?) : IntsZ S w' g zs := by
  obtain ⟨h1, cur, t, f, h2, h3⟩ := h
  exact ⟨h1.move e, cur, t, f, e.trans h2, h3⟩
theorem IntsZ.lt {S : Nat} {w : World} {g : Nat} {zs : List Int} (h : IntsZ S w g zs) : g < w.heap.size := h.1.lt
theorem IntsZ.cell {S : Nat} {w : World} {g : Nat} {zs : List Int} (h : IntsZ S w g zs) {i : Nat} (hi : i < zs.length) : w.cell? ⟨g, i, none⟩ = some (.int .i64 (zs.getD i 0)) := h.1.cell hi
theorem IntsZ.free {S : Nat} {w : World} {g : Nat} {zs : List Int} (h : IntsZ S w g zs) (i : Nat) : w.frozen? ⟨g, i, none⟩ = false := h.1.free i
theorem IntsZ.drew {S : Nat} {w : World} {g : Nat} {zs : List Int} (h : IntsZ S w g zs) : IntsZ S w.drew g zs := h
theorem IntsZ.old {S : Nat} {w : World} {g : Nat} {zs : List Int} (h : IntsZ S w g zs) (o : Obj) : IntsZ S (w.alloc o) g zs := h.move (Below.heap_alloc w o g h.lt)
theorem IntsZ.set {S : Nat} {w : World} {g : Nat} {zs : List Int} (h : IntsZ S w g zs) (i : Nat) (z : Int) : IntsZ S (w.setCell ⟨g, i, none⟩ (.int .i64 z)) g (zs.set i z) := by
  obtain ⟨h1, cur, t, f, h2, h3⟩ := h
  refine ⟨h1.set i z, cur.setIfInBounds i (.int .i64 z), t, f, ?_, by simp [h3]⟩
  obtain ⟨hlt, hget⟩ := Array.getElem?_eq_some_iff.mp h2
  simp [World.setCell, hlt, Array.getElem_modify, hget]
theorem IntsC.z {w : World} {g cap : Nat} {zs : List Int} (h : IntsC w g cap zs) : IntsZ cap w g zs := by
  obtain ⟨-, rest, hl, e⟩ := id h
  exact ⟨h.ints, _, _, _, e, by simp; omega⟩
theorem IntsZ.c {w : World} {g cap : Nat} {zs : List Int} (h : IntsZ cap w g zs) (hc : cap ≤ maxLen) : IntsC w g cap zs := by
  obtain ⟨⟨rest, e⟩, cur, t, f, h2, h3⟩ := h
  rw [e] at h2
  simp only [Option.some.injEq, Obj.cells.injEq] at h2
  refine ⟨hc, rest, ?_, e⟩
  rw [← h3, ← h2.1]
  simp
set_option maxRecDepth 100000 in
set_option maxHeartbeats 4000000 in
theorem sDoZ (S R C Iq J g n cap : Nat) (k t : Int) (xs : List Int) (w : World) (hi : IntsZ S w g xs) (hx : xs.length = n) (hn : n = R * C) (hR : R ≤ 24) (hC : C ≤ 24) (hI : Iq < R) (hJ : J < R) (hk : k = 0 ∨ k = 1 ∨ k = 2) (hIJ : k = 0 → Iq ≠ J) :
    Calls Try.prog 78 #[.agg #[.int .i64 R, .int .i64 C, .slice (some ⟨g, 0, none⟩) n cap], .agg #[.int .i64 k, .int .i64 Iq, .int .i64 J, .int .i64 t]] w (fun e w' => Void e ∧ IntsZ S w' g (opL k Iq J t C xs) ∧ w.grownBy w' (some g)) := by
  have hle : R * C ≤ 24 * 24 := Nat.mul_le_mul hR hC
  have I0 := Lib.hid hi
  have HX := Lib.hid hx
  have HN := Lib.hid hn
  have HIJ := Lib.hid hIJ
  have gl := hi.lt
  rw [← hn] at hle
  have K0 : Hid (Blk3 ((w.alloc (.cells #[.int .i64 R, .int .i64 C, .slice (some ⟨g, 0, none⟩) n cap] 26)).alloc (.cells #[.int .i64 k, .int .i64 Iq, .int .i64 J, .int .i64 t] 92)) w.heap.size 26 (.int .i64 R) (.int .i64 C) (.slice (some ⟨g, 0, none⟩) n cap)) := (Blk3.at_ _ _ _ _ rfl).old _
  have K1 : Hid (Blk4 ((w.alloc (.cells #[.int .i64 R, .int .i64 C, .slice (some ⟨g, 0, none⟩) n cap] 26)).alloc (.cells #[.int .i64 k, .int .i64 Iq, .int .i64 J, .int .i64 t] 92)) (w.heap.size + 1) 92 (.int .i64 k) (.int .i64 Iq) (.int .i64 J) (.int .i64 t)) := Blk4.at_ _ _ _ _ _ (by simp)
  have I1 : Hid (IntsZ S ((w.alloc (.cells #[.int .i64 R, .int .i64 C, .slice (some ⟨g, 0, none⟩) n cap] 26)).alloc (.cells #[.int .i64 k, .int .i64 Iq, .int .i64 J, .int .i64 t] 92)) g xs) := (hi.old _).old _
  have G0 : Hid (w.grownBy ((w.alloc (.cells #[.int .i64 R, .int .i64 C, .slice (some ⟨g, 0, none⟩) n cap] 26)).alloc (.cells #[.int .i64 k, .int .i64 Iq, .int .i64 J, .int .i64 t] 92)) (some g)) := (World.grownBy_alloc w _ _).trans (World.grownBy_alloc _ _ _)
  clear hi hx hn hIJ
  go_enter Try.func78, Try.ntmps78
  go_wp2_with fail
  go_loopw [4, 5, 6] (fun i _ _ wr => ∃ q : Nat, i = .int .i64 q ∧ q ≤ C ∧ IntsZ S wr g (opTo k Iq J t C xs q) ∧ ((w.alloc (.cells #[.int .i64 R, .int .i64 C, .slice (some ⟨g, 0, none⟩) n cap] 26)).alloc (.cells #[.int .i64 k, .int .i64 Iq, .int .i64 J, .int .i64 t] 92)).grownBy wr (some g)) (fun i _ _ _ => C - (intOf i).toNat)
  case atStart => exact ⟨0, rfl, by omega, by rw [opTo_zero]; exact I1.out, World.grownBy.refl _ _⟩
  case round =>
    obtain ⟨q, rfl, hq, hi, hgr⟩ := hrel
    have I := Lib.hid hi
    have G := Lib.hid hgr
    have GW := Lib.hid (G0.out.trans hgr)
    clear hi hgr
    have R0 := Lib.hid (K0.out.keepOne G.out (by omega))
    have R1 := Lib.hid (K1.out.keepOne G.out (by omega))
    obtain ⟨r0, r1, r2, -, -, -⟩ := R0.out.all
    obtain ⟨o0, o1, o2, o3⟩ := R1.out.all
    by_cases hlt : q < C
    · have a1 : Iq * C + q < n := by rw [HN.out]; exact idx_lt hI hlt
      have a2 : J * C + q < n := by rw [HN.out]; exact idx_lt hJ hlt
      have c1 : (Iq : Int) * (C : Int) = ((Iq * C : Nat) : Int) := (Int.natCast_mul _ _).symm
      have c2 : (J : Int) * (C : Int) = ((J * C : Nat) : Int) := (Int.natCast_mul _ _).symm
      have d1 : 0 ≤ (Iq : Int) * (C : Int) ∧ (Iq : Int) * (C : Int) ≤ 600 := by rw [c1]; omega
      have d2 : 0 ≤ (J : Int) * (C : Int) ∧ (J : Int) * (C : Int) ≤ 600 := by rw [c2]; omega
      have e1 : 0 ≤ (Iq : Int) * (C : Int) + (q : Int) := by omega
      have e2 : (Iq : Int) * (C : Int) + (q : Int) < (n : Int) := by rw [c1]; omega
      have e3 : ((Iq : Int) * (C : Int) + (q : Int)).toNat = Iq * C + q := by rw [c1]; omega
      have f1 : 0 ≤ (J : Int) * (C : Int) + (q : Int) := by omega
      have f2 : (J : Int) * (C : Int) + (q : Int) < (n : Int) := by rw [c2]; omega
      have f3 : ((J : Int) * (C : Int) + (q : Int)).toNat = J * C + q := by rw [c2]; omega
      obtain ⟨d11, d12⟩ := d1
      obtain ⟨d21, d22⟩ := d2
      have v1 : IntKind.i64.wrap ((Iq : Int) * (C : Int)) = (Iq : Int) * (C : Int) := IntWalk.i64_in _ (by omega)
      have v2 : IntKind.i64.wrap ((Iq : Int) * (C : Int) + (q : Int)) = (Iq : Int) * (C : Int) + (q : Int) := IntWalk.i64_in _ (by omega)
      have v3 : IntKind.i64.wrap ((J : Int) * (C : Int)) = (J : Int) * (C : Int) := IntWalk.i64_in _ (by omega)
      have v4 : IntKind.i64.wrap ((J : Int) * (C : Int) + (q : Int)) = (J : Int) * (C : Int) + (q : Int) := IntWalk.i64_in _ (by omega)
      have h1 := I.out.cell (i := Iq * C + q) (by rw [opTo_length, HX.out]; exact a1)
      have h2 := I.out.cell (i := J * C + q) (by rw [opTo_length, HX.out]; exact a2)
      rw [opTo_at _ _ _ _ _ _ _ _ hlt (by rw [HX.out]; exact a1)] at h1
      rw [opTo_at _ _ _ _ _ _ _ _ hlt (by rw [HX.out]; exact a2)] at h2
      have fr1 := I.out.free (Iq * C + q)
      have fr2 := I.out.free (J * C + q)
      have hlen : xs.length = R * C := by rw [HX.out, HN.out]
      obtain ⟨x, hxx⟩ : ∃ x, xs.getD (Iq * C + q) 0 = x := ⟨_, rfl⟩
      obtain ⟨y, hyy⟩ : ∃ y, xs.getD (J * C + q) 0 = y := ⟨_, rfl⟩
      have s0 := op_swap Iq J t C R xs q hlen hI hJ hlt
      have s1 := op_one 1 Iq J t C R xs q (mulB x (-1)) hlen hI hlt (.inl rfl) (by rw [opAt_one _ _ _ _ _ hlt, hxx])
      have s2 := op_one 2 Iq J t C R xs q (addB x (mulB y t)) hlen hI hlt (.inr rfl) (by rw [opAt_two _ _ _ _ _ hlt, hxx, hyy])
      rw [hxx, hyy] at s0
      rw [hxx] at h1
      rw [hyy] at h2
      have S0 := Lib.hid s0
      have S1 := Lib.hid s1
      have S2 := Lib.hid s2
      have A1 := Lib.hid a1
      have A2 := Lib.hid a2
      clear c1 c2 hxx hyy s0 s1 s2 hlen a1 a2
      rcases hk with e0 | e0 | e0
      · have n0 : (k == 0) = true := by simpa using e0
        have n1 : (k == 1) = false := by rw [e0]; rfl
        have KE := Lib.hid e0
        clear e0
        have IS := I.out.set (Iq * C + q) y
        have fr2 := IS.free (J * C + q)
        have hold := IS.cell (i := J * C + q) (by rw [List.length_set, opTo_length, HX.out]; exact A2.out)
        have rr0 : Blk3 (wr.setCell ⟨g, Iq * C + q, none⟩ (.int .i64 y)) w.heap.size 26 (.int .i64 R) (.int .i64 C) (.slice (some ⟨g, 0, none⟩) n cap) := R0.out.far (by simp; omega) _
        have rr1 : Blk4 (wr.setCell ⟨g, Iq * C + q, none⟩ (.int .i64 y)) (w.heap.size + 1) 92 (.int .i64 k) (.int .i64 Iq) (.int .i64 J) (.int .i64 t) := (Below.heap_setCell wr ⟨g, Iq * C + q, none⟩ (.int .i64 y) (w.heap.size + 1) (by simp; omega)).trans R1.out
        obtain ⟨z0, z1, z2, -, -, -⟩ := rr0.all
        obtain ⟨y0, y1, y2, y3⟩ := rr1.all
        have IS2 := Lib.hid (IS.set (J * C + q) x)
        clear IS rr0 rr1
        go_wp2_with fail
        go_roundw
        case rel =>
          refine ⟨q + 1, by go_num, by omega, ?_, ?_⟩
          · have := S0.out
            rcases this with h | h
            · have z := IS2.out; rw [KE.out] at z ⊢; rw [← h]; exact z
            · exact absurd h (HIJ.out KE.out)
          · exact grown_set_one (a := ⟨g, J * C + q, none⟩) (grown_set_one (a := ⟨g, Iq * C + q, none⟩) G.out rfl _) rfl _
        case measure => simp [intOf]; omega
      · have n0 : (k == 0) = false := by rw [e0]; rfl
        have n1 : (k == 1) = true := by simpa using e0
        have KE := Lib.hid e0
        clear e0
        go_upto_region 12 with fail
        refine wp_region_held_drew (S := fun w' => FrS (fun k => k = g) wr w') (by kernel_rfl) (FrS.refl _ _).drew (fun hH => ?_)
        refine wpAnyH_take (i := 0) (v := ?_) (by simp only [List.getElem?_toArray, List.getElem?_cons_zero]; rfl) (by kernel_rfl) (by kernel_rfl) (by kernel_rfl) (by exact fun _ _ _ h => h) (Or.inl ⟨by rfl, ?_⟩) hH ?_
        rotate_left
        · (intro wS hS; clear hS; go_simp; try rfl)
        try simp only [Act.put, List.setIfInBounds_toArray, List.set_cons_zero, List.set_cons_succ]
        refine wpAnyH_take (i := 1) (v := ?_) (by simp only [List.getElem?_toArray, List.getElem?_cons_succ, List.getElem?_cons_zero]; rfl) (by kernel_rfl) (by kernel_rfl) (by kernel_rfl) (by exact fun _ _ _ h => h) (Or.inl ⟨by rfl, ?_⟩) hH ?_
        rotate_left
        · (intro wS hS; (try dsimp only at hS); obtain ⟨k1, k2, k3, k4, k5, k6, k7⟩ := tenF R0.out R1.out hS (by omega) (by omega); go_simp; try rfl)
        try simp only [Act.put, List.setIfInBounds_toArray, List.set_cons_zero, List.set_cons_succ]
        refine wpAnyH_take (i := 2) (v := ?_) (by simp only [List.getElem?_toArray, List.getElem?_cons_succ, List.getElem?_cons_zero]; rfl) (by kernel_rfl) (by kernel_rfl) (by kernel_rfl) (by exact fun _ _ _ h => h) (Or.inl ⟨by rfl, ?_⟩) hH ?_
        rotate_left
        · (intro wS hS; clear hS; go_simp; try rfl)
        try simp only [Act.put, List.setIfInBounds_toArray, List.set_cons_zero, List.set_cons_succ]
        refine wpAnyH_take (i := 3) (v := ?_) (by simp only [List.getElem?_toArray, List.getElem?_cons_succ, List.getElem?_cons_zero]; rfl) (by kernel_rfl) (by kernel_rfl) (by kernel_rfl) (by exact fun _ _ _ h => h) (Or.inl ⟨by rfl, ?_⟩) hH ?_
        rotate_left
        · (intro wS hS; (try dsimp only at hS); obtain ⟨k1, k2, k3, k4, k5, k6, k7⟩ := tenF R0.out R1.out hS (by omega) (by omega); go_simp; try rfl)
        try simp only [Act.put, List.setIfInBounds_toArray, List.set_cons_zero, List.set_cons_succ]
        refine wpAnyH_take (i := 4) (v := ?_) (by simp only [List.getElem?_toArray, List.getElem?_cons_succ, List.getElem?_cons_zero]; rfl) (by kernel_rfl) (by kernel_rfl) (by kernel_rfl) (by exact fun _ _ _ h => h) (Or.inl ⟨by rfl, ?_⟩) hH ?_
        rotate_left
        · (intro wS hS; clear hS; go_simp; try rfl)
        try simp only [Act.put, List.setIfInBounds_toArray, List.set_cons_zero, List.set_cons_succ]
        refine wpAnyH_take (i := 5) (v := ?_) (by simp only [List.getElem?_toArray, List.getElem?_cons_succ, List.getElem?_cons_zero]; rfl) (by kernel_rfl) (by kernel_rfl) (by kernel_rfl) (by exact fun _ _ _ h => h) (Or.inl ⟨by rfl, ?_⟩) hH ?_
        rotate_left
        · (intro wS hS; (try dsimp only at hS); obtain ⟨k1, k2, k3, k4, k5, k6, k7⟩ := tenF R0.out R1.out hS (by omega) (by omega); go_simp; try rfl)
        try simp only [Act.put, List.setIfInBounds_toArray, List.set_cons_zero, List.set_cons_succ]
        refine wpAnyH_take (i := 6) (v := ?_) (by simp only [List.getElem?_toArray, List.getElem?_cons_succ, List.getElem?_cons_zero]; rfl) (by kernel_rfl) (by kernel_rfl) (by kernel_rfl) (by exact fun _ _ _ h => h) (Or.inl ⟨by rfl, ?_⟩) hH ?_
        rotate_left
        · (intro wS hS; clear hS; go_simp; try rfl)
        try simp only [Act.put, List.setIfInBounds_toArray, List.set_cons_zero, List.set_cons_succ]
        refine wpAnyH_take (i := 7) (v := ?_) (by simp only [List.getElem?_toArray, List.getElem?_cons_succ, List.getElem?_cons_zero]; rfl) (by kernel_rfl) (by kernel_rfl) (by kernel_rfl) (by exact fun _ _ _ h => h) (Or.inl ⟨by rfl, ?_⟩) hH ?_
        rotate_left
        · (intro wS hS; clear hS; go_simp; try rfl)
        try simp only [Act.put, List.setIfInBounds_toArray, List.set_cons_zero, List.set_cons_succ]
        refine wpAnyH_take (i := 8) (v := ?_) (by simp only [List.getElem?_toArray, List.getElem?_cons_succ, List.getElem?_cons_zero]; rfl) (by kernel_rfl) (by kernel_rfl) (by kernel_rfl) (by exact fun _ _ _ h => h) (Or.inl ⟨by rfl, ?_⟩) hH ?_
        rotate_left
        · (intro wS hS; clear hS; go_simp; try rfl)
        try simp only [Act.put, List.setIfInBounds_toArray, List.set_cons_zero, List.set_cons_succ]
        refine wpAnyH_take (i := 9) (v := ?_) (by simp only [List.getElem?_toArray, List.getElem?_cons_succ, List.getElem?_cons_zero]; rfl) (by kernel_rfl) (by kernel_rfl) (by kernel_rfl) (by exact fun _ _ _ h => h) (Or.inl ⟨by rfl, ?_⟩) hH ?_
        rotate_left
        · (intro wS hS; clear hS; go_simp; try rfl)
        try simp only [Act.put, List.setIfInBounds_toArray, List.set_cons_zero, List.set_cons_succ]
        refine wpAnyH_ready (rs := [10]) (by kernel_rfl) (by simp) ?_
        refine AllReadyH.cons (by simp only [List.getElem?_toArray, List.getElem?_cons_succ, List.getElem?_cons_zero]; rfl) (fun KK hKK => ?_) AllReadyH.nil
        go_simp
        refine (sMulB x (-1) _).mono ?_
        rintro e w' ⟨rfl, rfl⟩
        try dsimp only
        refine hKK.out _ _ ?_ (fun hH2 => ?_)
        · exact (FrS.refl _ wr).drew
        clear hKK KK
        have hO := hH
        clear hH
        have hH := hH2
        clear hH2
        try simp only [Act.put, List.setIfInBounds_toArray, List.set_cons_zero, List.set_cons_succ]
        refine wpAnyH_take (i := 11) (v := ?_) (by simp only [List.getElem?_toArray, List.getElem?_cons_succ, List.getElem?_cons_zero]; rfl) (by kernel_rfl) (by kernel_rfl) (by kernel_rfl) (by exact fun _ _ _ h => h) (Or.inl ⟨by rfl, ?_⟩) hH ?_
        rotate_left
        · (intro wS hS; clear hS; go_simp; try rfl)
        try simp only [Act.put, List.setIfInBounds_toArray, List.set_cons_zero, List.set_cons_succ]
        have IX := Lib.hid (I.out.set (Iq * C + q) (mulB x (-1))).drew
        refine wpAnyH_ready (rs := [12]) (by kernel_rfl) (by simp) ?_
        refine AllReadyH.cons (by simp only [List.getElem?_toArray, List.getElem?_cons_succ, List.getElem?_cons_zero]; rfl) (fun KK hKK => ?_) AllReadyH.nil
        go_simp
        try dsimp only
        refine hKK.out _ _ ?_ (fun hH2 => ?_)
        · exact ((FrS.refl (fun k => k = g) wr).set (a := ⟨g, Iq * C + q, none⟩) (.inl rfl) _).drew
        clear hKK KK
        have hO := hH
        clear hH
        have hH := hH2
        clear hH2
        try simp only [Act.put, List.setIfInBounds_toArray, List.set_cons_zero, List.set_cons_succ]
        refine wpAnyH_done (by kernel_rfl) ?_ _
        go_wp2_with fail
        go_roundw
        case rel => exact ⟨q + 1, by go_num, by omega, by have z := IX.out; rw [KE.out] at z ⊢; rw [← S1.out]; exact z, grown_drew_one (grown_set_one (a := ⟨g, Iq * C + q, none⟩) G.out rfl _)⟩
        case measure => simp [intOf]; omega
      · have n0 : (k == 0) = false := by rw [e0]; rfl
        have n1 : (k == 1) = false := by rw [e0]; rfl
        have KE := Lib.hid e0
        clear e0
        go_upto_region 7 with fail
        refine wp_region_held_drew (S := fun w' => FrS (fun k => k = g) wr w') (by kernel_rfl) (FrS.refl _ _).drew (fun hH => ?_)
        refine wpAnyH_take (i := 0) (v := ?_) (by simp only [List.getElem?_toArray, List.getElem?_cons_zero]; rfl) (by kernel_rfl) (by kernel_rfl) (by kernel_rfl) (by exact fun _ _ _ h => h) (Or.inl ⟨by rfl, ?_⟩) hH ?_
        rotate_left
        · (intro wS hS; clear hS; go_simp; try rfl)
        try simp only [Act.put, List.setIfInBounds_toArray, List.set_cons_zero, List.set_cons_succ]
        refine wpAnyH_take (i := 1) (v := ?_) (by simp only [List.getElem?_toArray, List.getElem?_cons_succ, List.getElem?_cons_zero]; rfl) (by kernel_rfl) (by kernel_rfl) (by kernel_rfl) (by exact fun _ _ _ h => h) (Or.inl ⟨by rfl, ?_⟩) hH ?_
        rotate_left
        · (intro wS hS; (try dsimp only at hS); obtain ⟨k1, k2, k3, k4, k5, k6, k7⟩ := tenF R0.out R1.out hS (by omega) (by omega); go_simp; try rfl)
        try simp only [Act.put, List.setIfInBounds_toArray, List.set_cons_zero, List.set_cons_succ]
        refine wpAnyH_take (i := 2) (v := ?_) (by simp only [List.getElem?_toArray, List.getElem?_cons_succ, List.getElem?_cons_zero]; rfl) (by kernel_rfl) (by kernel_rfl) (by kernel_rfl) (by exact fun _ _ _ h => h) (Or.inl ⟨by rfl, ?_⟩) hH ?_
        rotate_left
        · (intro wS hS; clear hS; go_simp; try rfl)
        try simp only [Act.put, List.setIfInBounds_toArray, List.set_cons_zero, List.set_cons_succ]
        refine wpAnyH_take (i := 3) (v := ?_) (by simp only [List.getElem?_toArray, List.getElem?_cons_succ, List.getElem?_cons_zero]; rfl) (by kernel_rfl) (by kernel_rfl) (by kernel_rfl) (by exact fun _ _ _ h => h) (Or.inl ⟨by rfl, ?_⟩) hH ?_
        rotate_left
        · (intro wS hS; (try dsimp only at hS); obtain ⟨k1, k2, k3, k4, k5, k6, k7⟩ := tenF R0.out R1.out hS (by omega) (by omega); go_simp; try rfl)
        try simp only [Act.put, List.setIfInBounds_toArray, List.set_cons_zero, List.set_cons_succ]
        refine wpAnyH_take (i := 4) (v := ?_) (by simp only [List.getElem?_toArray, List.getElem?_cons_succ, List.getElem?_cons_zero]; rfl) (by kernel_rfl) (by kernel_rfl) (by kernel_rfl) (by exact fun _ _ _ h => h) (Or.inl ⟨by rfl, ?_⟩) hH ?_
        rotate_left
        · (intro wS hS; clear hS; go_simp; try rfl)
        try simp only [Act.put, List.setIfInBounds_toArray, List.set_cons_zero, List.set_cons_succ]
        refine wpAnyH_take (i := 5) (v := ?_) (by simp only [List.getElem?_toArray, List.getElem?_cons_succ, List.getElem?_cons_zero]; rfl) (by kernel_rfl) (by kernel_rfl) (by kernel_rfl) (by exact fun _ _ _ h => h) (Or.inl ⟨by rfl, ?_⟩) hH ?_
        rotate_left
        · (intro wS hS; (try dsimp only at hS); obtain ⟨k1, k2, k3, k4, k5, k6, k7⟩ := tenF R0.out R1.out hS (by omega) (by omega); go_simp; try rfl)
        try simp only [Act.put, List.setIfInBounds_toArray, List.set_cons_zero, List.set_cons_succ]
        refine wpAnyH_take (i := 6) (v := ?_) (by simp only [List.getElem?_toArray, List.getElem?_cons_succ, List.getElem?_cons_zero]; rfl) (by kernel_rfl) (by kernel_rfl) (by kernel_rfl) (by exact fun _ _ _ h => h) (Or.inl ⟨by rfl, ?_⟩) hH ?_
        rotate_left
        · (intro wS hS; clear hS; go_simp; try rfl)
        try simp only [Act.put, List.setIfInBounds_toArray, List.set_cons_zero, List.set_cons_succ]
        refine wpAnyH_take (i := 7) (v := ?_) (by simp only [List.getElem?_toArray, List.getElem?_cons_succ, List.getElem?_cons_zero]; rfl) (by kernel_rfl) (by kernel_rfl) (by kernel_rfl) (by exact fun _ _ _ h => h) (Or.inl ⟨by rfl, ?_⟩) hH ?_
        rotate_left
        · (intro wS hS; clear hS; go_simp; try rfl)
        try simp only [Act.put, List.setIfInBounds_toArray, List.set_cons_zero, List.set_cons_succ]
        refine wpAnyH_take (i := 8) (v := ?_) (by simp only [List.getElem?_toArray, List.getElem?_cons_succ, List.getElem?_cons_zero]; rfl) (by kernel_rfl) (by kernel_rfl) (by kernel_rfl) (by exact fun _ _ _ h => h) (Or.inl ⟨by rfl, ?_⟩) hH ?_
        rotate_left
        · (intro wS hS; clear hS; go_simp; try rfl)
        try simp only [Act.put, List.setIfInBounds_toArray, List.set_cons_zero, List.set_cons_succ]
        refine wpAnyH_take (i := 9) (v := ?_) (by simp only [List.getElem?_toArray, List.getElem?_cons_succ, List.getElem?_cons_zero]; rfl) (by kernel_rfl) (by kernel_rfl) (by kernel_rfl) (by exact fun _ _ _ h => h) (Or.inl ⟨by rfl, ?_⟩) hH ?_
        rotate_left
        · (intro wS hS; clear hS; go_simp; try rfl)
        try simp only [Act.put, List.setIfInBounds_toArray, List.set_cons_zero, List.set_cons_succ]
        refine wpAnyH_take (i := 10) (v := ?_) (by simp only [List.getElem?_toArray, List.getElem?_cons_succ, List.getElem?_cons_zero]; rfl) (by kernel_rfl) (by kernel_rfl) (by kernel_rfl) (by exact fun _ _ _ h => h) (Or.inl ⟨by rfl, ?_⟩) hH ?_
        rotate_left
        · (intro wS hS; clear hS; go_simp; try rfl)
        try simp only [Act.put, List.setIfInBounds_toArray, List.set_cons_zero, List.set_cons_succ]
        refine wpAnyH_take (i := 11) (v := ?_) (by simp only [List.getElem?_toArray, List.getElem?_cons_succ, List.getElem?_cons_zero]; rfl) (by kernel_rfl) (by kernel_rfl) (by kernel_rfl) (by exact fun _ _ _ h => h) (Or.inl ⟨by rfl, ?_⟩) hH ?_
        rotate_left
        · (intro wS hS; clear hS; go_simp; try rfl)
        try simp only [Act.put, List.setIfInBounds_toArray, List.set_cons_zero, List.set_cons_succ]
        refine wpAnyH_take (i := 12) (v := ?_) (by simp only [List.getElem?_toArray, List.getElem?_cons_succ, List.getElem?_cons_zero]; rfl) (by kernel_rfl) (by kernel_rfl) (by kernel_rfl) (by exact fun _ _ _ h => h) (Or.inl ⟨by rfl, ?_⟩) hH ?_
        rotate_left
        · (intro wS hS; (try dsimp only at hS); obtain ⟨k1, k2, k3, k4, k5, k6, k7⟩ := tenF R0.out R1.out hS (by omega) (by omega); go_simp; try rfl)
        try simp only [Act.put, List.setIfInBounds_toArray, List.set_cons_zero, List.set_cons_succ]
        refine wpAnyH_ready (rs := [13]) (by kernel_rfl) (by simp) ?_
        refine AllReadyH.cons (by simp only [List.getElem?_toArray, List.getElem?_cons_succ, List.getElem?_cons_zero]; rfl) (fun KK hKK => ?_) AllReadyH.nil
        go_simp
        refine (sMulB y t _).mono ?_
        rintro e w' ⟨rfl, rfl⟩
        try dsimp only
        refine hKK.out _ _ ?_ (fun hH2 => ?_)
        · exact (FrS.refl _ wr).drew
        clear hKK KK
        have hO := hH
        clear hH
        have hH := hH2
        clear hH2
        try simp only [Act.put, List.setIfInBounds_toArray, List.set_cons_zero, List.set_cons_succ]
        refine wpAnyH_ready (rs := [14]) (by kernel_rfl) (by simp) ?_
        refine AllReadyH.cons (by simp only [List.getElem?_toArray, List.getElem?_cons_succ, List.getElem?_cons_zero]; rfl) (fun KK hKK => ?_) AllReadyH.nil
        go_simp
        refine (sAddB x _ _).mono ?_
        rintro e w' ⟨rfl, rfl⟩
        try dsimp only
        refine hKK.out _ _ ?_ (fun hH2 => ?_)
        · exact (FrS.refl _ wr).drew
        clear hKK KK
        have hO := hH
        clear hH
        have hH := hH2
        clear hH2
        try simp only [Act.put, List.setIfInBounds_toArray, List.set_cons_zero, List.set_cons_succ]
        refine wpAnyH_take (i := 15) (v := ?_) (by simp only [List.getElem?_toArray, List.getElem?_cons_succ, List.getElem?_cons_zero]; rfl) (by kernel_rfl) (by kernel_rfl) (by kernel_rfl) (by exact fun _ _ _ h => h) (Or.inl ⟨by rfl, ?_⟩) hH ?_
        rotate_left
        · (intro wS hS; clear hS; go_simp; try rfl)
        try simp only [Act.put, List.setIfInBounds_toArray, List.set_cons_zero, List.set_cons_succ]
        have IX := Lib.hid (I.out.set (Iq * C + q) (addB x (mulB y t))).drew
        refine wpAnyH_ready (rs := [16]) (by kernel_rfl) (by simp) ?_
        refine AllReadyH.cons (by simp only [List.getElem?_toArray, List.getElem?_cons_succ, List.getElem?_cons_zero]; rfl) (fun KK hKK => ?_) AllReadyH.nil
        go_simp
        try dsimp only
        refine hKK.out _ _ ?_ (fun hH2 => ?_)
        · exact ((FrS.refl (fun k => k = g) wr).set (a := ⟨g, Iq * C + q, none⟩) (.inl rfl) _).drew
        clear hKK KK
        have hO := hH
        clear hH
        have hH := hH2
        clear hH2
        try simp only [Act.put, List.setIfInBounds_toArray, List.set_cons_zero, List.set_cons_succ]
        refine wpAnyH_done (by kernel_rfl) ?_ _
        go_wp2_with fail
        go_roundw
        case rel => exact ⟨q + 1, by go_num, by omega, by have z := IX.out; rw [KE.out] at z ⊢; rw [← S2.out]; exact z, grown_drew_one (grown_set_one (a := ⟨g, Iq * C + q, none⟩) G.out rfl _)⟩
        case measure => simp [intOf]; omega
    · have hq2 : decide (q < C) = false := by simpa using hlt
      have hqC : q = C := by omega
      have EQ : Hid (opTo k Iq J t C xs q = opL k Iq J t C xs) := by
        show opTo k Iq J t C xs q = opL k Iq J t C xs
        rw [hqC]
        refine opTo_all _ _ _ _ _ _ ?_
        rcases Nat.eq_zero_or_pos C with e | e
        · left; rw [HX.out, HN.out, e, Nat.mul_zero]
        · exact .inr e
      clear hqC
      go_wp2_with fail
      have II : IntsZ S wr g (opL k Iq J t C xs) := by rw [← EQ.out]; exact I.out
      go_end0
      exact ⟨rfl, II, GW.out⟩
theorem sDo (R C Iq J g n cap : Nat) (k t : Int) (xs : List Int) (w : World) (hi : Ints w g xs) (hx : xs.length = n) (hn : n = R * C) (hR : R ≤ 24) (hC : C ≤ 24) (hI : Iq < R) (hJ : J < R) (hk : k = 0 ∨ k = 1 ∨ k = 2) (hIJ : k = 0 → Iq ≠ J) :
    Calls Try.prog 78 #[.agg #[.int .i64 R, .int .i64 C, .slice (some ⟨g, 0, none⟩) n cap], .agg #[.int .i64 k, .int .i64 Iq, .int .i64 J, .int .i64 t]] w (fun e w' => Void e ∧ Ints w' g (opL k Iq J t C xs) ∧ w.grownBy w' (some g)) := by
  obtain ⟨S, h⟩ := IntsZ.of hi
  exact (sDoZ S R C Iq J g n cap k t xs w h hx hn hR hC hI hJ hk hIJ).mono fun _ _ ⟨h1, h2, h3⟩ => ⟨h1, h2.1, h3⟩
theorem sDoC (R C Iq J g n cap : Nat) (k t : Int) (xs : List Int) (w : World) (hi : IntsC w g cap xs) (hx : xs.length = n) (hn : n = R * C) (hR : R ≤ 24) (hC : C ≤ 24) (hI : Iq < R) (hJ : J < R) (hk : k = 0 ∨ k = 1 ∨ k = 2) (hIJ : k = 0 → Iq ≠ J) :
    Calls Try.prog 78 #[.agg #[.int .i64 R, .int .i64 C, .slice (some ⟨g, 0, none⟩) n cap], .agg #[.int .i64 k, .int .i64 Iq, .int .i64 J, .int .i64 t]] w (fun e w' => Void e ∧ IntsC w' g cap (opL k Iq J t C xs) ∧ w.grownBy w' (some g)) :=
  (sDoZ cap R C Iq J g n cap k t xs w hi.z hx hn hR hC hI hJ hk hIJ).mono fun _ _ ⟨h1, h2, h3⟩ => ⟨h1, h2.c hi.1, h3⟩
end Go.Proofs.Ytncplikadacjnaa
end
