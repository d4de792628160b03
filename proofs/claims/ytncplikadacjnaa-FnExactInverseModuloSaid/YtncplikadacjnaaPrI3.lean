/-
  Chapter 8, in the program: the iterator over primes; IsPrime.
-/
import Derived.Test.YtncplikadacjnaaPrI2
import Derived.Test.YtncplikadacjnaaRgX
import Derived.Test.YtncplikadacjnaaBlk1
import Derived.Test.YtncplikadacjnaaAppI
import Derived.Test.YtncplikadacjnaaDetS
import Derived.Shelf.Abstract
import Derived.WalkKit
import Derived.OwnWalkIn
import Derived.TacticsInMore
import Derived.LoopNIn
import Derived.LoopIn
import Derived.Maps.AppendAt
namespace Go.Proofs.Ytncplikadacjnaa
set_option maxRecDepth 100000
open Go.RowKit Go.Shelf

attribute [local go_sem] Oper.semAt_some

/-- A prime that the iterator gives out. -/
abbrev PrmQ := { q : Nat // q < 10001 ∧ prmB (q : Int) = true }
def prmV (ys : List PrmQ) : List Int := ys.map fun x => (x.1 : Int)
theorem prmV_snoc (ys : List PrmQ) (x : PrmQ) : prmV (ys ++ [x]) = prmV ys ++ [(x.1 : Int)] := by simp [prmV]
theorem prmV_length (ys : List PrmQ) : (prmV ys).length = ys.length := List.length_map ..
/-- What is left for the iterator, read off the cell of its variable. -/
def leftX (w : World) (v : Value) : Nat := match v with
  | .pointer (some a) => match w.cell? a with
    | some (.int _ z) => 10001 - z.toNat
    | _ => 0
  | _ => 0
theorem leftX_at {w : World} {b m : Nat} (h : w.cell? ⟨b, 0, none⟩ = some (.int .i64 (m : Int))) : leftX w (.pointer (some ⟨b, 0, none⟩)) = 10001 - m := by
  unfold leftX
  simp [h]
theorem prmTo_get {m k : Nat} (hk : k < (prmTo m).length) : (prmTo m).getD k 0 ∈ prmTo m := by
  have : (prmTo m).getD k 0 = (prmTo m)[k] := by simp [List.getD, hk]
  rw [this]
  exact List.getElem_mem hk
theorem prmTo_two_le {m k : Nat} (hk : k < (prmTo m).length) : 2 ≤ (prmTo m).getD k 0 := by
  obtain ⟨q, e, -, h⟩ := prmTo_mem.mp (prmTo_get hk)
  have := (prmB_says h).1.1
  omega
theorem prm_test {m : Nat} (h1 : 2 ≤ m) (h2 : m ≤ 10000) : (!prmB (m : Int)) = true ↔ ∃ k, k < (prmTo m).length ∧ (m : Int) % (prmTo m).getD k 0 = 0 := by
  constructor
  · intro h
    refine Classical.byContradiction fun hn => ?_
    have : prmB (m : Int) = true := (prm_iff h1 h2).mpr fun x hx he => by
      obtain ⟨k, hk, e⟩ := List.getElem_of_mem hx
      exact hn ⟨k, hk, by rw [show (prmTo m).getD k 0 = x by simp [List.getD, hk, e]]; exact he⟩
    rw [this] at h
    cases h
  · rintro ⟨k, hk, he⟩
    cases hp : prmB (m : Int) with
    | false => rfl
    | true => exact absurd he ((prm_iff h1 h2).mp hp _ (prmTo_get hk))
/-- The iterator's worlds, ahead of the test of m. -/
structure ItSt (J : List PrmQ → World → Prop) (B m b : Nat) (q : Option Addr) (qc : Nat) (pre : List PrmQ) (wr : World) : Prop where
  own : OwnQ B wr (.slice q (prmTo m).length qc) (prmTo m)
  box : Blk1 wr b 3 (.int .i64 m)
  ge : B ≤ b
  ne : (Value.slice q (prmTo m).length qc).ownBlock ≠ some b
  pre_ : prmV pre = prmTo m
  j : J pre wr
  sz : B ≤ wr.heap.size
theorem ItSt.kept {J : List PrmQ → World → Prop} {B m b : Nat} {q : Option Addr} {qc : Nat} {pre : List PrmQ} {wr w' : World} (h : ItSt J B m b q qc pre wr) (hk : KpX B wr w') :
    OwnQ B w' (.slice q (prmTo m).length qc) (prmTo m) ∧ Blk1 w' b 3 (.int .i64 m) ∧ B ≤ w'.heap.size :=
  ⟨h.own.move fun k e => hk.2 k (h.own.le e) (h.own.lt e), hk.at_ h.ge h.box, Nat.le_trans h.sz hk.1⟩
/-- The end of a round: a new box for the next number. -/
theorem ItSt.next {J : List PrmQ → World → Prop} {B m : Nat} {v : Value} {q : Option Addr} {qc : Nat} {pre : List PrmQ} {wr : World} (hab : AbX B J) (hv : v = .slice q (prmTo (m + 1)).length qc) (ho : OwnQ B wr v (prmTo (m + 1))) (hp : prmV pre = prmTo (m + 1)) (hj : J pre wr) (hs : B ≤ wr.heap.size) (z : Int) (hz : z = ((m + 1 : Nat) : Int)) :
    ItSt J B (m + 1) wr.heap.size q qc pre (wr.alloc (.cells #[.int .i64 z] 3)) := by
  subst hv hz
  exact ⟨ho.move fun k e => Below.heap_alloc wr _ k (ho.lt e), Blk1.at_ _ _ rfl, hs, fun e => by have := ho.lt e; omega, hp, hab.old hj _, by simp; omega⟩
set_option maxHeartbeats 4000000 in
theorem seqPrimes (n : Nat) (hn : 1 ≤ n) : SeqX Fence.wide n Try.prog 95 (fun x : PrmQ => #[Value.int .i64 (x.1 : Int)]) (fun ys => prmV ys = prmTo 10001) (fun pre => ∃ (ini : List PrmQ) (x : PrmQ), pre = ini ++ [x] ∧ prmV ini = prmTo x.1) 10001 := by
  intro l J Jx W hJ hJx hY h0
  have AJ := Lib.hid hJ
  have YY := Lib.hid hY
  clear hJ hJx hY
  have o0 : OwnQ W.heap.size (W.alloc (.cells #[] 3)) (.slice (some ⟨W.heap.size, 0, none⟩) 0 0) [] := OwnQ.none_ (Nat.le_refl _) ⟨Nat.zero_le _, [], rfl, heap_alloc_new W _⟩
  have S0 : Hid (ItSt J W.heap.size 2 (W.heap.size + 1) (some ⟨W.heap.size, 0, none⟩) 0 [] ((W.alloc (.cells #[] 3)).alloc (.cells #[.int .i64 2] 3))) := by
    refine ⟨?_, Blk1.at_ _ _ (by simp), by omega, by rw [prmTo_two]; simp [Value.ownBlock], by rw [prmTo_two]; rfl, AJ.out.old (AJ.out.old h0 _) _, by simp; omega⟩
    rw [prmTo_two]
    exact o0.move fun k e => Below.heap_alloc _ _ k (o0.lt e)
  clear o0
  refine callsIn_of_wp Try.func95 rfl trivial ?_ rfl
  simp only [Try.ntmps95, List.size_toArray, List.length_cons, List.length_nil, Nat.reduceAdd, Nat.reduceSub, Array.replicate_succ, Array.replicate_zero, List.push_toArray, List.append_toArray, List.nil_append, List.cons_append]
  gi_wp2
  gi_loopw [2, 3] (fun v2 v3 wr => ∃ (m b : Nat) (q : Option Addr) (qc : Nat) (pre : List PrmQ), v2 = .slice q (prmTo m).length qc ∧ v3 = .pointer (some ⟨b, 0, none⟩) ∧ 2 ≤ m ∧ m ≤ 10001 ∧ ItSt J W.heap.size m b q qc pre wr) (fun _ v3 wr => leftX wr v3)
  case atStart => exact ⟨2, _, _, _, [], by rw [prmTo_two]; rfl, rfl, by omega, by omega, S0.out⟩
  case round =>
    clear S0 h0
    obtain ⟨m, b, q, qc, pre, rfl, rfl, hm1, hm2, hS⟩ := hrel
    have S := Lib.hid hS
    have hc := hS.box.cell0
    have hLX := Lib.hid (leftX_at hc)
    have hL := prmTo_length m
    clear hS
    by_cases hlt : m ≤ 10000
    · have hcon := Lib.hid (iContains m b qc (prmTo m).length q (prmTo m) wr (S.out.own.own (by omega)).rdq rfl hc (by omega) (fun k hk => prmTo_two_le hk) (by omega) (!prmB (m : Int)) (prm_test hm1 hlt))
      have NX : Hid (∀ (v : Value) (q' : Option Addr) (qc' : Nat) (pre' : List PrmQ) (w' : World), v = .slice q' (prmTo (m + 1)).length qc' → OwnQ W.heap.size w' v (prmTo (m + 1)) → prmV pre' = prmTo (m + 1) → J pre' w' → W.heap.size ≤ w'.heap.size → ∀ z : Int, z = ((m + 1 : Nat) : Int) → ItSt J W.heap.size (m + 1) w'.heap.size q' qc' pre' (w'.alloc (.cells #[.int .i64 z] 3))) := fun v q' qc' pre' w' hv ho hp hj hs z hz => ItSt.next AJ.out hv ho hp hj hs z hz
      have LM : Hid (10001 - (m + 1) < 10001 - m) := by show _ < _; omega
      rcases Bool.eq_false_or_eq_true (prmB (m : Int)) with hp | hp
      · have PS : Hid (prmTo (m + 1) = prmTo m ++ [(m : Int)]) := by show _ = _; rw [prmTo_succ, if_pos hp]
        have PP : Hid (m < 10001 ∧ prmB (m : Int) = true) := ⟨by omega, hp⟩
        rw [hp] at hcon
        clear hp
        have PL : Hid (pre.length = (prmTo m).length) := by
          show _ = _
          rw [← prmV_length, S.out.pre_]
        obtain ⟨fn, tmps, assign, body, hy, hR⟩ := YY.out pre ⟨m, PP.out⟩ wr S.out.j (by rw [PL.out]; omega)
        dsimp only at hy
        gi_wp2_with (refine ⟨trivial, ?_⟩; gi_at_call 96; refine (callsIn_wide.2 hcon.out).mono ?_; rintro e w' ⟨rfl, rfl⟩)
        refine hR.mono ?_
        rintro e W3 (⟨rfl, hJ3, hk3⟩ | ⟨rfl, hJx3⟩)
        · obtain ⟨o3, b3, s3⟩ := S.out.kept hk3
          have O3 := Lib.hid o3
          have N3 := Lib.hid S.out.ne
          have B3 := Lib.hid b3
          have J3 := Lib.hid hJ3
          have hc3 := b3.cell0
          have PV : Hid (prmV (pre ++ [⟨m, PP.out⟩]) = prmTo (m + 1)) := by
            show _ = _
            rw [prmV_snoc, S.out.pre_, PS.out]
          clear hk3 o3 b3 hJ3 hR hy
          obtain ⟨fi, hfi, hz0, hz1, hz2⟩ := facts_int
          have HO : Hid ((W3.alloc (.cells #[.int .i64 m] 3)).ownsRow W.heap.size 3 1 (.slice q (prmTo m).length qc) (prmTo m).length ((prmTo m).map (Value.int .i64))) := by
            have h1 := O3.out.keep ((Below.refl _ _).alloc (Nat.le_refl _) (.cells #[.int .i64 m] 3))
            unfold OwnQ at h1
            exact h1
          gi_wp2_with (gi_at_builtin; refine wpListIn_append_own _ rfl _ _ 24 rfl W.heap.size 3 fi (.int .i64 0) 1 8 underlying_ints hfi hz0 hz1 hz2 rfl (by decide) _ _ _ rfl HO.out ⟨W3.heap.size, 0, none⟩ 1 1 [.int .i64 m] ?hx ?hl ?hnews ?h1 ?h63 ?hbytes ?hbase ?hnext)
          case hx => rfl
          case hl => rfl
          case hnews => exact cell_one_new _ _ _
          case h1 => intro v hv; simp at hv; subst hv; rfl
          case h63 => unfold maxLen; omega
          case hbytes => omega
          case hbase => simp; omega
          case hnext =>
            rintro v' w7 ho hg7 -
            have O7 : OwnQ W.heap.size w7 v' (prmTo (m + 1)) := by
              unfold OwnQ
              rw [PS.out, List.map_append, List.length_append]
              exact ho
            have b7 : Blk1 w7 b 3 (.int .i64 m) := (hg7.block b (by have := B3.out.lt; simp; omega) (fun e => N3.out e.symm)).trans ((Below.heap_alloc _ _ b B3.out.lt).trans B3.out)
            have s7 := hg7.size
            simp at s7
            have j7 : J (pre ++ [⟨m, PP.out⟩]) w7 := AJ.out _ _ _ _ (AJ.out.old J3.out _) hg7 (fun r e => O3.out.le e)
            obtain ⟨q', qc', hv'⟩ := O7.form
            have hc7 := b7.cell0
            have N7 := Lib.hid (NX.out v' q' qc' _ w7 hv' O7 PV.out j7 (by omega))
            subst hv'
            clear O7 ho hg7 b7 j7
            have ez : (m : Int) + 1 = ((m + 1 : Nat) : Int) := by omega
            have N8 := Lib.hid (N7.out ((m : Int) + 1) ez)
            clear ez
            gi_wp2
            go_roundw
            case rel => exact ⟨m + 1, _, q', qc', _, rfl, rfl, by omega, by omega, N8.out⟩
            case measure =>
              rw [hLX.out, leftX_at N8.out.box.cell0]
              exact LM.out
        · gi_wp2
          refine bodyPost_ret (results_none rfl _ _ _) rfl ?_
          exact ⟨⟨_, rfl⟩, .inr ⟨_, ⟨pre, ⟨m, PP.out⟩, rfl, S.out.pre_⟩, hJx3⟩⟩
      · have PS : Hid (prmTo (m + 1) = prmTo m) := by show _ = _; rw [prmTo_succ, if_neg (by rw [hp]; decide)]
        rw [hp] at hcon
        clear hp
        gi_wp2_with (refine ⟨trivial, ?_⟩; gi_at_call 96; refine (callsIn_wide.2 hcon.out).mono ?_; rintro e w' ⟨rfl, rfl⟩)
        have ez : (m : Int) + 1 = ((m + 1 : Nat) : Int) := by omega
        have N8 := Lib.hid (NX.out (.slice q (prmTo m).length qc) q qc pre wr (by rw [PS.out]) (by rw [PS.out]; exact S.out.own) (by rw [PS.out]; exact S.out.pre_) S.out.j S.out.sz ((m : Int) + 1) ez)
        clear ez
        go_roundw
        case rel => exact ⟨m + 1, _, q, qc, pre, by rw [PS.out], rfl, by omega, by omega, N8.out⟩
        case measure =>
          rw [hLX.out, leftX_at N8.out.box.cell0]
          exact LM.out
    · obtain rfl : m = 10001 := by omega
      gi_wp2
      go_end0
      exact ⟨⟨_, rfl⟩, .inl ⟨pre, S.out.pre_, S.out.j⟩⟩
/-- primes(). -/
theorem iPrimes (w : World) : Calls Try.prog 66 #[] w fun e w' => e = .returned (.func (.func 95) #[] #[]) ∧ w = w' := by
  go_enter Try.func66, Try.ntmps66
  go_wp2_with fail
  go_ret
  exact ⟨rfl, rfl⟩
/-- What holds of the worlds between two rounds of IsPrime's loop. -/
def prI (w : World) (p : Int) (pre : List PrmQ) (W : World) : Prop := (∀ x ∈ pre, (x.1 : Int) * (x.1 : Int) ≤ p ∧ p % (x.1 : Int) ≠ 0) ∧ Blk1 W w.heap.size 3 (.int .i64 p) ∧ Blk1 W (w.heap.size + 1) 4 (.bool false) ∧ Below w.heap.size w W
/-- .. and where it is left. -/
def prX (w : World) (p : Int) (c : Code) (pre : List PrmQ) (W : World) : Prop :=
  (∃ (ini : List PrmQ) (x : PrmQ), pre = ini ++ [x] ∧ (∀ y ∈ ini, p % (y.1 : Int) ≠ 0) ∧ ((c = .exit 0 ∧ p < (x.1 : Int) * (x.1 : Int)) ∨ (c = .ret ∧ (x.1 : Int) * (x.1 : Int) ≤ p ∧ p % (x.1 : Int) = 0))) ∧ Blk1 W (w.heap.size + 1) 4 (.bool false) ∧ Below w.heap.size w W
theorem prI.ab (w : World) (p : Int) : AbX (w.heap.size + 2) (prI w p) := fun s A B row hs hg hr => by
  obtain ⟨h1, h2, h3, h4⟩ := hs
  exact ⟨h1, (hg.block _ h2.lt (fun e => by have := hr _ e.symm; omega)).trans h2, (hg.block _ h3.lt (fun e => by have := hr _ e.symm; omega)).trans h3, h4.grown hg h4.size (fun k e => by have := hr _ e; omega)⟩
theorem prX.ab (w : World) (p : Int) (c : Code) : AbX (w.heap.size + 2) (prX w p c) := fun s A B row hs hg hr => by
  obtain ⟨h1, h3, h4⟩ := hs
  exact ⟨h1, (hg.block _ h3.lt (fun e => by have := hr _ e.symm; omega)).trans h3, h4.grown hg h4.size (fun k e => by have := hr _ e; omega)⟩
/-- All primes up to the limit have been tried. -/
theorem prm_done {p : Int} {ys : List PrmQ} (h1 : 2 ≤ p) (h2 : p ≤ 10000) (hS : prmV ys = prmTo 10001) (h : ∀ x ∈ ys, (x.1 : Int) * (x.1 : Int) ≤ p ∧ p % (x.1 : Int) ≠ 0) : prmB p = true := by
  cases hp : prmB p with
  | true => rfl
  | false =>
    obtain ⟨q, hq, hqp, -, he⟩ := not_prm h1 h2 hp
    have : (q : Int) ∈ prmV ys := by rw [hS]; exact prmTo_mem.mpr ⟨q, rfl, hq, hqp⟩
    obtain ⟨x, hx, e⟩ := List.mem_map.mp this
    rw [← e] at he
    exact absurd he (h x hx).2
/-- The loop has been left: at a prime whose square is beyond p. -/
theorem prm_broke {p : Int} {ini : List PrmQ} {x : PrmQ} (h1 : 2 ≤ p) (h2 : p ≤ 10000) (hS : prmV ini = prmTo x.1) (h : ∀ y ∈ ini, p % (y.1 : Int) ≠ 0) (hx : p < (x.1 : Int) * (x.1 : Int)) : prmB p = true := by
  cases hp : prmB p with
  | true => rfl
  | false =>
    obtain ⟨q, hq, hqp, hqq, he⟩ := not_prm h1 h2 hp
    rcases Nat.lt_or_ge q x.1 with h3 | h3
    · have : (q : Int) ∈ prmV ini := by rw [hS]; exact prmTo_mem.mpr ⟨q, rfl, h3, hqp⟩
      obtain ⟨y, hy, e⟩ := List.mem_map.mp this
      rw [← e] at he
      exact absurd he (h y hy)
    · have h4 : x.1 * x.1 ≤ q * q := Nat.mul_le_mul h3 h3
      have h5 : ((x.1 * x.1 : Nat) : Int) ≤ ((q * q : Nat) : Int) := Int.ofNat_le.mpr h4
      rw [Int.natCast_mul, Int.natCast_mul] at h5
      omega
theorem prm_hit {p : Int} {x : PrmQ} (hx : (x.1 : Int) * (x.1 : Int) ≤ p) (he : p % (x.1 : Int) = 0) : prmB p = false :=
  prmB_div (d := x.1) (by have := (prmB_says x.2.2).1.1; omega) hx (Int.dvd_of_emod_eq_zero he)
theorem put_blk {W : World} {b D : Nat} {t : TypeId} {v : Value} (h : Blk1 W b t v) (hne : b ≠ D) (o : Obj) : Blk1 (W.putObj D o) b t v := (World.putObj_heap_other hne).trans h
set_option maxHeartbeats 2000000 in
theorem iPrime_in (p : Int) (w : World) (h1 : 2 ≤ p) (h2 : p ≤ 10000) : Calls Try.prog 28 #[.int .i64 p] w fun e w' => e = .returned (.bool (prmB p)) ∧ Below w.heap.size w w' := by
  have HT := Lib.hid (fun ys (hS : prmV ys = prmTo 10001) (h : ∀ x ∈ ys, (x.1 : Int) * (x.1 : Int) ≤ p ∧ p % (x.1 : Int) ≠ 0) => prm_done h1 h2 hS h)
  have HB := Lib.hid (fun (ini : List PrmQ) (x : PrmQ) (hS : prmV ini = prmTo x.1) (h : ∀ y ∈ ini, p % (y.1 : Int) ≠ 0) (hx : p < (x.1 : Int) * (x.1 : Int)) => prm_broke h1 h2 hS h hx)
  have HF := Lib.hid (fun (x : PrmQ) (hx : (x.1 : Int) * (x.1 : Int) ≤ p) (he : p % (x.1 : Int) = 0) => prm_hit hx he)
  generalize prmB p = bp at HT HB HF ⊢
  refine (callsIn_wide (n := 4)).1 ?_
  refine callsIn_of_wp_marks Try.func28 rfl trivial ?_ rfl
  simp only [Try.ntmps28, List.size_toArray, List.length_cons, List.length_nil, Nat.reduceAdd, Nat.reduceSub, Array.replicate_succ, Array.replicate_zero, List.push_toArray, List.append_toArray, List.nil_append, List.cons_append]
  gi_wp2_with (refine ⟨trivial, ?_⟩; gi_at_call 66; refine (callsIn_wide.2 (iPrimes _)).mono ?_; rintro e w' ⟨rfl, rfl⟩)
  have k0 : Blk1 ((w.alloc (.cells #[.int .i64 p] 3)).alloc (.cells #[.bool false] 4)) w.heap.size 3 (.int .i64 p) := (Blk1.at_ _ _ rfl).old _
  have k1 : Blk1 ((w.alloc (.cells #[.int .i64 p] 3)).alloc (.cells #[.bool false] 4)) (w.heap.size + 1) 4 (.bool false) := Blk1.at_ _ _ (by simp)
  have B0 : Below w.heap.size w ((w.alloc (.cells #[.int .i64 p] 3)).alloc (.cells #[.bool false] 4)) := ((Below.refl _ w).alloc (Nat.le_refl _) _).alloc (by simp) _
  have SZ : ((w.alloc (.cells #[.int .i64 p] 3)).alloc (.cells #[.bool false] 4)).heap.size = w.heap.size + 2 := by simp
  generalize (w.alloc (.cells #[.int .i64 p] 3)).alloc (.cells #[.bool false] 4) = W0 at k0 k1 B0 SZ ⊢
  refine wpIn_rangeX (F := Fence.wide) rfl (by omega) (gf := 95) rfl trivial (enters_of Try.func95 (by kernel_rfl) rfl) (seqPrimes 3 (by omega)) (fun _ => rfl) (prI w p) (prX w p) (by rw [SZ]; exact prI.ab w p) (fun c => by rw [SZ]; exact prX.ab w p c) ⟨by simp, k0, k1, B0⟩
    (fun x => { tmps := #[.int .i64 p, .pointer (some ⟨w.heap.size, 0, none⟩), .pointer (some ⟨w.heap.size + 1, 0, none⟩), .int .i64 (x.1 : Int), .int .i64 p, .bool (decide (p < 2)), .bool (decide (p < 2)), .int .i64 p, .bool (decide (10000 < p)), .bool (decide (p < 2) || decide (10000 < p)), .func (.func 95) #[] #[], .int .i64 (x.1 : Int), undef, undef, undef, undef, undef, undef, undef, undef, undef], defers := [] }) ?assign ?body ?done ?stop
  case assign =>
    intro l x W K hK
    gi_wp2
    exact hK
  case body =>
    rintro l pre x W ⟨hp, hb1, hb2, hB⟩ _
    have HP := Lib.hid hp
    have B2 := Lib.hid hb2
    have BB := Lib.hid hB
    have hc := hb1.cell0
    have hc2 := hb2.cell0
    have hf2 := hb2.free 0
    have x1 := (prmB_says x.2.2).1.1
    have x2 := x.2.1
    obtain ⟨d, hd⟩ : ∃ d : Nat, x.1 = d := ⟨_, rfl⟩
    have D := Lib.hid hd
    rw [hd] at x1 x2
    clear hp hB
    have q0 : (d : Int) * (d : Int) = ((d * d : Nat) : Int) := (Int.natCast_mul _ _).symm
    have q1 : d * d ≤ 10001 * 10001 := Nat.mul_le_mul (by omega) (by omega)
    have w1 : IntKind.i64.wrap ((d : Int) * (d : Int)) = (d : Int) * (d : Int) := IntWalk.i64_in _ (by rw [q0]; omega)
    obtain ⟨q, hq⟩ : ∃ q : Int, (d : Int) * (d : Int) = q := ⟨_, rfl⟩
    have HQ := Lib.hid hq
    rw [hq] at w1
    have w1 : IntKind.i64.wrap ((d : Int) * (d : Int)) = q := by rw [hq]; exact w1
    have n0 : ((d : Int) == 0) = false := by simp; omega
    rw [hd]
    clear q0 q1 hq hd
    by_cases h3 : p < q
    · have X : Hid (p < (x.1 : Int) * (x.1 : Int)) := by show _ < _; rw [D.out, HQ.out]; exact h3
      gi_wp2
      exact ⟨KpX.refl _ _, ⟨pre, x, rfl, fun y hy => (HP.out y hy).2, .inl ⟨rfl, X.out⟩⟩, B2.out, BB.out⟩
    · have X : Hid ((x.1 : Int) * (x.1 : Int) ≤ p) := by show _ ≤ _; rw [D.out, HQ.out]; omega
      by_cases h4 : p % (d : Int) = 0
      · have n1 : (p % (d : Int) == 0) = true := by simp [h4]
        have Y : Hid (p % (x.1 : Int) = 0) := by show _ = _; rw [D.out]; exact h4
        clear h4
        gi_wp2
        exact ⟨KpX.set W (by show w.heap.size + 1 < w.heap.size + 2; omega) _, ⟨pre, x, rfl, fun y hy => (HP.out y hy).2, .inr ⟨rfl, X.out, Y.out⟩⟩, B2.out.set0 _, BB.out.setCell (by simp) _⟩
      · have n1 : (p % (d : Int) == 0) = false := by simpa using h4
        have Y : Hid (p % (x.1 : Int) ≠ 0) := by show _ ≠ _; rw [D.out]; exact h4
        clear h4
        gi_wp2
        exact ⟨KpX.refl _ _, fun y hy => (List.mem_append.1 hy).elim (HP.out y) (fun e => by simp at e; subst e; exact ⟨X.out, Y.out⟩), hb1, B2.out, BB.out⟩
  case done =>
    rintro ys W hS ⟨hp, hb1, hb2, hB⟩ hK
    have HR : Hid (bp = true) := HT.out ys hS hp
    have b3 := hb2.set0 (.bool true)
    have hK' : (W.setCell ⟨w.heap.size + 1, 0, none⟩ (.bool true)).heap[W0.heap.size]? = some (.deferred (some [])) := (Below.heap_setCell W ⟨w.heap.size + 1, 0, none⟩ (.bool true) _ (by show W0.heap.size ≠ w.heap.size + 1; omega)).trans hK
    have hc := hb2.cell0
    have hf := hb2.free 0
    clear hp HT HB HF
    gi_wp2
    refine ⟨by simp, .inl ⟨_, _, rfl, run_takeDeferred hK', ?_⟩⟩
    have hc5 := (put_blk b3 (D := W0.heap.size) (by omega) (.deferred none)).cell0
    refine ⟨.bool true, by simp [results, Try.f28, go_sem, hc5], by rw [HR.out], ?_⟩
    exact (hB.setCell (p := ⟨w.heap.size + 1, 0, none⟩) (by simp) _).grown (grownBy_putObj' _ _ _) (by have := hB.size; simp [World.setCell]; omega) (fun k e => by cases e; omega)
  case stop =>
    rintro c pre W ⟨ini, x, e, hS⟩ ⟨⟨ini', x', e', hi, hx⟩, hb2, hB⟩ hK
    rw [e] at e'
    obtain ⟨rfl, e5⟩ := List.append_inj' e' rfl
    obtain rfl : x = x' := by simpa using e5
    have hc := hb2.cell0
    have hf := hb2.free 0
    rcases hx with ⟨rfl, hx⟩ | ⟨rfl, hx1, hx2⟩
    · have HR : Hid (bp = true) := HB.out _ x hS hi hx
      have b3 := hb2.set0 (.bool true)
      have hK' : (W.setCell ⟨w.heap.size + 1, 0, none⟩ (.bool true)).heap[W0.heap.size]? = some (.deferred (some [])) := (Below.heap_setCell W ⟨w.heap.size + 1, 0, none⟩ (.bool true) _ (by show W0.heap.size ≠ w.heap.size + 1; omega)).trans hK
      clear hi hx HT HB HF e5 e' e
      gi_wp2
      refine ⟨by simp, .inl ⟨_, _, rfl, run_takeDeferred hK', ?_⟩⟩
      have hc5 := (put_blk b3 (D := W0.heap.size) (by omega) (.deferred none)).cell0
      refine ⟨.bool true, by simp [results, Try.f28, go_sem, hc5], by rw [HR.out], ?_⟩
      exact (hB.setCell (p := ⟨w.heap.size + 1, 0, none⟩) (by simp) _).grown (grownBy_putObj' _ _ _) (by have := hB.size; simp [World.setCell]; omega) (fun k e => by cases e; omega)
    · have HR : Hid (bp = false) := HF.out x hx1 hx2
      clear hi hx1 hx2 HT HB HF e5 e' e
      gi_wp2
      refine ⟨by simp, .inl ⟨_, _, rfl, run_takeDeferred hK, ?_⟩⟩
      have hc5 := (put_blk hb2 (D := W0.heap.size) (by omega) (.deferred none)).cell0
      refine ⟨.bool false, by simp [results, Try.f28, go_sem, hc5], by rw [HR.out], ?_⟩
      exact hB.grown (grownBy_putObj' _ _ _) hB.size (fun k e => by cases e; omega)
theorem iPrime (p : Int) (w : World) : Calls Try.prog 28 #[.int .i64 p] w fun e w' => e = .returned (.bool (prmB p)) ∧ Below w.heap.size w w' := by
  by_cases h : 2 ≤ p ∧ p ≤ 10000
  · exact iPrime_in p w h.1 h.2
  · have E : Hid (prmB p = false) := prmB_out (by omega)
    have h' : p < 2 ∨ 10000 < p := by omega
    have B0 : Hid (Below w.heap.size w ((w.alloc (.cells #[.int .i64 p] 3)).alloc (.cells #[.bool false] 4))) := ((Below.refl _ w).alloc (Nat.le_refl _) _).alloc (by simp) _
    clear h
    rw [E.out]
    go_enter Try.func28, Try.ntmps28
    have hc : Hid (((w.alloc (.cells #[.int .i64 p] 3)).alloc (.cells #[.bool false] 4)).cell? ⟨w.heap.size + 1, 0, none⟩ = some (.bool false)) := (Blk1.at_ (w := w.alloc (.cells #[.int .i64 p] 3)) (b := w.heap.size + 1) 4 (.bool false) (by simp)).cell0
    rcases h' with h1 | h1
    · go_wp2_with fail
      have hc := hc.out
      exact bodyPost_ret (v := .bool false) (by simp [results, Try.results28, go_sem, hc]) rfl ⟨rfl, B0.out⟩
    · by_cases h2 : p < 2
      · omega
      · go_wp2_with fail
        have hc := hc.out
        exact bodyPost_ret (v := .bool false) (by simp [results, Try.results28, go_sem, hc]) rfl ⟨rfl, B0.out⟩
end Go.Proofs.Ytncplikadacjnaa
