/-
  Texts of this seat, joined: Draw · Fr · Draw3 · Draw4 · Draw7 · Code · AnyM · DrawP · ModR · Sq · DetO · UptoMath · MulMath · StepL · SameMath · TurnMath · RingMath · Row4 · RowRaw · MatS9
-/
import Derived.Test.YtncplikadacjnaaRows
import Derived.WalkKit
import Derived.BigQuiet
import Derived.Deep.QuietTactic
import Derived.Deep.RegionHeld3
import Derived.Deep.DeepCutAuto
import Derived.StillTailTactics
import Derived.IntWalk
import Derived.ProofKit
import Derived.OpenShut
import Derived.Test.YtncplikadacjnaaPk1
import Derived.Test.YtncplikadacjnaaPk2
import Derived.Test.YtncplikadacjnaaPk3
import Derived.Test.YtncplikadacjnaaPk4
import Derived.Test.YtncplikadacjnaaPk6
import Derived.Test.YtncplikadacjnaaPk9

section
/-
  The drawing of inputs (chapter 1 of the model): the cursor over a code's bytes, and what each drawing function returns: a number in its range, with nothing written but the cursor.
-/
namespace Go.Proofs.Ytncplikadacjnaa
open Go.RowKit

/-- The bytes that a slice shows: each in its range, each block older than block cb. -/
def Bytes (w : World) (cb : Nat) (a : Option Addr) (len : Nat) : Prop :=
  ∀ k : Nat, k < len → ∃ (b o : Nat) (z : Int), a = some ⟨b, o, none⟩ ∧ w.cell? ⟨b, o + k, none⟩ = some (.int .u8 z) ∧ 0 ≤ z ∧ z ≤ 255 ∧ b < cb
/-- Block cb is a cursor. -/
def Cur (w : World) (cb : Nat) : Prop :=
  ∃ (a : Option Addr) (len cap i : Nat) (h : Int), Blk3 w cb 100 (.slice a len cap) (.int .i64 i) (.int .i64 h) ∧ i ≤ len ∧ len ≤ maxLen ∧ Bytes w cb a len

/-- An int with the property P is returned, and of all that was there only the cursor has changed. -/
def CurInt (P : Int → Prop) (cb : Nat) (w : World) (e : Ending) (w' : World) : Prop := ∃ r : Int, P r ∧ e = .returned (.int .i64 r) ∧ Cur w' cb ∧ w.grownBy w' (some cb)

theorem Bytes.one {w w' : World} {cb : Nat} {a : Option Addr} {len : Nat} (h : Bytes w cb a len) (hg : w.grownBy w' (some cb)) : Bytes w' cb a len := fun k hk => by
  obtain ⟨b, o, z, ha, hx, h0, h1, hne⟩ := h k hk
  exact ⟨b, o, z, ha, hg.cell hx (by simp; omega), h0, h1, hne⟩
theorem and255 (x : Int) : 0 ≤ bits .and .i64 x 255 ∧ bits .and .i64 x 255 ≤ 255 := by
  have h : (BitVec.ofInt 64 x &&& BitVec.ofInt 64 255).toNat ≤ 255 := by rw [BitVec.toNat_and]; exact Nat.le_trans Nat.and_le_right (by decide)
  show 0 ≤ IntKind.i64.wrap ((BitVec.ofInt 64 x &&& BitVec.ofInt 64 255).toNat : Int) ∧ IntKind.i64.wrap ((BitVec.ofInt 64 x &&& BitVec.ofInt 64 255).toNat : Int) ≤ 255
  rw [IntKind.wrap_i64]
  omega
theorem curInt_end {P : Int → Prop} {w W : World} {cb len cap i : Nat} {a : Option Addr} {h r : Int} (hr : P r) (hb : Blk3 W cb 100 (.slice a len cap) (.int .i64 i) (.int .i64 h))
    (hi : i ≤ len) (hl : len ≤ maxLen) (hby : Bytes w cb a len) (hg : w.grownBy W (some cb)) : CurInt P cb w (.returned (.int .i64 r)) W :=
  ⟨r, hr, rfl, ⟨a, len, cap, i, h, hb, hi, hl, hby.one hg⟩, hg⟩

set_option maxHeartbeats 400000 in
theorem l1Byte (w : World) (cb : Nat) (hc : Cur w cb) :
    Calls Try.prog 107 #[.pointer (some ⟨cb, 0, none⟩)] w (CurInt (fun r => 0 ≤ r ∧ r ≤ 255) cb w) := by
  obtain ⟨a, len, cap, i, h, hb, hi, hl, hby⟩ := hc
  obtain ⟨c0, c1, c2, f0, f1, f2⟩ := hb.all
  have HB := Lib.hid hb
  have HL := Lib.hid hl
  have HY := Lib.hid hby
  unfold maxLen at hl
  by_cases hlt : i < len
  · obtain ⟨xb, xo, z, rfl, hx, hz0, hz1, hne⟩ := hby i hlt
    have hne' : cb ≠ xb := by omega
    clear hb hby
    go_enter Try.func107, Try.ntmps107
    go_wp2_with (fail)
    generalize wrap64 (wrap64 (h * 6364136223846793005) + 1442695040888963407) = h'
    go_quiet (fail)
    go_wp2_with (fail)
    go_quiet (fail)
    go_wp2_with (fail)
    go_quiet (fail)
    go_wp2_with (fail)
    go_ret
    refine curInt_end (cap := cap) (i := i + 1) (h := h') (and255 _) ?_ (by omega) HL.out HY.out ?_
    · exact (((HB.out.set2 _).drewN _).set1 _)
    · repeat (first | exact World.grownBy.refl _ _ | refine grown_set_one ?_ (by exact rfl) _ | refine grown_drewN_one ?_ _)
  · clear hb hby
    have hlt' : decide (i < len) = false := by simpa using hlt
    go_enter Try.func107, Try.ntmps107
    go_wp2_with (fail)
    generalize wrap64 (wrap64 (h * 6364136223846793005) + 1442695040888963407) = h'
    go_quiet (fail)
    go_wp2_with (fail)
    go_quiet (fail)
    go_wp2_with (fail)
    go_ret
    refine curInt_end (cap := cap) (i := i) (h := h') (and255 _) ?_ (by omega) HL.out HY.out ?_
    · first | exact HB.out.set2 _ | exact (HB.out.set2 _).drewN _
    · repeat (first | exact World.grownBy.refl _ _ | refine grown_set_one ?_ (by exact rfl) _ | refine grown_drewN_one ?_ _)

/-- A bool is returned, and of all that was there only the cursor has changed. -/
def CurBool (cb : Nat) (w : World) (e : Ending) (w' : World) : Prop := ∃ r : Bool, e = .returned (.bool r) ∧ Cur w' cb ∧ w.grownBy w' (some cb)
theorem CurInt.mono {P Q : Int → Prop} {cb : Nat} {w w' : World} {e : Ending} (h : CurInt P cb w e w') (k : ∀ r, P r → Q r) : CurInt Q cb w e w' := by
  obtain ⟨r, hr, he, hc, hg⟩ := h
  exact ⟨r, k r hr, he, hc, hg⟩
theorem mod_range (x n : Int) (hn : 0 < n) : 0 ≤ x % n ∧ x % n < n := ⟨Int.emod_nonneg x (by omega), Int.emod_lt_of_pos x hn⟩

set_option maxHeartbeats 400000 in
theorem l1Below_small (w : World) (cb : Nat) (n : Int) (hc : Cur w cb) (h1 : 0 < n) (h2 : n ≤ 256) :
    Calls Try.prog 85 #[.pointer (some ⟨cb, 0, none⟩), .int .i64 n] w (CurInt (fun r => 0 ≤ r ∧ r < n) cb w) := by
  have HC := Lib.hid hc
  clear hc
  have hn : (n == 0) = false := by simp; omega
  go_enter Try.func85, Try.ntmps85
  go_wp2_with (fail)
  refine (l1Byte w cb HC.out).mono ?_
  rintro e w1 ⟨r, ⟨r0, r1⟩, rfl, hc1, hg1⟩
  have C1 := Lib.hid hc1
  have G1 := Lib.hid hg1
  clear hc1 hg1
  go_wp2_with (fail)
  go_ret
  exact ⟨r % n, mod_range r n h1, rfl, C1.out, G1.out⟩

set_option maxHeartbeats 400000 in
theorem l1Below_large (w : World) (cb : Nat) (n : Int) (hc : Cur w cb) (h2 : 256 < n) :
    Calls Try.prog 85 #[.pointer (some ⟨cb, 0, none⟩), .int .i64 n] w (CurInt (fun r => 0 ≤ r ∧ r < n) cb w) := by
  have HC := Lib.hid hc
  clear hc
  have hn : (n == 0) = false := by simp; omega
  go_enter Try.func85, Try.ntmps85
  go_wp2_with (fail)
  refine (l1Byte w cb HC.out).mono ?_
  rintro e w1 ⟨r, ⟨r0, r1⟩, rfl, hc1, hg1⟩
  have C1 := Lib.hid hc1
  have G1 := Lib.hid hg1
  clear hc1 hg1
  go_wp2_with (fail)
  refine (l1Byte w1 cb C1.out).mono ?_
  rintro e w2 ⟨s, ⟨s0, s1⟩, rfl, hc2, hg2⟩
  have C2 := Lib.hid hc2
  have G2 := Lib.hid (G1.out.trans hg2)
  clear hc2 hg2
  go_wp2_with (fail)
  refine (l1Byte w2 cb C2.out).mono ?_
  rintro e w3 ⟨t, ⟨t0, t1⟩, rfl, hc3, hg3⟩
  have C3 := Lib.hid hc3
  have G3 := Lib.hid (G2.out.trans hg3)
  clear hc3 hg3
  go_wp2_with (fail)
  refine (l1Byte w3 cb C3.out).mono ?_
  rintro e w4 ⟨u, ⟨u0, u1⟩, rfl, hc4, hg4⟩
  have C4 := Lib.hid hc4
  have G4 := Lib.hid (G3.out.trans hg4)
  clear hc4 hg4
  go_wp2_with (fail)
  go_ret
  exact ⟨_, mod_range (r * 16777216 + s * 65536 + t * 256 + u) n (by omega), rfl, C4.out, G4.out⟩

theorem l1Below (w : World) (cb : Nat) (n : Int) (hc : Cur w cb) (h1 : 0 < n) :
    Calls Try.prog 85 #[.pointer (some ⟨cb, 0, none⟩), .int .i64 n] w (CurInt (fun r => 0 ≤ r ∧ r < n) cb w) := by
  rcases Int.lt_or_le 256 n with h | h
  · exact l1Below_large w cb n hc h
  · exact l1Below_small w cb n hc h1 h

set_option maxHeartbeats 400000 in
theorem l1Once (w : World) (cb : Nat) (n : Int) (hc : Cur w cb) (h1 : 0 < n) :
    Calls Try.prog 88 #[.pointer (some ⟨cb, 0, none⟩), .int .i64 n] w (CurBool cb w) := by
  have HC := Lib.hid hc
  clear hc
  go_enter Try.func88, Try.ntmps88
  go_wp2_with (fail)
  refine (l1Below w cb n HC.out h1).mono ?_
  rintro e w1 ⟨r, ⟨r0, r1⟩, rfl, hc1, hg1⟩
  have C1 := Lib.hid hc1
  have G1 := Lib.hid hg1
  clear hc1 hg1
  go_wp2_with (fail)
  go_ret
  exact ⟨r == 0, rfl, C1.out, G1.out⟩

/-- A list of ints lies in block lb, each with the property P. -/
def IntList (P : Int → Prop) (w : World) (lb n : Nat) : Prop := ∀ k : Nat, k < n → ∃ z : Int, w.cell? ⟨lb, k, none⟩ = some (.int .i64 z) ∧ P z
theorem IntList.one {P : Int → Prop} {w w' : World} {lb n cb : Nat} (h : IntList P w lb n) (hg : w.grownBy w' (some cb)) (hne : lb ≠ cb) : IntList P w' lb n := fun k hk => by
  obtain ⟨z, hz, hp⟩ := h k hk
  exact ⟨z, hg.cell hz (by simpa using hne), hp⟩

set_option maxHeartbeats 400000 in
theorem l1PickInt (P : Int → Prop) (w : World) (cb lb n : Nat) (hc : Cur w cb) (hl : IntList P w lb n) (h1 : 0 < n) (h2 : n ≤ 1000000) (hne : lb ≠ cb) :
    Calls Try.prog 87 #[.pointer (some ⟨cb, 0, none⟩), .slice (some ⟨lb, 0, none⟩) n n] w (CurInt P cb w) := by
  have HC := Lib.hid hc
  have HL := Lib.hid hl
  clear hc hl
  go_enter Try.func87, Try.ntmps87
  go_wp2_with (fail)
  refine (l1Below w cb n HC.out (by omega)).mono ?_
  rintro e w1 ⟨r, ⟨r0, r1⟩, rfl, hc1, hg1⟩
  obtain ⟨k, rfl⟩ := Int.eq_ofNat_of_zero_le r0
  obtain ⟨z, hz, hp⟩ := (HL.out.one hg1 hne) k (by omega)
  have C1 := Lib.hid hc1
  have G1 := Lib.hid hg1
  have HP := Lib.hid hp
  have hk : k < n := by omega
  clear hc1 hg1 hp
  go_wp2_with (fail)
  go_ret
  exact ⟨z, HP.out, rfl, C1.out, G1.out⟩

theorem IntList.new {P : Int → Prop} (zs : List Int) (hz : ∀ z, z ∈ zs → P z) (w : World) (t : TypeId) : IntList P (w.alloc (.cells (zs.map (Value.int .i64)).toArray t)) w.heap.size zs.length := fun k hk => by
  refine ⟨zs[k], ?_, hz _ (List.getElem_mem hk)⟩
  have e : (w.alloc (.cells (zs.map (Value.int .i64)).toArray t)).heap[w.heap.size]? = some (.cells (zs.map (Value.int .i64)).toArray t) := heap_alloc_new w _
  unfold World.cell?
  rw [e]
  simp [hk]
theorem Cur.lt {w : World} {cb : Nat} (h : Cur w cb) : cb < w.heap.size := by
  obtain ⟨a, len, cap, i, h, hb, _⟩ := h
  exact hb.lt
theorem Cur.grown {w w' : World} {cb : Nat} {row : Option Nat} (hc : Cur w cb) (hg : w.grownBy w' row) (hr : ∀ j, row = some j → w.heap.size ≤ j) : Cur w' cb := by
  obtain ⟨a, len, cap, i, h, hb, hi, hl, hby⟩ := hc
  refine ⟨a, len, cap, i, h, (hg.block cb hb.lt (fun e => by have := hr cb e.symm; have := hb.lt; omega)).trans hb, hi, hl, fun k hk => ?_⟩
  obtain ⟨b, o, z, ha, hx, h0, h1, hne⟩ := hby k hk
  exact ⟨b, o, z, ha, hg.cell hx (fun e => by have := hr b e.symm; have := World.block_lt_of_cell? w _ hx; simp at this; omega), h0, h1, hne⟩
theorem Cur.setFar {w : World} {cb : Nat} (hc : Cur w cb) {x : Addr} (hx : cb < x.block) (u : Value) : Cur (w.setCell x u) cb := by
  obtain ⟨a, len, cap, i, h, hb, hi, hl, hby⟩ := hc
  refine ⟨a, len, cap, i, h, hb.far (by omega) u, hi, hl, fun k hk => ?_⟩
  obtain ⟨b, o, z, ha, hcell, h0, h1, hne⟩ := hby k hk
  exact ⟨b, o, z, ha, (((Below.refl x.block w).setCell (Nat.le_refl _) u).cell (p := ⟨b, o + k, none⟩) (by show b < x.block; omega)).trans hcell, h0, h1, hne⟩
theorem Cur.alloc {w : World} {cb : Nat} (hc : Cur w cb) (o : Obj) : Cur (w.alloc o) cb := hc.grown (World.grownBy_alloc w o none) (by simp)

set_option maxHeartbeats 400000 in
theorem l1Odd (w : World) (cb : Nat) (hc : Cur w cb) :
    Calls Try.prog 108 #[.pointer (some ⟨cb, 0, none⟩)] w (CurInt (fun r => -9223372036854775808 ≤ r ∧ r ≤ 9223372036854775807) cb w) := by
  have HC := Lib.hid hc
  have hlt := hc.lt
  clear hc
  go_enter Try.func108, Try.ntmps108
  go_wp2_with (fail)
  refine (l1PickInt (fun r => -9223372036854775808 ≤ r ∧ r ≤ 9223372036854775807) _ cb w.heap.size 11 (HC.out.alloc _) ?_ (by omega) (by omega) (by omega)).mono ?_
  · exact IntList.new [0, 1, -1, 2, 400000000, -400000000, 400000001, -400000001, 399999999, 9223372036854775807, -9223372036854775808] (by decide) w 3
  rintro e w1 ⟨r, hr, rfl, hc1, hg1⟩
  have C1 := Lib.hid hc1
  have G1 := Lib.hid hg1
  have R := Lib.hid hr
  clear hc1 hg1 hr
  go_wp2_with (fail)
  go_ret
  exact ⟨r, R.out, rfl, C1.out, (World.grownBy_alloc w _ _).trans G1.out⟩

/-- The bytes of a code that came in. -/
def CodeIn (w : World) (a : Option Addr) (len : Nat) : Prop :=
  len ≤ maxLen ∧ ∀ k : Nat, k < len → ∃ (b o : Nat) (z : Int), a = some ⟨b, o, none⟩ ∧ w.cell? ⟨b, o + k, none⟩ = some (.int .u8 z) ∧ 0 ≤ z ∧ z ≤ 255
theorem CodeIn.below {w w' : World} {a : Option Addr} {len : Nat} (h : CodeIn w a len) (hb : Below w.heap.size w w') : CodeIn w' a len :=
  ⟨h.1, fun k hk => by
    obtain ⟨b, o, z, ha, hx, h0, h1⟩ := h.2 k hk
    exact ⟨b, o, z, ha, (hb.cell (World.block_lt_of_cell? w _ hx)).trans hx, h0, h1⟩⟩
/-- A new cursor is returned; of what was there nothing has changed. -/
def CurNew (w : World) (e : Ending) (w' : World) : Prop := ∃ cb : Nat, e = .returned (.pointer (some ⟨cb, 0, none⟩)) ∧ w.heap.size ≤ cb ∧ Cur w' cb ∧ Below w.heap.size w w'

set_option maxHeartbeats 400000 in
theorem l1New (w : World) (a : Option Addr) (len cap : Nat) (hc : CodeIn w a len) :
    Calls Try.prog 51 #[.slice a len cap] w (CurNew w) := by
  have hl := hc.1
  have HC := Lib.hid hc
  clear hc
  unfold maxLen at hl
  go_enter Try.func51, Try.ntmps51
  go_wp2_with (fail)
  generalize wrap64 (10101 + (len : Int)) = q0
  go_loop [3, 4] (fun t s => ∃ (q : Int) (k : Nat), t = .int .i64 q ∧ s = .int .i64 k ∧ k ≤ len ∧ k ≤ 4000) (fun _ s => (len - intOf s).toNat)
  case atStart => exact ⟨q0, 0, rfl, rfl, by omega, by omega⟩
  case round =>
    obtain ⟨q, k, rfl, rfl, hk, hk2⟩ := hrel
    by_cases h1 : k < len
    · by_cases h2 : k < 4000
      · obtain ⟨b, o, z, ha, hx, hz0, hz1⟩ := HC.out.2 k h1
        subst ha
        have h3 : (k : Int) < 4000 := by omega
        have H2 := Lib.hid h2
        have H4 := Lib.hid hk2
        clear h2 hk2
        go_wp2_with (fail)
        go_round
        case rel => exact ⟨_, k + 1, rfl, by go_num, by omega, by have := H2.out; omega⟩
        case measure => simp [intOf]; omega
      · have h3 : decide ((k : Int) < 4000) = false := by simp; omega
        clear h2 hk2
        go_wp2_with (fail)
        go_ret
        refine ⟨w.heap.size, rfl, Nat.le_refl _, ⟨a, len, cap, 0, q, Blk3.new _ _ _ _ _, by omega, HC.out.1, fun j hj => ?_⟩, (Below.refl _ _).alloc (Nat.le_refl _) _⟩
        obtain ⟨b, o, z, ha, hx, hz0, hz1⟩ := HC.out.2 j hj
        have hlt := World.block_lt_of_cell? w _ hx
        exact ⟨b, o, z, ha, (World.grownBy_alloc w _ none).cell hx (by simp), hz0, hz1, by simp at hlt; omega⟩
    · have h1' : decide (k < len) = false := by simpa using h1
      go_wp2_with (fail)
      go_ret
      refine ⟨w.heap.size, rfl, Nat.le_refl _, ⟨a, len, cap, 0, q, Blk3.new _ _ _ _ _, by omega, HC.out.1, fun j hj => ?_⟩, (Below.refl _ _).alloc (Nat.le_refl _) _⟩
      obtain ⟨b, o, z, ha, hx, hz0, hz1⟩ := HC.out.2 j hj
      have hlt := World.block_lt_of_cell? w _ hx
      exact ⟨b, o, z, ha, (World.grownBy_alloc w _ none).cell hx (by simp), hz0, hz1, by simp at hlt; omega⟩

/-- Two ints are returned; of what was there nothing has changed. -/
def TwoInts (P : Int → Int → Prop) (w : World) (e : Ending) (w' : World) : Prop := ∃ r s : Int, P r s ∧ e = .returned (.tuple #[.int .i64 r, .int .i64 s]) ∧ Below w.heap.size w w'

end Go.Proofs.Ytncplikadacjnaa
end

section
/-
  Frames: what they keep of a cursor.
-/
namespace Go.Proofs.Ytncplikadacjnaa
open Go.RowKit

/-- A new matrix of zeros, of which all is known. -/
theorem sNewC (R C : Nat) (w : World) (hR : R ≤ 4096) (hC : C ≤ 4096) :
    Calls Try.prog 56 #[.int .i64 R, .int .i64 C] w (fun e w' => ∃ g, e = .returned (.agg #[.int .i64 R, .int .i64 C, .slice (some ⟨g, 0, none⟩) (R * C) (R * C)]) ∧ w.heap.size ≤ g ∧ IntsC w' g (R * C) (List.replicate (R * C) 0) ∧ Below w.heap.size w w') := by
  have hm : R * C ≤ 4096 * 4096 := Nat.mul_le_mul hR hC
  have hmk := makeProd R C (by omega)
  have hp1 : (0 : Int) ≤ (R : Int) * (C : Int) := by rw [← Int.natCast_mul]; omega
  have hp2 : (R : Int) * (C : Int) ≤ 16777216 := by rw [← Int.natCast_mul]; omega
  go_enter Try.func56, Try.ntmps56
  go_wp2_with fail
  refine bodyPost_ret (v := .agg #[.int .i64 R, .int .i64 C, .slice (some ⟨w.heap.size + 1, 0, none⟩) (R * C) (R * C)]) (by simp [results, Try.results56, go_sem]) rfl ⟨w.heap.size + 1, rfl, by omega, ?_, ?_⟩
  · exact IntsC.made _ (by omega) (by simp)
  · exact ((Below.refl _ _).alloc (Nat.le_refl _) _).alloc (by simp) _
theorem Cur.frs {w w' : World} {cb : Nat} {p : Nat → Prop} (h : Cur w cb) (hf : FrS p w w') (hb : ∀ k, k ≤ cb → ¬ p k) : Cur w' cb := by
  obtain ⟨a, len, cap, i, x, hk, hi, hl, hby⟩ := h
  refine ⟨a, len, cap, i, x, hk.frs hf (hb _ (Nat.le_refl _)), hi, hl, fun k hkl => ?_⟩
  obtain ⟨b, o, z, ha, hx, h0, h1, hne⟩ := hby k hkl
  have hlt := World.block_lt_of_cell? w _ hx
  exact ⟨b, o, z, ha, (World.cell?_of_block (w := w) (hf.block b (by simpa using hlt) (hb b (by omega)))).trans hx, h0, h1, hne⟩
end Go.Proofs.Ytncplikadacjnaa
end

section
/-
  The drawing of matrices: of what was there only the cursor has changed.
-/
namespace Go.Proofs.Ytncplikadacjnaa
set_option maxRecDepth 100000
open Go.RowKit

/-! ### l3Draw -/
set_option maxHeartbeats 1000000 in
theorem l3Draw (w : World) (cb R C most : Nat) (hc : Cur w cb) (hR : R ≤ 24) (hC : C ≤ 24) (hm : most ≤ 100) :
    Calls Try.prog 86 #[.pointer (some ⟨cb, 0, none⟩), .int .i64 R, .int .i64 C, .int .i64 most] w (fun e w' => ∃ (g : Nat) (zs : List Int), e = .returned (.agg #[.int .i64 R, .int .i64 C, .slice (some ⟨g, 0, none⟩) (R * C) (R * C)]) ∧ w.heap.size ≤ g ∧ zs.length = R * C ∧ IntsC w' g (R * C) zs ∧ Cur w' cb ∧ w.grownBy w' (some cb)) := by
  have hlt := hc.lt
  have hle : R * C ≤ 24 * 24 := Nat.mul_le_mul hR hC
  have B0 : ∀ o, Below w.heap.size w (w.alloc o) := fun o => (Below.refl _ _).alloc (Nat.le_refl _) o
  have BH := Lib.hid B0
  have C0 := Lib.hid hc
  clear B0 hc
  go_enter Try.func86, Try.ntmps86
  go_wp2_with fail
  refine (sNewC R C _ (by omega) (by omega)).mono ?_
  rintro e w1 ⟨g, rfl, hg, hi, hb⟩
  have hg : w.heap.size < g := by simp at hg; exact hg
  have K2 : Hid (Blk3 w1 w.heap.size 26 (.int .i64 0) (.int .i64 0) (.slice none 0 0)) := (Blk3.at_ _ _ _ _ rfl).keep hb (by simp)
  have F : Hid (FrS (fun k => k = cb ∨ w.heap.size ≤ k) w w1) := (FrS.of_below (BH.out (.cells #[.int .i64 0, .int .i64 0, .slice none 0 0] 26))).trans (FrS.of_below hb)
  have C1 := Lib.hid ((C0.out.alloc (.cells #[.int .i64 0, .int .i64 0, .slice none 0 0] 26)).grown (row := none) (grown_of_below hb _) (by simp))
  obtain ⟨N, hN⟩ : ∃ N, R * C = N := ⟨_, rfl⟩
  have HN := Lib.hid hN
  rw [hN] at hi hle ⊢
  have I1 := Lib.hid hi
  have gl := hi.lt
  have kl := K2.out.lt
  clear hN hi hb C0
  have K2 := Lib.hid (K2.out.old (.cells #[.int .i64 R, .int .i64 C, .slice (some ⟨g, 0, none⟩) N N] 26))
  have K6 : Hid (Blk3 (w1.alloc (.cells #[.int .i64 R, .int .i64 C, .slice (some ⟨g, 0, none⟩) N N] 26)) w1.heap.size 26 (.int .i64 R) (.int .i64 C) (.slice (some ⟨g, 0, none⟩) N N)) := Blk3.at_ _ _ _ _ rfl
  have I1 := Lib.hid (I1.out.old (.cells #[.int .i64 R, .int .i64 C, .slice (some ⟨g, 0, none⟩) N N] 26))
  have C1 := Lib.hid (C1.out.alloc (.cells #[.int .i64 R, .int .i64 C, .slice (some ⟨g, 0, none⟩) N N] 26))
  have F := Lib.hid (F.out.alloc (.cells #[.int .i64 R, .int .i64 C, .slice (some ⟨g, 0, none⟩) N N] 26))
  go_wp2_with fail
  go_loopw [10] (fun i wr => ∃ (k : Nat) (zs : List Int), i = .int .i64 k ∧ k ≤ N ∧ zs.length = N ∧ IntsC wr g N zs ∧ Cur wr cb ∧ FrS (fun k => k = cb ∨ k = g) (w1.alloc (.cells #[.int .i64 R, .int .i64 C, .slice (some ⟨g, 0, none⟩) N N] 26)) wr) (fun i _ => N - (intOf i).toNat)
  case atStart => exact ⟨0, _, rfl, by omega, by simp, I1.out, C1.out, FrS.refl _ _⟩
  case round =>
    obtain ⟨k, zs, rfl, hk, hz, hi, hcu, hfr⟩ := hrel
    have I := Lib.hid hi
    have CU := Lib.hid hcu
    have FR := Lib.hid hfr
    have HZ := Lib.hid hz
    clear hi hcu hfr hz
    have R6 := Lib.hid (K6.out.frs FR.out (by omega))
    have lc := CU.out.lt
    obtain ⟨r0, r1, r2, -, -, -⟩ := R6.out.all
    by_cases hlt2 : k < N
    · have v1 : IntKind.i64.wrap (2 * (most : Int)) = 2 * (most : Int) := IntWalk.i64_in _ (by omega)
      have v2 : IntKind.i64.wrap (2 * (most : Int) + 1) = 2 * (most : Int) + 1 := IntWalk.i64_in _ (by omega)
      go_upto_region 5 with fail
      refine wp_region_held_drew (S := fun w' => FrS (fun k => k = cb ∨ k = g) wr w') (by kernel_rfl) (FrS.refl _ _).drew (fun hH => ?_)
      refine wpAnyH_take (i := 0) (v := ?_) (by simp only [List.getElem?_toArray, List.getElem?_cons_zero]; rfl) (by kernel_rfl) (by kernel_rfl) (by kernel_rfl) (by exact fun _ _ _ h => h) (Or.inl ⟨by rfl, ?_⟩) hH ?_
      rotate_left
      · (intro wS hS; clear hS; go_simp; try rfl)
      try simp only [Act.put, List.setIfInBounds_toArray, List.set_cons_zero, List.set_cons_succ]
      refine wpAnyH_take (i := 1) (v := ?_) (by simp only [List.getElem?_toArray, List.getElem?_cons_succ, List.getElem?_cons_zero]; rfl) (by kernel_rfl) (by kernel_rfl) (by kernel_rfl) (by exact fun _ _ _ h => h) (Or.inl ⟨by rfl, ?_⟩) hH ?_
      rotate_left
      · (intro wS hS; (try dsimp only at hS); obtain ⟨k1, k2, k3⟩ := sevenF R6.out hS (by omega); go_simp; try rfl)
      try simp only [Act.put, List.setIfInBounds_toArray, List.set_cons_zero, List.set_cons_succ]
      refine wpAnyH_take (i := 2) (v := ?_) (by simp only [List.getElem?_toArray, List.getElem?_cons_succ, List.getElem?_cons_zero]; rfl) (by kernel_rfl) (by kernel_rfl) (by kernel_rfl) (by exact fun _ _ _ h => h) (Or.inl ⟨by rfl, ?_⟩) hH ?_
      rotate_left
      · (intro wS hS; clear hS; go_simp; try rfl)
      try simp only [Act.put, List.setIfInBounds_toArray, List.set_cons_zero, List.set_cons_succ]
      refine wpAnyH_take (i := 3) (v := ?_) (by simp only [List.getElem?_toArray, List.getElem?_cons_succ, List.getElem?_cons_zero]; rfl) (by kernel_rfl) (by kernel_rfl) (by kernel_rfl) (by exact fun _ _ _ h => h) (Or.inl ⟨by rfl, ?_⟩) hH ?_
      rotate_left
      · (intro wS hS; clear hS; go_simp; try rfl)
      try simp only [Act.put, List.setIfInBounds_toArray, List.set_cons_zero, List.set_cons_succ]
      refine wpAnyH_take (i := 4) (v := ?_) (by simp only [List.getElem?_toArray, List.getElem?_cons_succ, List.getElem?_cons_zero]; rfl) (by kernel_rfl) (by kernel_rfl) (by kernel_rfl) (by exact fun _ _ _ h => h) (Or.inl ⟨by rfl, ?_⟩) hH ?_
      rotate_left
      · (intro wS hS; clear hS; go_simp; try rfl)
      try simp only [Act.put, List.setIfInBounds_toArray, List.set_cons_zero, List.set_cons_succ]
      refine wpAnyH_take (i := 5) (v := ?_) (by simp only [List.getElem?_toArray, List.getElem?_cons_succ, List.getElem?_cons_zero]; rfl) (by kernel_rfl) (by kernel_rfl) (by kernel_rfl) (by exact fun _ _ _ h => h) (Or.inl ⟨by rfl, ?_⟩) hH ?_
      rotate_left
      · (intro wS hS; clear hS; go_simp; try rfl)
      try simp only [Act.put, List.setIfInBounds_toArray, List.set_cons_zero, List.set_cons_succ]
      refine wpAnyH_take (i := 6) (v := ?_) (by simp only [List.getElem?_toArray, List.getElem?_cons_succ, List.getElem?_cons_zero]; rfl) (by kernel_rfl) (by kernel_rfl) (by kernel_rfl) (by exact fun _ _ _ h => h) (Or.inl ⟨by rfl, ?_⟩) hH ?_
      rotate_left
      · (intro wS hS; clear hS; go_simp; try rfl)
      try simp only [Act.put, List.setIfInBounds_toArray, List.set_cons_zero, List.set_cons_succ]
      refine wpAnyH_take (i := 8) (v := ?_) (by simp only [List.getElem?_toArray, List.getElem?_cons_succ, List.getElem?_cons_zero]; rfl) (by kernel_rfl) (by kernel_rfl) (by kernel_rfl) (by exact fun _ _ _ h => h) (Or.inl ⟨by rfl, ?_⟩) hH ?_
      rotate_left
      · (intro wS hS; clear hS; go_simp; try rfl)
      try simp only [Act.put, List.setIfInBounds_toArray, List.set_cons_zero, List.set_cons_succ]
      refine wpAnyH_ready (rs := [7]) (by kernel_rfl) (by simp) ?_
      refine AllReadyH.cons (by simp only [List.getElem?_toArray, List.getElem?_cons_succ, List.getElem?_cons_zero]; rfl) (fun KK hKK => ?_) AllReadyH.nil
      go_simp
      refine (l1Below _ cb _ (by exact CU.out) (by omega)).mono ?_
      rintro e w2 ⟨z, ⟨z0, z1⟩, rfl, hc2, hg2⟩
      have v3 : IntKind.i64.wrap (z - (most : Int)) = z - (most : Int) := IntWalk.i64_in _ (by omega)
      have I2 := Lib.hid (I.out.move (hg2.block g I.out.lt (by simp; omega)))
      have C2 := Lib.hid hc2
      have F1 : Hid (FrS (fun k => k = cb ∨ k = g) wr w2) := (FrS.refl _ wr).drew.trans (FrS.of_one hg2 (.inl rfl))
      clear hc2
      try dsimp only
      refine hKK.out _ _ ?_ (fun hH2 => ?_)
      · exact F1.out
      clear hKK KK
      have hO := hH
      clear hH
      have hH := hH2
      clear hH2
      try simp only [Act.put, List.setIfInBounds_toArray, List.set_cons_zero, List.set_cons_succ]
      refine wpAnyH_take (i := 9) (v := ?_) (by simp only [List.getElem?_toArray, List.getElem?_cons_succ, List.getElem?_cons_zero]; rfl) (by kernel_rfl) (by kernel_rfl) (by kernel_rfl) (by exact fun _ _ _ h => h) (Or.inl ⟨by rfl, ?_⟩) hH ?_
      rotate_left
      · (intro wS hS; clear hS; go_simp; try rfl)
      try simp only [Act.put, List.setIfInBounds_toArray, List.set_cons_zero, List.set_cons_succ]
      refine wpAnyH_take (i := 10) (v := ?_) (by simp only [List.getElem?_toArray, List.getElem?_cons_succ, List.getElem?_cons_zero]; rfl) (by kernel_rfl) (by kernel_rfl) (by kernel_rfl) (by exact fun _ _ _ h => h) (Or.inl ⟨by rfl, ?_⟩) hH ?_
      rotate_left
      · (intro wS hS; clear hS; go_simp; try rfl)
      try simp only [Act.put, List.setIfInBounds_toArray, List.set_cons_zero, List.set_cons_succ]
      have hold := I2.out.ints.cell (i := k) (by rw [HZ.out]; exact hlt2)
      have hfr := I2.out.ints.free k
      refine wpAnyH_ready (rs := [11]) (by kernel_rfl) (by simp) ?_
      refine AllReadyH.cons (by simp only [List.getElem?_toArray, List.getElem?_cons_succ, List.getElem?_cons_zero]; rfl) (fun KK hKK => ?_) AllReadyH.nil
      go_simp
      have I2 := Lib.hid (I2.out.set k (by rw [HZ.out]; exact hlt2) (z - (most : Int)))
      have C2 := Lib.hid (C2.out.setFar (x := ⟨g, k, none⟩) (by show cb < g; omega) (.int .i64 (z - (most : Int))))
      have F2 : Hid (FrS (fun k => k = cb ∨ k = g) wr (w2.setCell ⟨g, k, none⟩ (.int .i64 (z - (most : Int))))) := F1.out.set (a := ⟨g, k, none⟩) (.inl (.inr rfl)) _
      try dsimp only
      refine hKK.out _ _ ?_ (fun hH2 => ?_)
      · exact F2.out
      clear hKK KK
      have hO := hH
      clear hH
      have hH := hH2
      clear hH2
      try simp only [Act.put, List.setIfInBounds_toArray, List.set_cons_zero, List.set_cons_succ]
      have F2 := Lib.hid (FR.out.trans F2.out)
      refine wpAnyH_done (by kernel_rfl) ?_ _
      go_wp2_with fail
      go_roundw
      case rel => exact ⟨k + 1, _, by go_num, by omega, by rw [List.length_set]; exact HZ.out, I2.out, C2.out, F2.out⟩
      case measure => simp [intOf]; omega
    · obtain rfl : N = k := by omega
      have R2 := Lib.hid (K2.out.frs FR.out (by omega))
      obtain ⟨s0, s1, s2, t0, t1, t2⟩ := R2.out.all
      go_wp2_with fail
      obtain ⟨E0, E1, E2, -, -, -⟩ := (((R2.out.set0 (.int .i64 R)).set1 (.int .i64 C)).set2 (.slice (some ⟨g, 0, none⟩) N N)).all
      have FF := Lib.hid (F.out.trans (FR.out.mono (q := fun k => k = cb ∨ w.heap.size ≤ k) (fun k hk => by omega)))
      refine bodyPost_ret (v := .agg #[.int .i64 R, .int .i64 C, .slice (some ⟨g, 0, none⟩) N N]) (by simp [results, Try.results86, go_sem, E0, E1, E2]) rfl ⟨g, zs, by rw [HN.out], by omega, by rw [HN.out]; exact HZ.out, ?_, ?_, ?_⟩
      · rw [HN.out]
        exact ((I.out.far (by show g ≠ w.heap.size; omega) _).far (by show g ≠ w.heap.size; omega) _).far (by show g ≠ w.heap.size; omega) _
      · exact ((CU.out.setFar (by show cb < w.heap.size; omega) _).setFar (by show cb < w.heap.size; omega) _).setFar (by show cb < w.heap.size; omega) _
      · exact FrS.one (((FF.out.set (a := ⟨w.heap.size, 0, none⟩) (.inr (Nat.le_refl _)) _).set (a := ⟨w.heap.size, 1, none⟩) (.inr (Nat.le_refl _)) _).set (a := ⟨w.heap.size, 2, none⟩) (.inr (Nat.le_refl _)) _) (fun k hk hp => by omega)
end Go.Proofs.Ytncplikadacjnaa
end

section
/-
  The drawing of matrices: one that may be spoilt.
-/
namespace Go.Proofs.Ytncplikadacjnaa
set_option maxRecDepth 100000
open Go.RowKit

/-! ### l3Spoil -/
theorem OwnC.out1 {B : Nat} {w : World} {v : Value} {zs : List Int} {b : Nat} {p q r : Value} (h : OwnC B w v zs) (k : Blk3 w b 26 p q r) (i : Nat) (x : Value) : OwnC B (w.setCell ⟨b, i, none⟩ x) v zs := by
  rcases h with h | ⟨g, cap, hv, hB, hi⟩
  · exact .inl h
  · exact .inr ⟨g, cap, hv, hB, hi.far (hi.ints.ne_blk k) x⟩
theorem OwnC.out3 {B : Nat} {w : World} {v : Value} {zs : List Int} {b : Nat} {p q r : Value} (h : OwnC B w v zs) (k : Blk3 w b 26 p q r) (x y z : Value) : OwnC B (((w.setCell ⟨b, 0, none⟩ x).setCell ⟨b, 1, none⟩ y).setCell ⟨b, 2, none⟩ z) v zs :=
  ((h.out1 k 0 x).out1 (k.set0 x) 1 y).out1 ((k.set0 x).set1 y) 2 z
/-- A matrix of whatever kind is returned, its cells from block B on; of what was there only blocks with the property p have changed. -/
def CurMat (B L cb : Nat) (p : Nat → Prop) (w : World) (e : Ending) (w' : World) : Prop := ∃ (r c : Int) (v : Value) (zs : List Int), e = .returned (.agg #[.int .i64 r, .int .i64 c, v]) ∧ OwnC B w' v zs ∧ zs.length ≤ L ∧ Cur w' cb ∧ FrS p w w'
theorem CurMat.end_ {B L cb b : Nat} {pr : Nat → Prop} {w W : World} {r c : Int} {v p q s : Value} {zs : List Int} (own : OwnC B W v zs) (hl : zs.length ≤ L) (k : Blk3 W b 26 p q s) (hc : Cur W cb) (hcb : cb < b) (hB : pr b) (f : FrS pr w W) :
    CurMat B L cb pr w (.returned (.agg #[.int .i64 r, .int .i64 c, v])) (((W.setCell ⟨b, 0, none⟩ (.int .i64 r)).setCell ⟨b, 1, none⟩ (.int .i64 c)).setCell ⟨b, 2, none⟩ v) :=
  ⟨r, c, v, zs, rfl, own.out3 k _ _ _, hl, ((hc.setFar hcb _).setFar hcb _).setFar hcb _, ((f.set (.inl hB) _).set (.inl hB) _).set (.inl hB) _⟩
set_option maxHeartbeats 2000000 in
theorem l3Spoil (w : World) (cb B g n cap : Nat) (r c : Int) (zs : List Int) (hc : Cur w cb) (hcB : cb < B) (hB : B ≤ w.heap.size) (hg : B ≤ g) (hi : IntsC w g cap zs) (hz : zs.length = n) (hn : n ≤ 600) :
    Calls Try.prog 89 #[.pointer (some ⟨cb, 0, none⟩), .agg #[.int .i64 r, .int .i64 c, .slice (some ⟨g, 0, none⟩) n cap]] w (CurMat B (n + 1) cb (fun k => k = cb ∨ k = g ∨ w.heap.size ≤ k) w) := by
  have hlt := hc.lt
  have gl := hi.lt
  have C0 := Lib.hid hc
  have I0 := Lib.hid hi
  have HZ := Lib.hid hz
  clear hc hi hz
  go_enter Try.func89, Try.ntmps89
  go_wp2_with fail
  refine (l1Below _ cb 40 ((C0.out.alloc (.cells #[.int .i64 r, .int .i64 c, .slice (some ⟨g, 0, none⟩) n cap] 26)).alloc (.cells #[.int .i64 0, .int .i64 0, .slice none 0 0] 26)) (by omega)).mono ?_
  rintro e w1 ⟨k, ⟨k0, k1⟩, rfl, hc1, hg1⟩
  have K0 : Hid (Blk3 w1 w.heap.size 26 (.int .i64 r) (.int .i64 c) (.slice (some ⟨g, 0, none⟩) n cap)) := ((Blk3.at_ _ _ _ _ rfl).old _).keepOne hg1 (by omega)
  have K2 : Hid (Blk3 w1 (w.heap.size + 1) 26 (.int .i64 0) (.int .i64 0) (.slice none 0 0)) := (Blk3.at_ _ _ _ _ (by simp)).keepOne hg1 (by omega)
  have C1 := Lib.hid hc1
  have F1 : Hid (FrS (fun k => k = cb ∨ k = g ∨ w.heap.size ≤ k) w w1) := ((((FrS.refl _ w).alloc _).alloc _).trans (FrS.of_one hg1 (.inl rfl)))
  have O1 : Hid (OwnC B w1 (.slice (some ⟨g, 0, none⟩) n cap) zs) := .inr ⟨g, cap, by rw [HZ.out], hg, (((I0.out.old _).old _)).move (hg1.block g (by simp; omega) (by simp; omega))⟩
  have I1 : Hid (IntsC w1 g cap zs) := (((I0.out.old _).old _)).move (hg1.block g (by simp; omega) (by simp; omega))
  have l1 : w.heap.size + 1 < w1.heap.size := K2.out.lt
  clear hc1 hg1 C0 I0
  obtain ⟨a0, a1, a2, a3, a4, a5⟩ := K0.out.all
  obtain ⟨b0, b1, b2, b3, b4, b5⟩ := K2.out.all
  by_cases e0 : k = 0
  · subst e0
    go_wp2_with fail
    refine (l1PickInt (fun _ => True) _ cb w1.heap.size 4 (C1.out.alloc _) ?_ (by omega) (by omega) (by omega)).mono ?_
    · exact IntList.new [-1, 0, 7, wrap64 (r + 1)] (fun _ _ => trivial) w1 3
    rintro e w2 ⟨t, -, rfl, hc2, hg2⟩
    have K0 := Lib.hid ((K0.out.old _).keepOne hg2 (by omega))
    have K2 := Lib.hid ((K2.out.old _).keepOne hg2 (by omega))
    have C2 := Lib.hid hc2
    have fx : FrS (fun k => k = cb) w1 w2 := (((FrS.refl _ w1).alloc _).trans (FrS.of_one hg2 rfl))
    have F2 := Lib.hid (F1.out.trans (fx.mono (fun k hk => .inl hk)))
    have O2 := Lib.hid (O1.out.frs fx (fun k hk => by omega))
    clear hc2 hg2 fx
    obtain ⟨s0, s1, s2, f0, f1, f2⟩ := K0.out.all
    obtain ⟨u0, u1, u2, v0, v1, v2⟩ := K2.out.all
    go_wp2_with fail
    obtain ⟨E0, E1, E2, -, -, -⟩ := ((((K2.out.far (a := ⟨w.heap.size, 0, none⟩) (by simp) (.int .i64 t)).set0 (.int .i64 t)).set1 (.int .i64 c)).set2 (.slice (some ⟨g, 0, none⟩) n cap)).all
    exact bodyPost_ret (v := .agg #[.int .i64 t, .int .i64 c, .slice (some ⟨g, 0, none⟩) n cap]) (by simp [results, Try.results89, go_sem, E0, E1, E2]) rfl (CurMat.end_ (O2.out.out1 K0.out 0 _) (by rw [HZ.out]; omega) (K2.out.far (by simp) _) (C2.out.setFar (by show cb < w.heap.size; omega) _) (by omega) (by omega) (F2.out.set (.inl (.inr (.inr (Nat.le_refl _)))) _))
  by_cases e1 : k = 1
  · subst e1
    by_cases hn0 : 0 < n
    · go_upto_region 6 with fail
      refine wp_region_held_drew (S := fun w' => FrS (fun k => k = cb ∨ k = g) w1 w') (by kernel_rfl) (FrS.refl _ _).drew (fun hH => ?_)
      refine wpAnyH_take (i := 0) (v := ?_) (by simp only [List.getElem?_toArray, List.getElem?_cons_zero]; rfl) (by kernel_rfl) (by kernel_rfl) (by kernel_rfl) (by exact fun _ _ _ h => h) (Or.inl ⟨by rfl, ?_⟩) hH ?_
      rotate_left
      · (intro wS hS; clear hS; go_simp; try rfl)
      try simp only [Act.put, List.setIfInBounds_toArray, List.set_cons_zero, List.set_cons_succ]
      refine wpAnyH_take (i := 1) (v := ?_) (by simp only [List.getElem?_toArray, List.getElem?_cons_succ, List.getElem?_cons_zero]; rfl) (by kernel_rfl) (by kernel_rfl) (by kernel_rfl) (by exact fun _ _ _ h => h) (Or.inl ⟨by rfl, ?_⟩) hH ?_
      rotate_left
      · (intro wS hS; (try dsimp only at hS); obtain ⟨k1, k2, k3⟩ := sevenF K0.out hS (by rintro (h | h); omega; exact I1.out.ints.ne_blk K0.out h.symm); go_simp; try rfl)
      try simp only [Act.put, List.setIfInBounds_toArray, List.set_cons_zero, List.set_cons_succ]
      refine wpAnyH_take (i := 2) (v := ?_) (by simp only [List.getElem?_toArray, List.getElem?_cons_succ, List.getElem?_cons_zero]; rfl) (by kernel_rfl) (by kernel_rfl) (by kernel_rfl) (by exact fun _ _ _ h => h) (Or.inl ⟨by rfl, ?_⟩) hH ?_
      rotate_left
      · (intro wS hS; clear hS; go_simp; try rfl)
      try simp only [Act.put, List.setIfInBounds_toArray, List.set_cons_zero, List.set_cons_succ]
      refine wpAnyH_ready (rs := [3]) (by kernel_rfl) (by simp) ?_
      refine AllReadyH.cons (by simp only [List.getElem?_toArray, List.getElem?_cons_succ, List.getElem?_cons_zero]; rfl) (fun KK hKK => ?_) AllReadyH.nil
      go_simp
      refine (l1Odd _ cb (by exact C1.out)).mono ?_
      rintro e w2 ⟨z, hz, rfl, hc2, hg2⟩
      have I2 := Lib.hid (I1.out.move (hg2.block g I1.out.lt (by simp; omega)))
      have C2 := Lib.hid hc2
      have f2 : FrS (fun k => k = cb ∨ k = g) w1 w2 := (FrS.refl _ w1).drew.trans (FrS.of_one hg2 (.inl rfl))
      have FX := Lib.hid f2
      clear hc2 f2 hg2
      try dsimp only
      refine hKK.out _ _ ?_ (fun hH2 => ?_)
      · exact FX.out
      clear hKK KK
      have hO := hH
      clear hH
      have hH := hH2
      clear hH2
      try simp only [Act.put, List.setIfInBounds_toArray, List.set_cons_zero, List.set_cons_succ]
      refine wpAnyH_take (i := 4) (v := ?_) (by simp only [List.getElem?_toArray, List.getElem?_cons_succ, List.getElem?_cons_zero]; rfl) (by kernel_rfl) (by kernel_rfl) (by kernel_rfl) (by exact fun _ _ _ h => h) (Or.inl ⟨by rfl, ?_⟩) hH ?_
      rotate_left
      · (intro wS hS; clear hS; go_simp; try rfl)
      try simp only [Act.put, List.setIfInBounds_toArray, List.set_cons_zero, List.set_cons_succ]
      have hold := I2.out.ints.cell (i := 0) (by rw [HZ.out]; exact hn0)
      have hfr := I2.out.ints.free 0
      refine wpAnyH_ready (rs := [5]) (by kernel_rfl) (by simp) ?_
      refine AllReadyH.cons (by simp only [List.getElem?_toArray, List.getElem?_cons_succ, List.getElem?_cons_zero]; rfl) (fun KK hKK => ?_) AllReadyH.nil
      go_simp
      have I2 := Lib.hid (I2.out.set 0 (by rw [HZ.out]; exact hn0) z)
      have C2 := Lib.hid (C2.out.setFar (x := ⟨g, 0, none⟩) (by show cb < g; omega) (.int .i64 z))
      have FX : Hid (FrS (fun k => k = cb ∨ k = g) w1 (w2.setCell ⟨g, 0, none⟩ (.int .i64 z))) := FX.out.set (a := ⟨g, 0, none⟩) (.inl (.inr rfl)) _
      try dsimp only
      refine hKK.out _ _ ?_ (fun hH2 => ?_)
      · exact FX.out
      clear hKK KK
      have hO := hH
      clear hH
      have hH := hH2
      clear hH2
      try simp only [Act.put, List.setIfInBounds_toArray, List.set_cons_zero, List.set_cons_succ]
      have K0n : ¬ (w.heap.size = cb ∨ w.heap.size = g) := by rintro (h | h); omega; exact I1.out.ints.ne_blk K0.out h.symm
      have K2n : ¬ (w.heap.size + 1 = cb ∨ w.heap.size + 1 = g) := by rintro (h | h); omega; exact I1.out.ints.ne_blk K2.out h.symm
      have K0 := Lib.hid (K0.out.frs FX.out K0n)
      have K2 := Lib.hid (K2.out.frs FX.out K2n)
      have F2 := Lib.hid (F1.out.trans (FX.out.mono (q := fun k => k = cb ∨ k = g ∨ w.heap.size ≤ k) (fun k hk => by omega)))
      have O2 : Hid (OwnC B (w2.setCell ⟨g, 0, none⟩ (.int .i64 z)) (.slice (some ⟨g, 0, none⟩) n cap) (zs.set 0 z)) := .inr ⟨g, cap, by rw [List.length_set, HZ.out], hg, I2.out⟩
      obtain ⟨s0, s1, s2, f0, f1, f2⟩ := K0.out.all
      obtain ⟨u0, u1, u2, v0, v1, v2⟩ := K2.out.all
      refine wpAnyH_done (by kernel_rfl) ?_ _
      go_wp2_with fail
      obtain ⟨E0, E1, E2, -, -, -⟩ := (((K2.out.set0 (.int .i64 r)).set1 (.int .i64 c)).set2 (.slice (some ⟨g, 0, none⟩) n cap)).all
      exact bodyPost_ret (v := .agg #[.int .i64 r, .int .i64 c, .slice (some ⟨g, 0, none⟩) n cap]) (by simp [results, Try.results89, go_sem, E0, E1, E2]) rfl (CurMat.end_ O2.out (by rw [List.length_set, HZ.out]; omega) K2.out C2.out (by omega) (by omega) F2.out)
    · obtain rfl : n = 0 := by omega
      go_wp2_with fail
      obtain ⟨E0, E1, E2, -, -, -⟩ := (((K2.out.set0 (.int .i64 r)).set1 (.int .i64 c)).set2 (.slice (some ⟨g, 0, none⟩) 0 cap)).all
      exact bodyPost_ret (v := .agg #[.int .i64 r, .int .i64 c, .slice (some ⟨g, 0, none⟩) 0 cap]) (by simp [results, Try.results89, go_sem, E0, E1, E2]) rfl (CurMat.end_ O1.out (by rw [HZ.out]; omega) K2.out C1.out (by omega) (by omega) F1.out)
  by_cases e2 : k = 2
  · subst e2
    obtain ⟨fi, hfi, hz0, hz1, hz2⟩ := facts_int
    have hown : (w1.alloc (.cells #[.int .i64 1] 3)).ownsRow B 3 1 (.slice (some ⟨g, 0, none⟩) n cap) n (zs.map (Value.int .i64)) := by
      have := (I1.out.old (.cells #[.int .i64 1] 3)).row hg
      rw [HZ.out] at this
      exact this
    have news : ∀ (j : Nat) u, [Value.int .i64 1][j]? = some u → (w1.alloc (.cells #[.int .i64 1] 3)).cell? ((⟨w1.heap.size, 0, none⟩ : Addr).add j) = some u := by
      intro j u hu
      have hj : j = 0 := by
        rcases j with _ | j
        · rfl
        · simp at hu
      subst hj
      have := heap_alloc_new w1 (.cells #[Value.int .i64 1] 3)
      have hc : (w1.alloc (.cells #[Value.int .i64 1] 3)).cell? ⟨w1.heap.size, 0, none⟩ = some (.int .i64 1) := by
        unfold World.cell?
        simp only [this]
        rfl
      have ha : (⟨w1.heap.size, 0, none⟩ : Addr).add 0 = ⟨w1.heap.size, 0, none⟩ := rfl
      rw [ha, hc]
      simpa using hu
    have HO := Lib.hid hown
    have NS := Lib.hid news
    have bs : B ≤ w1.heap.size := Nat.le_trans hB F1.out.size
    clear hown news
    go_wp2_with (at_builtin; refine wpList_append_own_at _ rfl _ _ 24 rfl B 3 fi (.int .i64 0) 1 8 underlying_ints hfi hz0 hz1 hz2 rfl (by decide) _ _ _ rfl HO.out ⟨w1.heap.size, 0, none⟩ 1 1 [.int .i64 1] ?hx ?hl ?hnews ?h1 ?h63 ?hbytes ?hbase ?hnext)
    case hx => rfl
    case hl => rfl
    case hnews => exact NS.out
    case h1 => intro u hu; simp at hu; subst hu; rfl
    case h63 => unfold maxLen; omega
    case hbytes => omega
    case hbase => simp; omega
    case hnext =>
      rintro v' w2 ho hg2 - hbk
      have O2 : Hid (OwnC B w2 v' (zs ++ [1])) := OwnC.of_row (by rw [List.length_append, HZ.out, List.map_append]; exact ho)
      have K0 := Lib.hid ((K0.out.old (.cells #[.int .i64 1] 3)).keepOne (c := g) (by simpa [Value.ownBlock] using hg2) (Ne.symm (I1.out.ints.ne_blk K0.out)))
      have K2 := Lib.hid ((K2.out.old (.cells #[.int .i64 1] 3)).keepOne (c := g) (by simpa [Value.ownBlock] using hg2) (Ne.symm (I1.out.ints.ne_blk K2.out)))
      have fx : FrS (fun k => k = cb ∨ k = g ∨ w.heap.size ≤ k) (w1.alloc (.cells #[.int .i64 1] 3)) w2 := FrS.of_one (g := g) (by simpa [Value.ownBlock] using hg2) (.inr (.inl rfl))
      have F2 := Lib.hid ((F1.out.alloc _).trans fx)
      have C2 := Lib.hid ((C1.out.alloc (.cells #[.int .i64 1] 3)).frs (FrS.of_one (p := fun k => k = g) (g := g) (by simpa [Value.ownBlock] using hg2) rfl) (fun k hk => by omega))
      obtain ⟨q2, qc2, rfl, -, -⟩ := (O2.out.own (by rw [List.length_append, HZ.out]; simp; omega)).form
      clear ho hg2 hbk fx
      obtain ⟨s0, s1, s2, f0, f1, f2⟩ := K0.out.all
      obtain ⟨u0, u1, u2, v0, v1, v2⟩ := K2.out.all
      have EL : (zs ++ [(1 : Int)]).length = n + 1 := by rw [List.length_append, HZ.out]; rfl
      rw [EL] at O2 ⊢
      go_wp2_with fail
      obtain ⟨E0, E1, E2, -, -, -⟩ := ((((K2.out.far (a := ⟨w.heap.size, 2, none⟩) (by simp) (.slice q2 (n + 1) qc2)).set0 (.int .i64 r)).set1 (.int .i64 c)).set2 (.slice q2 (n + 1) qc2)).all
      exact bodyPost_ret (v := .agg #[.int .i64 r, .int .i64 c, .slice q2 (n + 1) qc2]) (by simp [results, Try.results89, go_sem, E0, E1, E2]) rfl (CurMat.end_ (O2.out.out1 K0.out 2 _) (by rw [EL]; omega) (K2.out.far (by simp) _) (C2.out.setFar (by show cb < w.heap.size; omega) _) (by omega) (by omega) (F2.out.set (.inl (.inr (.inr (Nat.le_refl _)))) _))
  · have n0 : (k == 0) = false := by simpa using e0
    have n1 : (k == 1) = false := by simpa using e1
    have n2 : (k == 2) = false := by simpa using e2
    go_wp2_with fail
    obtain ⟨E0, E1, E2, -, -, -⟩ := (((K2.out.set0 (.int .i64 r)).set1 (.int .i64 c)).set2 (.slice (some ⟨g, 0, none⟩) n cap)).all
    exact bodyPost_ret (v := .agg #[.int .i64 r, .int .i64 c, .slice (some ⟨g, 0, none⟩) n cap]) (by simp [results, Try.results89, go_sem, E0, E1, E2]) rfl (CurMat.end_ O1.out (by rw [HZ.out]; omega) K2.out C1.out (by omega) (by omega) F1.out)
end Go.Proofs.Ytncplikadacjnaa
end

section
/-
  The drawing of matrices: a square one of up to 4 rows.
-/
namespace Go.Proofs.Ytncplikadacjnaa
set_option maxRecDepth 100000
open Go.RowKit

set_option maxRecDepth 100000 in
set_option maxHeartbeats 2000000 in
theorem l3Square (w : World) (cb : Nat) (hc : Cur w cb) :
    Calls Try.prog 52 #[.pointer (some ⟨cb, 0, none⟩)] w (CurMat w.heap.size 17 cb (fun k => k = cb ∨ w.heap.size ≤ k) w) := by
  have hlt := hc.lt
  have C0 := Lib.hid hc
  clear hc
  go_enter Try.func52, Try.ntmps52
  go_wp2_with fail
  refine (l1Below _ cb 5 (C0.out.alloc (.cells #[.int .i64 0, .int .i64 0, .slice none 0 0] 26)) (by omega)).mono ?_
  rintro e w1 ⟨R, ⟨r0, r1⟩, rfl, hc1, hg1⟩
  have K2 : Hid (Blk3 w1 w.heap.size 26 (.int .i64 0) (.int .i64 0) (.slice none 0 0)) := (Blk3.at_ _ _ _ _ rfl).keepOne hg1 (by omega)
  have C1 := Lib.hid hc1
  have F1 : Hid (FrS (fun k => k = cb ∨ w.heap.size ≤ k) w w1) := ((FrS.refl _ w).alloc _).trans (FrS.of_one hg1 (.inl rfl))
  clear hc1 hg1 C0
  have lk := K2.out.lt
  have lc := C1.out.lt
  go_wp2_with fail
  refine (l1PickInt (fun z => 1 ≤ z ∧ z ≤ 9) _ cb w1.heap.size 3 (C1.out.alloc _) ?_ (by omega) (by omega) (by omega)).mono ?_
  · exact IntList.new [1, 3, 9] (by decide) w1 3
  rintro e w3 ⟨z, ⟨z0, z1⟩, rfl, hc3, hg3⟩
  have K2 := Lib.hid ((K2.out.old _).keepOne hg3 (by omega))
  have C3 := Lib.hid hc3
  have F3 := Lib.hid ((F1.out.alloc _).trans (FrS.of_one hg3 (.inl rfl)))
  clear hc3 hg3 C1 F1 lk lc
  obtain ⟨R, rfl⟩ := Int.eq_ofNat_of_zero_le r0
  obtain ⟨z, rfl⟩ := Int.eq_ofNat_of_zero_le (show 0 ≤ z by omega)
  have lk := K2.out.lt
  have lc := C3.out.lt
  go_wp2_with fail
  refine (l3Draw _ cb R R z C3.out (by omega) (by omega) (by omega)).mono ?_
  rintro e w4 ⟨g, zs, rfl, hg, hz, hi, hc4, hg4⟩
  obtain ⟨N, hN⟩ : ∃ N, R * R = N := ⟨_, rfl⟩
  have hNle : N ≤ 16 := by rw [← hN]; exact Nat.mul_le_mul (show R ≤ 4 by omega) (show R ≤ 4 by omega)
  have HN := Lib.hid hN
  rw [hN] at hz hi ⊢
  have HZ := Lib.hid hz
  have K2 := Lib.hid ((K2.out.keepOne hg4 (by omega)).old (.cells #[.int .i64 R, .int .i64 R, .slice (some ⟨g, 0, none⟩) N N] 26))
  have K6 : Hid (Blk3 (w4.alloc (.cells #[.int .i64 R, .int .i64 R, .slice (some ⟨g, 0, none⟩) N N] 26)) w4.heap.size 26 (.int .i64 R) (.int .i64 R) (.slice (some ⟨g, 0, none⟩) N N)) := Blk3.at_ _ _ _ _ rfl
  have CU := Lib.hid (hc4.alloc (.cells #[.int .i64 R, .int .i64 R, .slice (some ⟨g, 0, none⟩) N N] 26))
  have FR := Lib.hid ((F3.out.trans (FrS.of_one hg4 (.inl rfl))).alloc (.cells #[.int .i64 R, .int .i64 R, .slice (some ⟨g, 0, none⟩) N N] 26))
  have I := Lib.hid (hi.old (.cells #[.int .i64 R, .int .i64 R, .slice (some ⟨g, 0, none⟩) N N] 26))
  have gp := hi.lt
  have wg : w.heap.size < g := by omega
  have wp : w.heap.size < w4.heap.size := by omega
  have hw4 := FR.out.size
  clear hN hz hi hc4 hg4 hg F3 C3 lk lc
  obtain ⟨x0, x1, x2, -, -, -⟩ := K6.out.all
  by_cases h1 : (1 : Int) < R
  · go_wp2_with fail
    refine (l1Once _ cb 6 CU.out (by omega)).mono ?_
    rintro e w5 ⟨b, rfl, hc5, hg5⟩
    have K2 := Lib.hid (K2.out.keepOne hg5 (by omega))
    have K6 := Lib.hid (K6.out.keepOne hg5 (by omega))
    have CU := Lib.hid hc5
    have FR := Lib.hid (FR.out.trans (FrS.of_one hg5 (.inl rfl)))
    have I := Lib.hid (I.out.move (hg5.block g I.out.lt (by simp; omega)))
    clear hc5 hg5 x0 x1 x2
    obtain ⟨x0, x1, x2, -, -, -⟩ := K6.out.all
    cases b with
    | false =>
      go_wp2_with fail
      refine (l3Spoil _ cb w.heap.size g N N R R zs CU.out hlt FR.out.size (by omega) I.out HZ.out (by omega)).mono ?_
      rintro e w9 ⟨r', c', v', zs', rfl, own, hl, hc9, hf⟩
      obtain ⟨q9, qc9, rfl, -, -⟩ := (own.own (by omega)).form
      have lk9 := K2.out.lt
      have K2 := Lib.hid (K2.out.frs hf (by omega))
      have F9 := Lib.hid (FR.out.trans ((hf.mono (q := fun k => k = cb ∨ w.heap.size ≤ k) (fun k hk => by have := FR.out.size; omega))))
      have O9 := Lib.hid own
      have C9 := Lib.hid hc9
      have HL := Lib.hid hl
      clear own hl hc9 hf
      obtain ⟨y0, y1, y2, y3, y4, y5⟩ := K2.out.all
      go_wp2_with fail
      obtain ⟨E0, E1, E2, -, -, -⟩ := (((K2.out.set0 (.int .i64 r')).set1 (.int .i64 c')).set2 (.slice q9 zs'.length qc9)).all
      exact bodyPost_ret (v := .agg #[.int .i64 r', .int .i64 c', .slice q9 zs'.length qc9]) (by simp [results, Try.results52, go_sem, E0, E1, E2]) rfl (CurMat.end_ O9.out (by have := HL.out; omega) K2.out C9.out hlt (.inr (Nat.le_refl _)) F9.out)
    | true =>
      go_wp2_with fail
      go_loopw [5] (fun i wr => ∃ (k : Nat) (zs : List Int), i = .int .i64 k ∧ k ≤ R ∧ zs.length = N ∧ IntsC wr g N zs ∧ FrS (fun k => k = g) w5 wr) (fun i _ => R - (intOf i).toNat)
      case atStart => exact ⟨0, zs, rfl, by omega, HZ.out, I.out, FrS.refl _ _⟩
      case round =>
        clear HZ
        obtain ⟨k, zs, rfl, hk, hz, hi, hfr⟩ := hrel
        have HZ := Lib.hid hz
        have I := Lib.hid hi
        have FG := Lib.hid hfr
        clear hz hi hfr x0 x1 x2
        have K6 := Lib.hid (K6.out.frs FG.out (by omega))
        obtain ⟨x0, x1, x2, -, -, -⟩ := K6.out.all
        by_cases hk2 : k < R
        · have q0 : 2 * R ≤ N := by rw [← HN.out]; exact Nat.mul_le_mul_right R (by omega)
          have q1 : R + k < N := by omega
          have q2 : k < N := by omega
          have hc1 := I.out.ints.cell (i := R + k) (by rw [HZ.out]; exact q1)
          have hc2 := I.out.ints.cell (i := k) (by rw [HZ.out]; exact q2)
          have hfr := I.out.ints.free k
          obtain ⟨x, hx⟩ : ∃ x, zs.getD (R + k) 0 = x := ⟨_, rfl⟩
          rw [hx] at hc1
          obtain ⟨y, hy⟩ : ∃ y, zs.getD k 0 = y := ⟨_, rfl⟩
          rw [hy] at hc2
          have e1 : 0 ≤ (R : Int) + (k : Int) := by omega
          have e2 : (R : Int) + (k : Int) < (N : Int) := by omega
          have e3 : ((R : Int) + (k : Int)).toNat = R + k := by omega
          have v2 : IntKind.i64.wrap ((R : Int) + (k : Int)) = (R : Int) + (k : Int) := IntWalk.i64_in _ (by omega)
          clear hx hy
          go_wp2_with fail
          go_still_tail 11, (by kernel_rfl)
          go_wp2_with fail
          go_roundw
          case rel =>
            refine ⟨k + 1, zs.set k x, by go_num, by omega, by rw [List.length_set]; exact HZ.out, ?_, ?_⟩
            · exact I.out.drew.set k (by rw [HZ.out]; exact q2) _
            · exact (FG.out.drew).set (a := ⟨g, k, none⟩) (.inl rfl) _
          case measure => simp [intOf]; omega
        · have hk3 : decide (k < R) = false := by simpa using hk2
          have K2 := Lib.hid (K2.out.frs FG.out (by omega))
          have CU := Lib.hid (CU.out.frs FG.out (fun k hk => by omega))
          have FR := Lib.hid (FR.out.trans (FG.out.mono (q := fun k => k = cb ∨ w.heap.size ≤ k) (fun k hk => by omega)))
          go_wp2_with fail
          refine (l3Spoil _ cb w.heap.size g N N R R zs CU.out hlt FR.out.size (by omega) I.out HZ.out (by omega)).mono ?_
          rintro e w9 ⟨r', c', v', zs', rfl, own, hl, hc9, hf⟩
          obtain ⟨q9, qc9, rfl, -, -⟩ := (own.own (by omega)).form
          have lk9 := K2.out.lt
          have K2 := Lib.hid (K2.out.frs hf (by omega))
          have F9 := Lib.hid (FR.out.trans ((hf.mono (q := fun k => k = cb ∨ w.heap.size ≤ k) (fun k hk => by have := FR.out.size; omega))))
          have O9 := Lib.hid own
          have C9 := Lib.hid hc9
          have HL := Lib.hid hl
          clear own hl hc9 hf
          obtain ⟨y0, y1, y2, y3, y4, y5⟩ := K2.out.all
          go_wp2_with fail
          obtain ⟨E0, E1, E2, -, -, -⟩ := (((K2.out.set0 (.int .i64 r')).set1 (.int .i64 c')).set2 (.slice q9 zs'.length qc9)).all
          exact bodyPost_ret (v := .agg #[.int .i64 r', .int .i64 c', .slice q9 zs'.length qc9]) (by simp [results, Try.results52, go_sem, E0, E1, E2]) rfl (CurMat.end_ O9.out (by have := HL.out; omega) K2.out C9.out hlt (.inr (Nat.le_refl _)) F9.out)
  · have h1' : decide ((1 : Int) < (R : Int)) = false := by simpa using h1
    go_wp2_with fail
    refine (l3Spoil _ cb w.heap.size g N N R R zs CU.out hlt FR.out.size (by omega) I.out HZ.out (by omega)).mono ?_
    rintro e w9 ⟨r', c', v', zs', rfl, own, hl, hc9, hf⟩
    obtain ⟨q9, qc9, rfl, -, -⟩ := (own.own (by omega)).form
    have lk9 := K2.out.lt
    have K2 := Lib.hid (K2.out.frs hf (by omega))
    have F9 := Lib.hid (FR.out.trans ((hf.mono (q := fun k => k = cb ∨ w.heap.size ≤ k) (fun k hk => by have := FR.out.size; omega))))
    have O9 := Lib.hid own
    have C9 := Lib.hid hc9
    have HL := Lib.hid hl
    clear own hl hc9 hf
    obtain ⟨y0, y1, y2, y3, y4, y5⟩ := K2.out.all
    go_wp2_with fail
    obtain ⟨E0, E1, E2, -, -, -⟩ := (((K2.out.set0 (.int .i64 r')).set1 (.int .i64 c')).set2 (.slice q9 zs'.length qc9)).all
    exact bodyPost_ret (v := .agg #[.int .i64 r', .int .i64 c', .slice q9 zs'.length qc9]) (by simp [results, Try.results52, go_sem, E0, E1, E2]) rfl (CurMat.end_ O9.out (by have := HL.out; omega) K2.out C9.out hlt (.inr (Nat.le_refl _)) F9.out)
end Go.Proofs.Ytncplikadacjnaa
end

section
/-
  A code that came in as a slice of bytes, as the drawing takes it; and the laws' own look at its length.
-/
namespace Go.Proofs.Ytncplikadacjnaa
open Go.RowKit

theorem codeIn_none (w : World) : CodeIn w none 0 := ⟨Nat.zero_le _, fun _ hk => absurd hk (Nat.not_lt_zero _)⟩
theorem codeIn_some {w : World} {x : Addr} {len cap : Nat} {zs : List Int} (hl : len ≤ cap) (hm : cap ≤ maxLen) (hz : zs.length = cap)
    (hcell : ∀ i, i < zs.length → w.cell? (x.add i) = some (.int .u8 (zs.getD i 0))) (hwf : ∀ n ∈ zs, (Lit.int .u8 n).wf = true) : CodeIn w (some x) len := by
  refine ⟨Nat.le_trans hl hm, fun k hk => ?_⟩
  obtain ⟨b, o, rfl, hc⟩ := ints_at hcell (by omega)
  have bd := range_u8 hwf k
  exact ⟨b, o, zs.getD k 0, rfl, hc k (by omega), by simpa using bd.1, by simpa using bd.2⟩

theorem big_no (w : World) (a : Option Addr) (len cap : Nat) (h : len ≤ 1048576) : Calls Try.prog 12 #[.slice a len cap] w fun e w' => e = .returned (.bool false) ∧ w = w' := by
  have h' : decide ((1048576 : Int) < (len : Int)) = false := by simp; omega
  clear h
  go_enter Try.func12, Try.ntmps12
  go_wp2
  go_ret
  exact ⟨rfl, rfl⟩
theorem big_yes (w : World) (a : Option Addr) (len cap : Nat) (h : 1048576 < len) : Calls Try.prog 12 #[.slice a len cap] w fun e w' => e = .returned (.bool true) ∧ w = w' := by
  have h' : decide ((1048576 : Int) < (len : Int)) = true := by simp; omega
  clear h
  go_enter Try.func12, Try.ntmps12
  go_wp2
  go_ret
  exact ⟨rfl, rfl⟩

end Go.Proofs.Ytncplikadacjnaa
end

section
/-
  What the drawing of a matrix gives: any matrix of the call's own, valid or not.
-/
namespace Go.Proofs.Ytncplikadacjnaa
set_option maxRecDepth 100000
open Go.RowKit

/-- A matrix, whatever it is, in memory of the call's own. -/
def AnyMat (w : World) (e : Ending) (w' : World) : Prop := ∃ (r c : Int) (q : Option Addr) (qc : Nat) (zs : List Int), e = .returned (.agg #[.int .i64 r, .int .i64 c, .slice q zs.length qc]) ∧ Own w.heap.size w' (.slice q zs.length qc) zs ∧ zs.length ≤ 601 ∧ Below w.heap.size w w'
theorem AnyMat.end_ {w W : World} {B b : Nat} {r c : Int} {v p q s : Value} {zs : List Int} {pr : Nat → Prop} (own : OwnC B W v zs) (hl : zs.length ≤ 601) (k : Blk3 W b 26 p q s) (hB : w.heap.size ≤ B) (hb : w.heap.size ≤ b) (f : FrS pr w W) (hp : ∀ k, pr k → w.heap.size ≤ k) :
    ∃ (q : Option Addr) (qc : Nat), v = .slice q zs.length qc ∧ AnyMat w (.returned (.agg #[.int .i64 r, .int .i64 c, v])) (((W.setCell ⟨b, 0, none⟩ (.int .i64 r)).setCell ⟨b, 1, none⟩ (.int .i64 c)).setCell ⟨b, 2, none⟩ v) := by
  have o2 := ((own.out3 k (.int .i64 r) (.int .i64 c) v).own (by omega)).le hB
  obtain ⟨q, qc, rfl, -, -⟩ := o2.form
  refine ⟨q, qc, rfl, r, c, q, qc, zs, rfl, o2, hl, ?_⟩
  exact ((((f.below hp (Nat.le_refl _)).setCell hb _).setCell hb _).setCell hb _)
end Go.Proofs.Ytncplikadacjnaa
end

section
/-
  The drawing of a modulus, and of a square matrix with one.
-/
namespace Go.Proofs.Ytncplikadacjnaa
set_option maxRecDepth 100000
open Go.RowKit

set_option maxHeartbeats 400000 in
theorem l8Prime (w : World) (cb : Nat) (hc : Cur w cb) :
    Calls Try.prog 54 #[.pointer (some ⟨cb, 0, none⟩)] w (CurInt (fun r => -1 ≤ r ∧ r ≤ 10007) cb w) := by
  have HC := Lib.hid hc
  clear hc
  go_enter Try.func54, Try.ntmps54
  go_wp2_with (fail)
  refine (l1Once _ cb 12 HC.out (by omega)).mono ?_
  rintro e w1 ⟨b, rfl, hc1, hg1⟩
  have C1 := Lib.hid hc1
  have G1 := Lib.hid hg1
  have hlt := hc1.lt
  clear hc1 hg1
  cases b with
  | true =>
    go_wp2_with (fail)
    refine (l1PickInt (fun r => -1 ≤ r ∧ r ≤ 10007) _ cb w1.heap.size 7 (C1.out.alloc _) ?_ (by omega) (by omega) (by omega)).mono ?_
    · exact IntList.new [-1, 0, 1, 4, 9973, 10007, 9999] (by decide) w1 3
    rintro e w2 ⟨r, hr, rfl, hc2, hg2⟩
    have C2 := Lib.hid hc2
    have G2 := Lib.hid hg2
    have R := Lib.hid hr
    clear hc2 hg2 hr
    go_wp2_with (fail)
    go_ret
    exact ⟨r, R.out, rfl, C2.out, G1.out.trans ((World.grownBy_alloc w1 _ _).trans G2.out)⟩
  | false =>
    go_wp2_with (fail)
    refine (l1PickInt (fun r => -1 ≤ r ∧ r ≤ 10007) _ cb w1.heap.size 7 (C1.out.alloc _) ?_ (by omega) (by omega) (by omega)).mono ?_
    · exact IntList.new [2, 3, 5, 7, 11, 13, 101] (by decide) w1 3
    rintro e w2 ⟨r, hr, rfl, hc2, hg2⟩
    have C2 := Lib.hid hc2
    have G2 := Lib.hid hg2
    have R := Lib.hid hr
    clear hc2 hg2 hr
    go_wp2_with (fail)
    go_ret
    exact ⟨r, R.out, rfl, C2.out, G1.out.trans ((World.grownBy_alloc w1 _ _).trans G2.out)⟩

/-- A matrix of at most 17 cells, whatever it is, in memory of the call's own, and a number. -/
def MatPr (w : World) (e : Ending) (w' : World) : Prop := ∃ (r c : Int) (q : Option Addr) (qc : Nat) (zs : List Int) (p : Int), e = .returned (.tuple #[.agg #[.int .i64 r, .int .i64 c, .slice q zs.length qc], .int .i64 p]) ∧ Own w.heap.size w' (.slice q zs.length qc) zs ∧ zs.length ≤ 17 ∧ (-1 ≤ p ∧ p ≤ 10007) ∧ Below w.heap.size w w'

set_option maxHeartbeats 1000000 in
theorem l8Square (w : World) (a : Option Addr) (len cap : Nat) (hc : CodeIn w a len) : Calls Try.prog 43 #[.slice a len cap] w (MatPr w) := by
  have HC := Lib.hid hc
  clear hc
  go_enter Try.func43, Try.ntmps43
  go_wp2_with fail
  refine (l1New _ a len cap (HC.out.below ((Below.refl _ _).alloc (Nat.le_refl _) _))).mono ?_
  rintro e w1 ⟨cb, rfl, hcb, hc1, hb1⟩
  have CB : w.heap.size < cb := by simp at hcb; omega
  have K2 : Hid (Blk3 w1 w.heap.size 26 (.int .i64 0) (.int .i64 0) (.slice none 0 0)) := (Blk3.at_ _ _ _ _ rfl).keep hb1 (by simp)
  have F1 : Hid (FrS (fun k => w.heap.size ≤ k) w w1) := ((FrS.refl _ w).alloc _).trans (FrS.of_below hb1)
  have C1 := Lib.hid hc1
  have CL := hc1.lt
  clear hcb hc1 hb1
  go_wp2_with fail
  refine (l3Square _ cb C1.out).mono ?_
  rintro e w2 ⟨r, c, v, xs, rfl, own, hl, hc2, hf⟩
  have s1 := F1.out.size
  have K2 := Lib.hid (K2.out.frs hf (by have := K2.out.lt; omega))
  have F2 := Lib.hid (F1.out.trans (hf.mono2 (q := fun k => w.heap.size ≤ k) (fun k _ hk => by omega)))
  obtain ⟨q, qc, rfl, en⟩ : ∃ (q : Option Addr) (qc : Nat), v = .slice q xs.length qc ∧ True := by
    obtain ⟨q, qc, h, -, -⟩ := (own.own (by omega)).form
    exact ⟨q, qc, h, trivial⟩
  have O2 := Lib.hid own
  have HL := Lib.hid hl
  have C2 := Lib.hid hc2
  clear own hc2 hf en hl
  go_wp2_with fail
  refine (l8Prime _ cb C2.out).mono ?_
  rintro e w3 ⟨p, hp, rfl, hc3, hg3⟩
  have HP := Lib.hid hp
  have K2 := Lib.hid (K2.out.keepOne hg3 (by omega))
  have O2 := Lib.hid (O2.out.frs (FrS.of_one (p := fun k => k = cb) hg3 rfl) (fun k hk e => by omega))
  have F3 := Lib.hid (F2.out.trans (FrS.of_one hg3 (show w.heap.size ≤ cb by omega)))
  clear hp hc3 hg3
  obtain ⟨y0, y1, y2, y3, y4, y5⟩ := K2.out.all
  go_wp2_with fail
  obtain ⟨E0, E1, E2, -, -, -⟩ := (((K2.out.set0 (.int .i64 r)).set1 (.int .i64 c)).set2 (.slice q xs.length qc)).all
  exact bodyPost_ret (v := .tuple #[.agg #[.int .i64 r, .int .i64 c, .slice q xs.length qc], .int .i64 p]) (by simp [results, Try.results43, go_sem, E0, E1, E2]) rfl
    ⟨r, c, q, qc, xs, p, rfl, (((O2.out.out3 K2.out (.int .i64 r) (.int .i64 c) _).own (by have := HL.out; omega)).le (by omega)), HL.out, HP.out, (F3.out.set3 (.inl (Nat.le_refl _)) _ _ _).below (fun k hk => hk) (Nat.le_refl _)⟩

set_option maxHeartbeats 1000000 in
theorem drawDetM (w : World) (a : Option Addr) (len cap : Nat) (hc : CodeIn w a len) : Calls Try.prog 13 #[.slice a len cap] w (MatPr w) := by
  have HC := Lib.hid hc
  clear hc
  go_enter Try.func13, Try.ntmps13
  go_wp2_with fail
  refine (l8Square _ a len cap (HC.out.below ((Below.refl _ _).alloc (Nat.le_refl _) _))).mono ?_
  rintro e w1 ⟨r, c, q, qc, xs, p, rfl, own, hl, hp, hb1⟩
  have K2 : Hid (Blk3 w1 w.heap.size 26 (.int .i64 0) (.int .i64 0) (.slice none 0 0)) := (Blk3.at_ _ _ _ _ rfl).keep hb1 (by simp)
  have F1 : Hid (FrS (fun k => w.heap.size ≤ k) w w1) := ((FrS.refl _ w).alloc _).trans (FrS.of_below hb1)
  have O2 := Lib.hid own
  have HL := Lib.hid hl
  have HP := Lib.hid hp
  clear own hl hp hb1
  obtain ⟨y0, y1, y2, y3, y4, y5⟩ := K2.out.all
  go_wp2_with fail
  obtain ⟨E0, E1, E2, -, -, -⟩ := (((K2.out.set0 (.int .i64 r)).set1 (.int .i64 c)).set2 (.slice q xs.length qc)).all
  exact bodyPost_ret (v := .tuple #[.agg #[.int .i64 r, .int .i64 c, .slice q xs.length qc], .int .i64 p]) (by simp [results, Try.results13, go_sem, E0, E1, E2]) rfl
    ⟨r, c, q, qc, xs, p, rfl, (((O2.out.far (by simp) _).far (by simp) _).far (by simp) _).le (by simp), HL.out, HP.out, (F1.out.set3 (.inl (Nat.le_refl _)) _ _ _).below (fun k hk => hk) (Nat.le_refl _)⟩
end Go.Proofs.Ytncplikadacjnaa
end

section
/-
  Plain mathematics of chapter 8: ranks and determinants over residues are images; inverses. Nothing of a program is used.
-/
namespace Go.Proofs.Ytncplikadacjnaa

/-- What divides all of a list of numbers, with what is left. -/
theorem gcd_left {n : Nat} {l : Nat → Int} (h : ∃ i, i < n ∧ l i ≠ 0) : ∃ (g : Int) (m : Nat → Int), 0 < g ∧ (∀ i, i < n → l i = g * m i) ∧ ∀ d : Int, 2 ≤ d → ∃ i, i < n ∧ ¬ d ∣ m i := by
  obtain ⟨i0, hi0, hl0⟩ := h
  -- the greatest common divisor of the first k
  have key : ∀ k, ∃ g : Int, 0 ≤ g ∧ (∀ i, i < k → g ∣ l i) ∧ ∀ d : Int, (∀ i, i < k → d ∣ l i) → d ∣ g := by
    intro k
    induction k with
    | zero => exact ⟨0, Int.le_refl _, fun i hi => absurd hi (Nat.not_lt_zero i), fun d _ => Int.dvd_zero d⟩
    | succ k ih =>
      obtain ⟨g, h0, h1, h2⟩ := ih
      refine ⟨(g.gcd (l k) : Int), Int.natCast_nonneg _, fun i hi => ?_, fun d hd => Int.dvd_coe_gcd (h2 d fun i hi => hd i (by omega)) (hd k (by omega))⟩
      rcases Nat.lt_or_ge i k with h3 | h3
      · exact Int.dvd_trans (Int.gcd_dvd_left ..) (h1 i h3)
      · obtain rfl : i = k := by omega
        exact Int.gcd_dvd_right ..
  obtain ⟨g, h0, h1, h2⟩ := key n
  have hg : g ≠ 0 := fun e => hl0 (by have := h1 i0 hi0; rw [e] at this; exact Int.zero_dvd.mp this)
  refine ⟨g, fun i => l i / g, by omega, fun i hi => (Int.mul_ediv_cancel' (h1 i hi)).symm, fun d hd => Classical.byContradiction fun hno => ?_⟩
  have h3 : g * d ∣ g := h2 _ fun i hi => by
    have h4 : d ∣ l i / g := Classical.byContradiction fun h5 => hno ⟨i, hi, h5⟩
    obtain ⟨e, he⟩ := h4
    exact ⟨e, by rw [Int.mul_assoc, ← he]; exact (Int.mul_ediv_cancel' (h1 i hi)).symm⟩
  obtain ⟨e, he⟩ := h3
  have h5 : g * (d * e) = g * 1 := by rw [Int.mul_one, ← Int.mul_assoc]; exact he.symm
  have h6 : d * e = 1 := Int.eq_of_mul_eq_mul_left hg h5
  have h7 : d = 1 := Int.eq_one_of_mul_eq_one_right (by omega) h6
  omega
/-- Over the residues of a prime, a matrix has no greater rank than over the rational numbers. -/
theorem rank_image {p : Int} (hp : Prm p) {r c t s : Nat} {M A B : Mx} {q : Nat → Nat} {q' : Nat → Nat} (hA : Ech r c A q t) (hMA : SubSp r r c M A) (hB : RefP r c B q' s) (hBM : SubP p r r c B M) : s ≤ t := by
  refine Classical.byContradiction fun hlt => ?_
  have hst : t < s := by omega
  have hsr := hB.le
  -- the rows of B as combinations of those of M
  have hK : ∀ i, ∃ k : Nat → Int, i < s → ∀ j, j < c → Cg p (B i j) (sumN r fun a => k a * M a j) := fun i => by
    by_cases hi : i < s
    · obtain ⟨k, hk⟩ := hBM i (by omega)
      exact ⟨k, fun _ => hk⟩
    · exact ⟨fun _ => 0, fun h => absurd h hi⟩
  have hK' := Classical.skolem.mp hK
  obtain ⟨K, hKK⟩ := hK'
  -- those rows lie in the span of A's first t rows, over one denominator
  have hF : SubSp s r c (fun i j => sumN r fun a => K i a * M a j) A := fun i _ => InSp.comb (V := M) (k := K i) (fun a ha => hMA a ha)
  obtain ⟨d, C, hd, hC⟩ := one_den hF
  obtain ⟨l, hl0, hl⟩ := ker_some t s C hst
  have hz : ∀ j, j < c → (sumN s fun i => l i * sumN r fun a => K i a * M a j) = 0 := fun j hj => by
    have h1 : d * (sumN s fun i => l i * sumN r fun a => K i a * M a j) = 0 := by
      rw [sumN_mul_left]
      have e1 : (sumN s fun i => d * (l i * sumN r fun a => K i a * M a j)) = sumN s fun i => sumN r fun b => l i * C i b * A b j := sumN_congr fun i hi => by
        have := hC i j hi hj
        rw [show d * (l i * sumN r fun a => K i a * M a j) = l i * (d * sumN r fun a => K i a * M a j) by grind, this, sumN_mul_left]
        exact sumN_congr fun b _ => by rw [Int.mul_assoc]
      rw [e1, sumN_swap]
      refine sumN_all_zero fun b hb => ?_
      rw [← sumN_mul]
      rcases Nat.lt_or_ge b t with h2 | h2
      · rw [hl b h2, Int.zero_mul]
      · rw [hA.rest b j h2 hb hj, Int.mul_zero]
    exact (Int.mul_eq_zero.mp h1).resolve_left hd
  obtain ⟨g, m, hg, hm, hd2⟩ := gcd_left hl0
  have hz2 : ∀ j, j < c → (sumN s fun i => m i * sumN r fun a => K i a * M a j) = 0 := fun j hj => by
    have h1 : g * (sumN s fun i => m i * sumN r fun a => K i a * M a j) = 0 := by
      rw [← hz j hj, sumN_mul_left]
      exact sumN_congr fun i hi => by rw [hm i hi, Int.mul_assoc]
    exact (Int.mul_eq_zero.mp h1).resolve_left (by omega)
  obtain ⟨i, hi, hno⟩ := hd2 p hp.1
  refine hno ?_
  -- the pivot's column of row i
  have hc := hB.col i hi
  have e2 : Cg p (sumN s fun a => m a * B a (q' i)) 0 := by
    rw [← hz2 _ hc]
    exact Cg.sum fun a ha => Cg.mul_left (m a) (hKK a ha _ hc)
  rw [sumN_one (a := i) hi (fun a ha hne => by rw [hB.only i a hi (by omega) hne, Int.mul_zero]), hB.one i hi, Int.mul_one] at e2
  exact Cg.zero.mp e2
end Go.Proofs.Ytncplikadacjnaa
end

section
/-
  Chapter 6, in the model: IsSquare.
-/
namespace Go.Proofs.Ytncplikadacjnaa
open Go.RowKit

def isSq (r c : Int) (xs : List Int) : Bool := isMat r c xs && decide (r = c) && decide (r ≤ 6)
end Go.Proofs.Ytncplikadacjnaa
end

section
/-
  Chapter 6, in the model: DeterminantOf, IsUnimodular.
-/
namespace Go.Proofs.Ytncplikadacjnaa
open Go.RowKit

/-- What DeterminantOf answers. -/
def detOf (r c : Int) (xs : List Int) : Int × Bool := if isSq r c xs = true then detM r.toNat xs else (0, false)
theorem isSq_says {r c : Int} {xs : List Int} (h : isSq r c xs = true) : ∃ n : Nat, r = n ∧ c = n ∧ n ≤ 6 ∧ xs.length = n * n ∧ nums xs = true := by
  unfold isSq at h
  simp only [Bool.and_eq_true, decide_eq_true_eq] at h
  obtain ⟨⟨h1, h2⟩, h3⟩ := h
  obtain ⟨⟨r1, r2⟩, -, l, nx⟩ := isMat_says h1
  obtain ⟨n, rfl⟩ := Int.eq_ofNat_of_zero_le r1
  subst h2
  exact ⟨n, rfl, rfl, by omega, by rw [← Int.natCast_mul] at l; omega, nx⟩
/-- What IsUnimodular answers. -/
def uniB (r c : Int) (xs : List Int) : Bool := (detOf r c xs).2 && decide ((detOf r c xs).1 = 1 ∨ (detOf r c xs).1 = -1)
theorem detOf_num (r c : Int) (xs : List Int) : NumP (detOf r c xs).1 := by
  unfold detOf
  split
  · unfold detM
    split
    · exact ⟨by decide, by decide⟩
    · rename_i h
      exact (detB_or _ _).resolve_left h
  · exact ⟨by decide, by decide⟩
end Go.Proofs.Ytncplikadacjnaa
end

section
/-
  Plain mathematics: a row that is filled from the left.
-/
namespace Go.Proofs.Ytncplikadacjnaa

/-- What has been filled in up to k. -/
def upto (n k : Nat) (f : Nat → Int) : List Int := (List.range n).map fun i => if i < k then f i else 0
theorem upto_length (n k : Nat) (f : Nat → Int) : (upto n k f).length = n := by simp [upto]
theorem upto_zero (n : Nat) (f : Nat → Int) : upto n 0 f = List.replicate n 0 := by
  apply List.ext_getElem (by simp [upto])
  intro i h1 h2
  simp [upto]
theorem upto_all (n : Nat) (f : Nat → Int) : upto n n f = (List.range n).map f := by
  apply List.ext_getElem (by simp [upto])
  intro i h1 h2
  have : i < n := by simpa [upto] using h1
  simp [upto, this]
theorem upto_at (n k : Nat) (f : Nat → Int) : (upto n k f).getD k 0 = 0 := by
  unfold upto List.getD
  rcases Nat.lt_or_ge k n with h | h
  · simp [h]
  · simp [h]
theorem upto_step (n k : Nat) (f : Nat → Int) : (upto n k f).set k (f k) = upto n (k + 1) f := by
  apply List.ext_getElem (by simp [upto])
  intro i h1 h2
  have hi : i < n := by simpa [upto] using h2
  rw [List.getElem_set]
  by_cases e : k = i
  · subst e; simp [upto]
  · simp only [e, if_false]
    simp only [upto, List.getElem_map, List.getElem_range]
    by_cases h3 : i < k
    · rw [if_pos h3, if_pos (by omega)]
    · rw [if_neg h3, if_neg (by omega)]
end Go.Proofs.Ytncplikadacjnaa
end

section
/-
  Plain mathematics of chapter 3: what a product and a matrix turned over are. Nothing of a program is used.
-/
namespace Go.Proofs.Ytncplikadacjnaa
open Go.RowKit

def turnL (R C : Nat) (xs : List Int) : List Int := tab C R fun j i => xs.getD (i * C + j) 0
/-- What is turned over so far: rows below i, and of row i the columns below j. -/
def Turned (R C : Nat) (xs : List Int) (i j : Nat) (zs : List Int) : Prop :=
  zs.length = C * R ∧ (∀ i' j' : Nat, i' < i → j' < C → zs.getD (j' * R + i') 0 = xs.getD (i' * C + j') 0) ∧ (∀ j' : Nat, j' < j → zs.getD (j' * R + i) 0 = xs.getD (i * C + j') 0)
theorem Turned.start (R C : Nat) (xs : List Int) : Turned R C xs 0 0 (List.replicate (C * R) 0) := ⟨by simp, fun _ _ h => absurd h (by omega), fun _ h => absurd h (by omega)⟩
theorem Turned.step {R C : Nat} {xs zs : List Int} {i j : Nat} (h : Turned R C xs i j zs) (hi : i < R) (hj : j < C) : Turned R C xs i (j + 1) (zs.set (j * R + i) (xs.getD (i * C + j) 0)) := by
  obtain ⟨hl, h1, h2⟩ := h
  have hb : j * R + i < zs.length := by rw [hl]; exact idx_lt hj hi
  refine ⟨by rw [List.length_set]; exact hl, fun i' j' hi' hj' => ?_, fun j' hj' => ?_⟩
  · rw [getD_set _ _ _ _ hb, if_neg (fun e => by have := (idx_inj (by omega) hi e).2; omega)]
    exact h1 i' j' hi' hj'
  · rw [getD_set _ _ _ _ hb]
    by_cases e : j' = j
    · subst e; rw [if_pos rfl]
    · rw [if_neg (fun h => e (idx_inj hi hi h).1)]
      exact h2 j' (by omega)
theorem Turned.row {R C : Nat} {xs zs : List Int} {i : Nat} (h : Turned R C xs i C zs) : Turned R C xs (i + 1) 0 zs := by
  obtain ⟨hl, h1, h2⟩ := h
  refine ⟨hl, fun i' j' hi' hj' => ?_, fun _ h => absurd h (by omega)⟩
  by_cases e : i' = i
  · subst e; exact h2 j' hj'
  · exact h1 i' j' (by omega) hj'
theorem Turned.whole {R C : Nat} {xs zs : List Int} (h : Turned R C xs R 0 zs) : zs = turnL R C xs := by
  obtain ⟨hl, h1, _⟩ := h
  exact tab_ext hl fun j i hj hi => h1 i j hi hj
/-- The sum of the first k products of row i and column j. -/
def dot (K C : Nat) (xs ys : List Int) (i j : Nat) : Nat → Int
  | 0 => 0
  | k + 1 => dot K C xs ys i j k + xs.getD (i * K + k) 0 * ys.getD (k * C + j) 0
def mulL (R K C : Nat) (xs ys : List Int) : List Int := tab R C fun i j => dot K C xs ys i j K
theorem dot_bd {K C : Nat} {xs ys : List Int} {i j : Nat} (hx : ∀ p : Nat, p < K → NumP (xs.getD (i * K + p) 0)) (hy : ∀ p : Nat, p < K → NumP (ys.getD (p * C + j) 0)) :
    ∀ k : Nat, k ≤ K → -160000000000000000 * (k : Int) ≤ dot K C xs ys i j k ∧ dot K C xs ys i j k ≤ 160000000000000000 * (k : Int) := by
  intro k
  induction k with
  | zero => intro _; simp [dot]
  | succ k ih =>
    intro hk
    have h := ih (by omega)
    have m := mul_num _ _ (hx k (by omega)) (hy k (by omega))
    simp only [dot]
    push_cast
    omega

/-- What is filled in so far, row by row. -/
def Filled (R C : Nat) (f : Nat → Nat → Int) (i j : Nat) (zs : List Int) : Prop :=
  zs.length = R * C ∧ (∀ i' j' : Nat, i' < i → j' < C → zs.getD (i' * C + j') 0 = f i' j') ∧ (∀ j' : Nat, j' < j → zs.getD (i * C + j') 0 = f i j')
theorem Filled.start (R C : Nat) (f : Nat → Nat → Int) : Filled R C f 0 0 (List.replicate (R * C) 0) := ⟨by simp, fun _ _ h => absurd h (by omega), fun _ h => absurd h (by omega)⟩
theorem Filled.step {R C : Nat} {f : Nat → Nat → Int} {zs : List Int} {i j : Nat} (h : Filled R C f i j zs) (hi : i < R) (hj : j < C) : Filled R C f i (j + 1) (zs.set (i * C + j) (f i j)) := by
  obtain ⟨hl, h1, h2⟩ := h
  have hb : i * C + j < zs.length := by rw [hl]; exact idx_lt hi hj
  refine ⟨by rw [List.length_set]; exact hl, fun i' j' hi' hj' => ?_, fun j' hj' => ?_⟩
  · rw [getD_set _ _ _ _ hb, if_neg (fun e => by have := (idx_inj hj' hj e).1; omega)]
    exact h1 i' j' hi' hj'
  · rw [getD_set _ _ _ _ hb]
    by_cases e : j' = j
    · subst e; rw [if_pos rfl]
    · rw [if_neg (fun h => e (idx_inj (by omega) hj h).2)]
      exact h2 j' (by omega)
theorem Filled.row {R C : Nat} {f : Nat → Nat → Int} {zs : List Int} {i : Nat} (h : Filled R C f i C zs) : Filled R C f (i + 1) 0 zs := by
  obtain ⟨hl, h1, h2⟩ := h
  refine ⟨hl, fun i' j' hi' hj' => ?_, fun _ h => absurd h (by omega)⟩
  by_cases e : i' = i
  · subst e; exact h2 j' hj'
  · exact h1 i' j' (by omega) hj'
theorem Filled.whole {R C : Nat} {f : Nat → Nat → Int} {zs : List Int} (h : Filled R C f R 0 zs) : zs = tab R C f := tab_ext h.1 fun i j hi hj => h.2.1 i j hi hj
def mulM (r c : Int) (xs : List Int) (r' c' : Int) (ys : List Int) : MR := if (isMat r c xs && isMat r' c' ys && decide (c = r')) = true then MR.done r c' (mulL r.toNat c.toNat c'.toNat xs ys) else MR.no
def turnM (r c : Int) (xs : List Int) : MR := if isMat r c xs = true then ⟨true, c, r, turnL r.toNat c.toNat xs⟩ else MR.no
def addL (xs ys : List Int) : List Int := (List.range xs.length).map fun i => xs.getD i 0 + ys.getD i 0
def addM (r c : Int) (xs : List Int) (r' c' : Int) (ys : List Int) : MR := if (isMat r c xs && isMat r' c' ys && decide (r = r' ∧ c = c')) = true then MR.done r c (addL xs ys) else MR.no

def scaleL (xs : List Int) (q : Int) : List Int := (List.range xs.length).map fun i => xs.getD i 0 * q
def scaleM (r c : Int) (xs : List Int) (q : Int) : MR := if (isMat r c xs && decide (NumP q)) = true then MR.done r c (scaleL xs q) else MR.no

end Go.Proofs.Ytncplikadacjnaa
end

section
/-
  Plain mathematics of chapter 6: elimination without fractions over lists of cells ends in the determinant. Nothing of a program is used.
-/
namespace Go.Proofs.Ytncplikadacjnaa

/-- The first row from p on (k rows are left) whose cell in column t is not 0; n if there is none. -/
def findP (n t : Nat) (xs : List Int) : Nat → Nat → Nat
  | 0, p => p
  | k + 1, p => if xs.getD (p * n + t) 0 = 0 then findP n t xs k (p + 1) else p
theorem findP_eq {n t : Nat} {xs : List Int} {q : Nat} (h2 : q ≤ n) (hn : q < n → xs.getD (q * n + t) 0 ≠ 0) : ∀ {k p : Nat}, p + k = n → p ≤ q → (∀ r, p ≤ r → r < q → xs.getD (r * n + t) 0 = 0) → findP n t xs k p = q := by
  intro k
  induction k with
  | zero => intro p hk h1 _; show p = q; omega
  | succ k ih =>
    intro p hk h1 hz
    show (if xs.getD (p * n + t) 0 = 0 then _ else p) = q
    rcases Nat.lt_or_ge p q with h | h
    · rw [if_pos (hz p (Nat.le_refl _) h)]
      exact ih (by omega) (by omega) fun r h3 h4 => hz r (by omega) h4
    · obtain rfl : p = q := by omega
      rw [if_neg (hn (by omega))]
def pivP (n t : Nat) (xs : List Int) : Nat := findP n t xs (n - t) t
theorem pivP_eq {n t q : Nat} {xs : List Int} (ht : t ≤ q) (h2 : q ≤ n) (hz : ∀ r, t ≤ r → r < q → xs.getD (r * n + t) 0 = 0) (hn : q < n → xs.getD (q * n + t) 0 ≠ 0) : pivP n t xs = q := findP_eq h2 hn (by omega) ht hz
theorem findP_says {n t : Nat} {xs : List Int} : ∀ {k p : Nat}, p + k = n → p ≤ findP n t xs k p ∧ findP n t xs k p ≤ n ∧ (∀ r, p ≤ r → r < findP n t xs k p → xs.getD (r * n + t) 0 = 0) ∧ (findP n t xs k p < n → xs.getD (findP n t xs k p * n + t) 0 ≠ 0) := by
  intro k
  induction k with
  | zero => intro p hk; exact ⟨Nat.le_refl _, by show p ≤ n; omega, fun r h1 h2 => absurd h2 (by show ¬ r < p; omega), fun h => absurd h (by show ¬ p < n; omega)⟩
  | succ k ih =>
    intro p hk
    by_cases h : xs.getD (p * n + t) 0 = 0
    · have e : findP n t xs (k + 1) p = findP n t xs k (p + 1) := if_pos h
      rw [e]
      obtain ⟨h1, h2, h3, h4⟩ := ih (p := p + 1) (by omega)
      refine ⟨by omega, h2, fun r h5 h6 => ?_, h4⟩
      rcases Nat.lt_or_ge p r with h7 | h7
      · exact h3 r h7 h6
      · obtain rfl : r = p := by omega
        exact h
    · have e : findP n t xs (k + 1) p = p := if_neg h
      rw [e]
      exact ⟨Nat.le_refl _, by omega, fun r h1 h2 => by omega, fun _ => h⟩
theorem pivP_says {n t : Nat} {xs : List Int} (ht : t ≤ n) : t ≤ pivP n t xs ∧ pivP n t xs ≤ n ∧ (∀ r, t ≤ r → r < pivP n t xs → xs.getD (r * n + t) 0 = 0) ∧ (pivP n t xs < n → xs.getD (pivP n t xs * n + t) 0 ≠ 0) := findP_says (by omega)
/-- The pivot's row is swapped with row t. -/
def pvL (n t : Nat) (xs : List Int) : List Int := if pivP n t xs = t then xs else opL 0 (pivP n t xs) t 0 n xs
/-- What a cell becomes in the step of row t. -/
def elAt (n t : Nat) (last : Int) (xs : List Int) (i j : Nat) : Int := (xs.getD (i * n + j) 0 * xs.getD (t * n + t) 0 - xs.getD (i * n + t) 0 * xs.getD (t * n + j) 0).tdiv last
def elL (n t : Nat) (last : Int) (xs : List Int) : List Int := tab n n fun i j => if t < i ∧ t < j then elAt n t last xs i j else xs.getD (i * n + j) 0
/-- k steps from row t on: the determinant and true, or 0 and false where a cell is beyond the limit. -/
def stR2 (n : Nat) : Nat → Nat → List Int → Int → Int → Int × Bool
  | 0, _, _, last, s => (s * last, true)
  | k + 1, t, xs, last, s =>
    if pivP n t xs = n then (0, true)
    else if nums (elL n t last (pvL n t xs)) = true then stR2 n k (t + 1) (elL n t last (pvL n t xs)) ((pvL n t xs).getD (t * n + t) 0) (if pivP n t xs = t then s else -s)
    else (0, false)
theorem stR2_none {n k t : Nat} {xs : List Int} {last s : Int} (h : pivP n t xs = n) : stR2 n (k + 1) t xs last s = (0, true) := if_pos h
theorem stR2_bad {n k t : Nat} {xs : List Int} {last s : Int} (h : pivP n t xs ≠ n) (h2 : nums (elL n t last (pvL n t xs)) ≠ true) : stR2 n (k + 1) t xs last s = (0, false) := by
  show (if _ then _ else if _ then _ else _) = _
  rw [if_neg h, if_neg h2]
theorem stR2_on {n k t : Nat} {xs : List Int} {last s : Int} (h : pivP n t xs ≠ n) (h2 : nums (elL n t last (pvL n t xs)) = true) : stR2 n (k + 1) t xs last s = stR2 n k (t + 1) (elL n t last (pvL n t xs)) ((pvL n t xs).getD (t * n + t) 0) (if pivP n t xs = t then s else -s) := by
  show (if _ then _ else if _ then _ else _) = _
  rw [if_neg h, if_pos h2]
theorem opL_swap {n p t i j : Nat} {xs : List Int} (hx : xs.length = n * n) (hi : i < n) (hj : j < n) : (opL 0 p t 0 n xs).getD (i * n + j) 0 = xs.getD ((if i = p then t else if i = t then p else i) * n + j) 0 := by
  have hp : i * n + j < xs.length := by rw [hx]; exact idx_lt hi hj
  unfold opL
  simp only [List.getD, List.getElem?_map, List.getElem?_range hp, Option.map_some, Option.getD_some]
  unfold opAt
  rw [if_pos rfl, idx_div hj, idx_mod hj]
  by_cases h1 : i = p
  · rw [if_pos h1, if_pos h1]; rfl
  · rw [if_neg h1, if_neg h1]
    by_cases h2 : i = t
    · rw [if_pos h2, if_pos h2]; rfl
    · rw [if_neg h2, if_neg h2]; rfl
theorem pvL_length (n t : Nat) (xs : List Int) : (pvL n t xs).length = xs.length := by unfold pvL; split; rfl; exact opL_length _ _ _ _ _ _
theorem pvL_at {n t i j : Nat} {xs : List Int} (hx : xs.length = n * n) (hi : i < n) (hj : j < n) : (pvL n t xs).getD (i * n + j) 0 = xs.getD ((if i = t then pivP n t xs else if i = pivP n t xs then t else i) * n + j) 0 := by
  unfold pvL
  by_cases h : pivP n t xs = t
  · rw [if_pos h, h]
    by_cases h1 : i = t
    · rw [if_pos h1, h1]
    · rw [if_neg h1, if_neg h1]
  · rw [if_neg h, opL_swap hx hi hj]
    by_cases h1 : i = t
    · rw [if_pos h1, if_neg (fun e => h (by rw [← e, h1])), if_pos h1]
    · rw [if_neg h1]
      by_cases h2 : i = pivP n t xs
      · rw [if_pos h2, if_neg h1]
      · rw [if_neg h2, if_neg h1]
theorem swR_self (A : Mx) (r : Nat) : swR A r r = A := by
  funext i j
  unfold swR
  by_cases h : i = r
  · rw [if_pos h, h]
  · rw [if_neg h, if_neg h]
/-- The steps end in the determinant. -/
theorem steps_det (n : Nat) (D : Int) (k : Nat) : ∀ (t : Nat) (xs : List Int) (last s : Int) (B : Mx) (d : Int), t + k = n → xs.length = n * n →
    (∀ i j, t ≤ i → i < n → t ≤ j → j < n → xs.getD (i * n + j) 0 = bm t i j B) → last = det t B → last ≠ 0 → s * det n B = D → stR2 n k t xs last s = (d, true) → d = D := by
  induction k with
  | zero =>
    intro t xs last s B d hk _ _ hl _ hD h
    obtain rfl : t = n := by omega
    have h : s * last = d := congrArg Prod.fst h
    rw [← h, hl, hD]
  | succ k ih =>
    intro t xs last s B d hk hx hc hl hl0 hD h
    obtain ⟨p1, p2, p3, p4⟩ := pivP_says (n := n) (t := t) (xs := xs) (by omega)
    have d0 : det t B ≠ 0 := by rw [← hl]; exact hl0
    by_cases hp : pivP n t xs = n
    · rw [stR2_none hp] at h
      have hz := no_pivot (n := n) B (by omega) d0 fun i h1 h2 => by rw [← hc i t h1 h2 (Nat.le_refl _) (by omega)]; exact p3 i h1 (by omega)
      have h : (0 : Int) = d := congrArg Prod.fst h
      rw [← h, ← hD, hz, Int.mul_zero]
    · by_cases hn : nums (elL n t last (pvL n t xs)) = true
      · rw [stR2_on hp hn] at h
        have hpn : pivP n t xs < n := by omega
        have hb := p4 hpn
        obtain ⟨p, hpe⟩ : ∃ p, pivP n t xs = p := ⟨_, rfl⟩
        have hy : ∀ i j, t ≤ i → i < n → t ≤ j → j < n → (pvL n t xs).getD (i * n + j) 0 = bm t i j (swR B t p) := fun i j h1 h2 h3 h4 => by
          rw [pvL_at hx h2 h4, hpe, bm_swap B (by omega)]
          rw [hpe] at p1 hpn
          by_cases e1 : i = t
          · rw [if_pos e1]; exact hc p j p1 hpn h3 h4
          · rw [if_neg e1]
            by_cases e2 : i = p
            · rw [if_pos e2]; exact hc t j (Nat.le_refl _) (by omega) h3 h4
            · rw [if_neg e2]; exact hc i j h1 h2 h3 h4
        have hd : det t (swR B t p) = det t B := det_swap_low B (by omega)
        have ht : t < n := by omega
        have htt := hy t t (Nat.le_refl _) ht (Nat.le_refl _) ht
        refine ih (t + 1) _ _ _ (swR B t p) d (by omega) (tab_length _ _ _) (fun i j h1 h2 h3 h4 => ?_) ?_ ?_ ?_ h
        · show (tab n n fun i j => if t < i ∧ t < j then elAt n t last (pvL n t xs) i j else (pvL n t xs).getD (i * n + j) 0).getD (i * n + j) 0 = _
          rw [tab_at n n _ h2 h4, if_pos ⟨h1, h3⟩]
          unfold elAt
          rw [hy i j (by omega) h2 (by omega) h4, htt, hy i t (by omega) h2 (Nat.le_refl _) ht, hy t j (Nat.le_refl _) ht (by omega) h4, hl, ← hd]
          have sy := sylvester t i j (swR B t p) (by rw [hd]; exact d0)
          rw [Int.mul_comm (bm t i j _), ← sy]
          exact Int.mul_tdiv_cancel_left _ (by rw [hd]; exact d0)
        · rw [htt, bm_diag]
        · rw [pvL_at hx ht ht, if_pos rfl]; exact hb
        · rw [hpe]
          by_cases e : p = t
          · rw [if_pos e, e, swR_self]; exact hD
          · rw [if_neg e, alt_swap (det_lin n) (det_alt n) (fun h => e h.symm) ht (by omega) B, Int.mul_neg, Int.neg_mul, Int.neg_neg]; exact hD
      · rw [stR2_bad hp hn] at h
        exact absurd (congrArg Prod.snd h) (by simp)
/-- What DeterminantBySteps answers, for a square matrix. -/
def stepsM (n : Nat) (xs : List Int) : Int × Bool := stR2 n n 0 xs 1 1
theorem stepsM_det {n : Nat} {xs : List Int} {d : Int} (hx : xs.length = n * n) (h : stepsM n xs = (d, true)) : d = det n (mxL n xs) :=
  steps_det n _ n 0 xs 1 1 (mxL n xs) d (by omega) hx (fun i j _ _ _ _ => (bm_zero i j (mxL n xs)).symm) rfl (by decide) (Int.one_mul _) h
end Go.Proofs.Ytncplikadacjnaa
end

section
/-
  What SameMatrix answers.
-/
namespace Go.Proofs.Ytncplikadacjnaa


/-- SameMatrix. -/
def sameM (r c : Int) (xs : List Int) (r' c' : Int) (ys : List Int) : Bool := decide (r = r' ∧ c = c' ∧ xs = ys)
end Go.Proofs.Ytncplikadacjnaa
end

section
/-
  Plain mathematics of chapter 3: products and matrices turned over. Nothing of a program is used.
-/
namespace Go.Proofs.Ytncplikadacjnaa

theorem turnL_length (R C : Nat) (xs : List Int) : (turnL R C xs).length = C * R := tab_length _ _ _
theorem turnL_at (R C : Nat) (xs : List Int) {i j : Nat} (hi : i < R) (hj : j < C) : (turnL R C xs).getD (j * R + i) 0 = xs.getD (i * C + j) 0 := by
  unfold turnL
  rw [tab_at C R _ hj hi]
theorem mulL_length (R K C : Nat) (xs ys : List Int) : (mulL R K C xs ys).length = R * C := tab_length _ _ _
theorem mulL_at (R K C : Nat) (xs ys : List Int) {i j : Nat} (hi : i < R) (hj : j < C) : (mulL R K C xs ys).getD (i * C + j) 0 = dot K C xs ys i j K := by
  unfold mulL
  rw [tab_at R C _ hi hj]
theorem turn_turn (R C : Nat) (xs : List Int) (h : xs.length = R * C) : turnL C R (turnL R C xs) = xs := by
  unfold turnL
  rw [eq_comm]
  refine tab_ext h fun i j hi hj => ?_
  exact (turnL_at R C xs hi hj).symm
theorem dot_turn (R K C : Nat) (xs ys : List Int) {i j : Nat} (hi : i < C) (hj : j < R) : ∀ k : Nat, k ≤ K → dot K R (turnL K C ys) (turnL R K xs) i j k = dot K C xs ys j i k := by
  intro k
  induction k with
  | zero => intro _; rfl
  | succ k ih =>
    intro hk
    show dot K R (turnL K C ys) (turnL R K xs) i j k + (turnL K C ys).getD (i * K + k) 0 * (turnL R K xs).getD (k * R + j) 0 = dot K C xs ys j i k + xs.getD (j * K + k) 0 * ys.getD (k * C + i) 0
    rw [ih (by omega), turnL_at K C ys (by omega) hi, turnL_at R K xs hj (by omega), Int.mul_comm]
theorem mul_turn (R K C : Nat) (xs ys : List Int) : mulL C K R (turnL K C ys) (turnL R K xs) = turnL R C (mulL R K C xs ys) := by
  unfold turnL
  refine tab_ext (mulL_length _ _ _ _ _) fun i j hi hj => ?_
  have h1 := mulL_at C K R (turnL K C ys) (turnL R K xs) hi hj
  rw [mulL_at R K C xs ys hj hi]
  unfold turnL at h1
  rw [h1]
  exact dot_turn R K C xs ys hi hj K (Nat.le_refl _)
theorem nums_of {zs : List Int} (h : ∀ q : Nat, q < zs.length → NumP (zs.getD q 0)) : nums zs = true := nums_true h
theorem isMat_turn {R C : Nat} {xs : List Int} (h : isMat R C xs = true) : isMat C R (turnL R C xs) = true := by
  obtain ⟨h1, h2, h3, h4⟩ := isMat_says h
  have hl : xs.length = R * C := by rw [← Int.natCast_mul] at h3; omega
  have hn : nums (turnL R C xs) = true := nums_of fun q hq => by
    rw [turnL_length] at hq
    have hR : 0 < R := by
      rcases Nat.eq_zero_or_pos R with e | e
      · rw [e, Nat.mul_zero] at hq; omega
      · exact e
    have hj : q / R < C := Nat.div_lt_of_lt_mul (by rw [Nat.mul_comm]; exact hq)
    have hi : q % R < R := Nat.mod_lt q hR
    have e : q / R * R + q % R = q := by rw [Nat.mul_comm]; exact Nat.div_add_mod q R
    rw [← e, turnL_at R C xs hi hj]
    exact nums_at h4 (by rw [hl]; exact idx_lt hi hj)
  unfold isMat
  rw [decide_eq_true (show SizeP (C : Int) from h2), decide_eq_true (show SizeP (R : Int) from h1), hn, decide_eq_true (show (((turnL R C xs).length : Nat) : Int) = (C : Int) * (R : Int) by rw [turnL_length, Int.natCast_mul])]
  rfl
/-- A product is none, or all is known of it. -/
theorem mul_cases (r c : Int) (xs : List Int) (r' c' : Int) (ys : List Int) : mulM r c xs r' c' ys = MR.no ∨
    ∃ R K C : Nat, r = R ∧ c = K ∧ r' = K ∧ c' = C ∧ isMat R K xs = true ∧ isMat K C ys = true ∧ isMat R C (mulL R K C xs ys) = true ∧ mulM r c xs r' c' ys = ⟨true, R, C, mulL R K C xs ys⟩ := by
  unfold mulM
  by_cases h : (isMat r c xs && isMat r' c' ys && decide (c = r')) = true
  · rw [if_pos h]
    simp only [Bool.and_eq_true, decide_eq_true_eq] at h
    obtain ⟨⟨h1, h2⟩, rfl⟩ := h
    obtain ⟨⟨a1, -⟩, ⟨a2, -⟩, -, -⟩ := isMat_says h1
    obtain ⟨-, ⟨a3, -⟩, -, -⟩ := isMat_says h2
    obtain ⟨R, rfl⟩ := Int.eq_ofNat_of_zero_le a1
    obtain ⟨K, rfl⟩ := Int.eq_ofNat_of_zero_le a2
    obtain ⟨C, rfl⟩ := Int.eq_ofNat_of_zero_le a3
    simp only [Int.toNat_natCast]
    unfold MR.done
    by_cases h3 : isMat R C (mulL R K C xs ys) = true
    · rw [if_pos h3]
      exact .inr ⟨R, K, C, rfl, rfl, rfl, rfl, h1, h2, h3, rfl⟩
    · rw [if_neg h3]
      exact .inl rfl
  · rw [if_neg h]
    exact .inl rfl
theorem turnM_ok {R C : Nat} {xs : List Int} (h : isMat R C xs = true) : turnM R C xs = ⟨true, C, R, turnL R C xs⟩ := by
  unfold turnM
  rw [if_pos h]
  simp only [Int.toNat_natCast]
theorem mulM_ok {R K C : Nat} {xs ys : List Int} (h : isMat R K xs = true) (h' : isMat K C ys = true) (h3 : isMat R C (mulL R K C xs ys) = true) : mulM R K xs K C ys = ⟨true, R, C, mulL R K C xs ys⟩ := by
  unfold mulM MR.done
  rw [h, h', decide_eq_true rfl]
  simp only [Int.toNat_natCast, Bool.and_true, if_true]
  rw [if_pos h3]
theorem sameM_self (r c : Int) (zs : List Int) : sameM r c zs r c zs = true := decide_eq_true ⟨rfl, rfl, rfl⟩
end Go.Proofs.Ytncplikadacjnaa
end

section
/-
  Plain mathematics of chapter 3: products can be grouped in any way, and distribute over sums. Nothing of a program is used.
-/
namespace Go.Proofs.Ytncplikadacjnaa

theorem dot_sum (K C : Nat) (xs ys : List Int) (i j : Nat) : ∀ n : Nat, dot K C xs ys i j n = sumN n (fun k => xs.getD (i * K + k) 0 * ys.getD (k * C + j) 0) := by
  intro n
  induction n with
  | zero => rfl
  | succ n ih => show dot K C xs ys i j n + _ = _; rw [ih]; rfl
theorem mul_assoc (R K C D : Nat) (xs ys zs : List Int) : mulL R C D (mulL R K C xs ys) zs = mulL R K D xs (mulL K C D ys zs) := by
  refine tab_ext (mulL_length _ _ _ _ _) fun i j hi hj => ?_
  rw [mulL_at R C D _ _ hi hj, dot_sum, dot_sum]
  have h1 : sumN C (fun k => (mulL R K C xs ys).getD (i * C + k) 0 * zs.getD (k * D + j) 0) = sumN C (fun k => sumN K (fun l => xs.getD (i * K + l) 0 * ys.getD (l * C + k) 0 * zs.getD (k * D + j) 0)) := by
    refine sumN_congr fun k hk => ?_
    rw [mulL_at R K C xs ys hi hk, dot_sum, sumN_mul]
  have h2 : sumN K (fun l => xs.getD (i * K + l) 0 * (mulL K C D ys zs).getD (l * D + j) 0) = sumN K (fun l => sumN C (fun k => xs.getD (i * K + l) 0 * ys.getD (l * C + k) 0 * zs.getD (k * D + j) 0)) := by
    refine sumN_congr fun l hl => ?_
    rw [mulL_at K C D ys zs hl hj, dot_sum, sumN_mul_left]
    exact sumN_congr fun k _ => (Int.mul_assoc _ _ _).symm
  rw [h1, h2, sumN_swap]
theorem addL_at (xs ys : List Int) (i : Nat) (h : i < xs.length) : (addL xs ys).getD i 0 = xs.getD i 0 + ys.getD i 0 := by
  simp [addL, List.getD, h]
theorem addL_length (xs ys : List Int) : (addL xs ys).length = xs.length := by simp [addL]
theorem scale_two (xs : List Int) : scaleL xs 2 = addL xs xs := by
  unfold scaleL addL
  refine List.map_congr_left fun i _ => ?_
  omega
theorem mul_double (R K C : Nat) (xs ys : List Int) (hy : ys.length = K * C) : mulL R K C xs (addL ys ys) = addL (mulL R K C xs ys) (mulL R K C xs ys) := by
  refine list_eq (n := R * C) (mulL_length _ _ _ _ _) (by rw [addL_length, mulL_length]) fun p hp => ?_
  have hC : 0 < C := by
    rcases Nat.eq_zero_or_pos C with e | e
    · rw [e, Nat.mul_zero] at hp; omega
    · exact e
  have hi : p / C < R := Nat.div_lt_of_lt_mul (by rw [Nat.mul_comm]; exact hp)
  have hj : p % C < C := Nat.mod_lt p hC
  have e : p / C * C + p % C = p := by rw [Nat.mul_comm]; exact Nat.div_add_mod p C
  rw [addL_at _ _ _ (by rw [mulL_length]; exact hp)]
  rw [← e, mulL_at R K C xs _ hi hj, mulL_at R K C xs ys hi hj, dot_sum, dot_sum, ← sumN_add]
  refine sumN_congr fun k hk => ?_
  rw [addL_at _ _ _ (by rw [hy]; exact idx_lt hk hj), Int.mul_add]
/-- Products can be grouped in any way. -/
theorem ring_assoc {R K C : Nat} {xs ys zs : List Int} {r c : Int} {y z w : MR}
    (hy : mulM R C (mulL R K C xs ys) r c zs = y) (hz : mulM K C ys r c zs = z) (hw : mulM R K xs z.r z.c z.zs = w) (oy : y.ok = true) (oz : z.ok = true) (ow : w.ok = true) : y = w := by
  rcases mul_cases R C (mulL R K C xs ys) r c zs with h | ⟨R', C', D, e1, e2, e3, e4, -, m2, -, h⟩
  · rw [h] at hy; rw [← hy] at oy; cases oy
  obtain rfl : R = R' := by omega
  obtain rfl : C = C' := by omega
  subst e3 e4
  rw [h] at hy
  rcases mul_cases K C ys C D zs with h' | ⟨K', C'', D', e1, e2, e3, e4, -, -, m3, h'⟩
  · rw [h'] at hz; rw [← hz] at oz; cases oz
  obtain rfl : K = K' := by omega
  obtain rfl : C = C'' := by omega
  obtain rfl : D = D' := by omega
  rw [h'] at hz
  rw [← hz] at hw
  dsimp only at hw
  rcases mul_cases R K xs K D (mulL K C D ys zs) with h'' | ⟨R'', K'', D'', e1, e2, e3, e4, -, -, -, h''⟩
  · rw [h''] at hw; rw [← hw] at ow; cases ow
  rw [← hy, ← hw, h'', mul_assoc]
  obtain rfl : R = R'' := by omega
  obtain rfl : K = K'' := by omega
  obtain rfl : D = D'' := by omega
  rfl
theorem add_cases {R C : Nat} {xs : List Int} (h : isMat R C xs = true) : addM R C xs R C xs = MR.no ∨ (addM R C xs R C xs = ⟨true, R, C, addL xs xs⟩ ∧ isMat R C (addL xs xs) = true) := by
  unfold addM MR.done
  rw [h, decide_eq_true (show (R : Int) = R ∧ (C : Int) = C from ⟨rfl, rfl⟩)]
  simp only [Bool.and_self, if_true]
  by_cases h2 : isMat R C (addL xs xs) = true
  · rw [if_pos h2]; exact .inr ⟨rfl, h2⟩
  · rw [if_neg h2]; exact .inl rfl
/-- Products distribute over sums. -/
theorem ring_dist {R K C : Nat} {xs ys : List Int} (h2 : isMat K C ys = true) (h3 : isMat R C (mulL R K C xs ys) = true) {s t u v : MR}
    (hs : addM K C ys K C ys = s) (ht : mulM R K xs s.r s.c s.zs = t) (hu : addM R C (mulL R K C xs ys) R C (mulL R K C xs ys) = u) (hv : scaleM R C (mulL R K C xs ys) 2 = v)
    (os : s.ok = true) (ot : t.ok = true) (ou : u.ok = true) : t = u ∧ u = v := by
  have ly : ys.length = K * C := by
    obtain ⟨-, -, l, -⟩ := isMat_says h2
    rw [← Int.natCast_mul] at l; omega
  rcases add_cases h2 with h | ⟨h, m⟩
  · rw [h] at hs; rw [← hs] at os; cases os
  rw [h] at hs
  rcases add_cases h3 with h' | ⟨h', m'⟩
  · rw [h'] at hu; rw [← hu] at ou; cases ou
  rw [h'] at hu
  have hv2 : v = ⟨true, R, C, addL (mulL R K C xs ys) (mulL R K C xs ys)⟩ := by
    rw [← hv]
    unfold scaleM MR.done
    rw [h3, scale_two, decide_eq_true (show NumP 2 by unfold NumP; omega)]
    simp only [Bool.and_self, if_true]
    rw [if_pos m']
  rw [← hs] at ht
  dsimp only at ht
  rcases mul_cases R K xs K C (addL ys ys) with h'' | ⟨R'', K'', C'', e1, e2, e3, e4, -, -, -, h''⟩
  · rw [h''] at ht; rw [← ht] at ot; cases ot
  rw [h''] at ht
  obtain rfl : R = R'' := by omega
  obtain rfl : K = K'' := by omega
  obtain rfl : C = C'' := by omega
  refine ⟨?_, ?_⟩
  · rw [← ht, ← hu, mul_double R K C xs ys ly]
  · rw [← hu, hv2]
end Go.Proofs.Ytncplikadacjnaa
end

section
/-
  Chapter 5, in the model: DoRowOp.
-/
namespace Go.Proofs.Ytncplikadacjnaa
set_option maxRecDepth 100000
open Go.RowKit

def opM (k i j t r c : Int) (xs : List Int) : MR := if (isMat r c xs && isOp k i j t r) = true then MR.done r c (opL k i.toNat j.toNat t c.toNat xs) else MR.no
theorem isOp_says {k i j t r : Int} (h : isOp k i j t r = true) : (k = 0 ∨ k = 1 ∨ k = 2) ∧ (0 ≤ r ∧ r ≤ 24) ∧ (0 ≤ i ∧ i < r) ∧ (0 ≤ j ∧ j < r) ∧ NumP t ∧ (k = 0 → i ≠ j) := by
  unfold isOp rangeOp at h
  simp only [Bool.and_eq_true, decide_eq_true_eq] at h
  obtain ⟨⟨⟨⟨⟨h1, h2⟩, h3⟩, h4⟩, h5⟩, h6⟩ := h
  refine ⟨by omega, h2, by omega, by omega, h5, ?_⟩
  rintro rfl
  simp at h6
  exact fun e => h6.1 e.symm
end Go.Proofs.Ytncplikadacjnaa
end

section
/-
  Plain mathematics of chapter 5: an operation on rows without marks. Nothing of a program is used.
-/
namespace Go.Proofs.Ytncplikadacjnaa
open Go.RowKit

theorem isOp_rows0 {i j t r : Int} (h : isOp 0 i j t r = true) : i ≠ j := by
  unfold isOp at h; simp at h; exact fun e => h.2.1 e.symm
theorem isOp_rows1 {i j t r : Int} (h : isOp 1 i j t r = true) : i = j := by
  unfold isOp at h; simp at h; exact h.2.1.symm
theorem isOp_rows2 {i j t r : Int} (h : isOp 2 i j t r = true) : i ≠ j := by
  unfold isOp at h; simp at h; exact fun e => h.2 e.symm
/-- The columns before q are done. -/
def colTo (f : Nat → Int) (C : Nat) (xs : List Int) (q : Nat) : List Int := (List.range xs.length).map fun p => if p % C < q then f p else xs.getD p 0
theorem colTo_length (f : Nat → Int) (C : Nat) (xs : List Int) (q : Nat) : (colTo f C xs q).length = xs.length := by simp [colTo]
theorem colTo_getD (f : Nat → Int) (C : Nat) (xs : List Int) (q p : Nat) (hp : p < xs.length) : (colTo f C xs q).getD p 0 = if p % C < q then f p else xs.getD p 0 := by
  simp [colTo, List.getD, hp]
theorem colTo_zero (f : Nat → Int) (C : Nat) (xs : List Int) : colTo f C xs 0 = xs := by
  refine list_getD (colTo_length _ _ _ _) fun p hp => ?_
  rw [colTo_length] at hp
  rw [colTo_getD _ _ _ _ _ hp, if_neg (by omega)]
theorem colTo_all (f : Nat → Int) (C : Nat) (xs : List Int) (h : xs.length = 0 ∨ 0 < C) : colTo f C xs C = (List.range xs.length).map f := by
  unfold colTo
  refine List.map_congr_left fun p hp => ?_
  have hp := List.mem_range.mp hp
  rw [if_pos (Nat.mod_lt p (by omega))]
/-- A column is done by two stores. -/
theorem colTo_two (f : Nat → Int) (I J C R : Nat) (xs : List Int) (q : Nat) (a b : Int) (hl : xs.length = R * C) (hI : I < R) (hJ : J < R) (hq : q < C)
    (hb : f (J * C + q) = b) (ha : I ≠ J → f (I * C + q) = a) (hr : ∀ p, p / C ≠ I → p / C ≠ J → f p = xs.getD p 0) :
    ((colTo f C xs q).set (I * C + q) a).set (J * C + q) b = colTo f C xs (q + 1) := by
  have a1 : I * C + q < xs.length := by rw [hl]; exact idx_lt hI hq
  have a2 : J * C + q < xs.length := by rw [hl]; exact idx_lt hJ hq
  refine list_getD (by rw [List.length_set, List.length_set, colTo_length, colTo_length]) fun p hp => ?_
  rw [List.length_set, List.length_set, colTo_length] at hp
  rw [getD_set _ _ _ _ (by rw [List.length_set, colTo_length]; exact a2), getD_set _ _ _ _ (by rw [colTo_length]; exact a1), colTo_getD _ _ _ _ _ hp, colTo_getD _ _ _ _ _ hp]
  by_cases e : p % C = q
  · have sp := split_idx e
    rw [if_pos (show p % C < q + 1 by omega), if_neg (show ¬ p % C < q by omega)]
    by_cases e2 : p / C = J
    · have : p = J * C + q := by rw [← e2]; exact sp
      rw [if_pos this, this, hb]
    · rw [if_neg (fun h => e2 (by rw [h, idx_div hq]))]
      by_cases e1 : p / C = I
      · have : p = I * C + q := by rw [← e1]; exact sp
        rw [if_pos this, this, ha (fun h => e2 (by rw [e1, h]))]
      · rw [if_neg (fun h => e1 (by rw [h, idx_div hq])), hr p e1 e2]
  · rw [if_neg (fun h => e (by rw [h, idx_mod hq])), if_neg (fun h => e (by rw [h, idx_mod hq]))]
    by_cases e2 : p % C < q
    · rw [if_pos e2, if_pos (by omega)]
    · rw [if_neg e2, if_neg (by omega)]
/-- What the cell p becomes, without marks. -/
def rwAt (k : Int) (I J : Nat) (t : Int) (C : Nat) (xs : List Int) (p : Nat) : Int :=
  if k = 0 then (if p / C = I then xs.getD (J * C + p % C) 0 else if p / C = J then xs.getD (I * C + p % C) 0 else xs.getD p 0)
  else if k = 1 then (if p / C = I then - xs.getD p 0 else xs.getD p 0)
  else (if p / C = I then xs.getD p 0 + xs.getD (J * C + p % C) 0 * t else xs.getD p 0)
/-- What is added is a number, in the columns before q. -/
def prodTo (k : Int) (J : Nat) (t : Int) (C : Nat) (xs : List Int) (q : Nat) : Prop := k = 2 → ∀ s, s < q → NumP (xs.getD (J * C + s) 0 * t)
theorem prodTo_zero (k : Int) (J : Nat) (t : Int) (C : Nat) (xs : List Int) : prodTo k J t C xs 0 := fun _ s hs => absurd hs (by omega)
theorem prodTo_succ {k : Int} {J : Nat} {t : Int} {C : Nat} {xs : List Int} {q : Nat} (h : prodTo k J t C xs q) (h2 : k = 2 → NumP (xs.getD (J * C + q) 0 * t)) : prodTo k J t C xs (q + 1) := fun hk s hs => by
  rcases Nat.lt_or_ge s q with h3 | h3
  · exact h hk s h3
  · obtain rfl : s = q := by omega
    exact h2 hk
theorem rw_swap (I J : Nat) (t : Int) (C R : Nat) (xs : List Int) (q : Nat) (hl : xs.length = R * C) (hI : I < R) (hJ : J < R) (hq : q < C) (hIJ : I ≠ J) :
    ((colTo (rwAt 0 I J t C xs) C xs q).set (I * C + q) (xs.getD (J * C + q) 0)).set (J * C + q) (xs.getD (I * C + q) 0) = colTo (rwAt 0 I J t C xs) C xs (q + 1) := by
  refine colTo_two _ I J C R xs q _ _ hl hI hJ hq ?_ (fun _ => ?_) fun p h1 h2 => ?_
  · unfold rwAt; rw [if_pos rfl, idx_div hq, idx_mod hq, if_neg (fun h => hIJ h.symm), if_pos rfl]
  · unfold rwAt; rw [if_pos rfl, idx_div hq, idx_mod hq, if_pos rfl]
  · unfold rwAt; rw [if_pos rfl, if_neg h1, if_neg h2]
theorem rw_neg (I : Nat) (t : Int) (C R : Nat) (xs : List Int) (q : Nat) (hl : xs.length = R * C) (hI : I < R) (hq : q < C) :
    ((colTo (rwAt 1 I I t C xs) C xs q).set (I * C + q) (- xs.getD (I * C + q) 0)).set (I * C + q) (- xs.getD (I * C + q) 0) = colTo (rwAt 1 I I t C xs) C xs (q + 1) := by
  refine colTo_two _ I I C R xs q _ _ hl hI hI hq ?_ (fun h => absurd rfl h) fun p h1 h2 => ?_
  · unfold rwAt; rw [if_neg (by decide), if_pos rfl, idx_div hq, if_pos rfl]
  · unfold rwAt; rw [if_neg (by decide), if_pos rfl, if_neg h1]
theorem rw_add (I J : Nat) (t : Int) (C R : Nat) (xs : List Int) (q : Nat) (hl : xs.length = R * C) (hI : I < R) (hJ : J < R) (hq : q < C) (hIJ : I ≠ J) :
    ((colTo (rwAt 2 I J t C xs) C xs q).set (I * C + q) (xs.getD (I * C + q) 0 + xs.getD (J * C + q) 0 * t)).set (J * C + q) (xs.getD (J * C + q) 0) = colTo (rwAt 2 I J t C xs) C xs (q + 1) := by
  refine colTo_two _ I J C R xs q _ _ hl hI hJ hq ?_ (fun _ => ?_) fun p h1 h2 => ?_
  · unfold rwAt; rw [if_neg (by decide), if_neg (by decide), idx_div hq, if_neg (fun h => hIJ h.symm)]
  · unfold rwAt; rw [if_neg (by decide), if_neg (by decide), idx_div hq, idx_mod hq, if_pos rfl]
  · unfold rwAt; rw [if_neg (by decide), if_neg (by decide), if_neg h1]
theorem fitB_num {z : Int} (h : NumP z) : fitB z = z := by unfold fitB; rw [if_pos h]
theorem bad_ne {z : Int} (h : NumP z) : z ≠ badN := by unfold NumP at h; unfold badN; omega
theorem wrap_small {z : Int} (h : -1000000000000000000 ≤ z ∧ z ≤ 1000000000000000000) : wrap64 z = z := IntWalk.wrap64_in _ (by omega)
theorem mulB_num {a b : Int} (ha : NumP a) (hb : NumP b) : mulB a b = fitB (a * b) := by
  unfold mulB
  have := mul_num a b ha hb
  rw [if_neg (fun h => h.elim (bad_ne ha) (bad_ne hb)), wrap_small (by omega)]
theorem addB_num {a b : Int} (ha : NumP a) (hb : NumP b) : addB a b = fitB (a + b) := by
  unfold addB
  obtain ⟨a1, a2⟩ := ha
  obtain ⟨b1, b2⟩ := hb
  rw [if_neg (fun h => h.elim (bad_ne ⟨a1, a2⟩) (bad_ne ⟨b1, b2⟩)), wrap_small (by omega)]
theorem addB_bad (a : Int) : addB a badN = badN := by unfold addB; rw [if_pos (.inr rfl)]
theorem NumP_neg {a : Int} (h : NumP a) : NumP (-a) := by unfold NumP at *; omega
theorem nums_def {xs : List Int} (h : nums xs = true) (p : Nat) : NumP (xs.getD p 0) := by
  rcases Nat.lt_or_ge p xs.length with h1 | h1
  · exact nums_at h h1
  · simp [List.getD, h1, NumP]
theorem opAt_raw (k : Int) (I J : Nat) (t : Int) (C : Nat) (xs : List Int) (p : Nat) (hk : k = 0 ∨ k = 1 ∨ k = 2) (hx : nums xs = true) (ht : NumP t) (hp : k = 2 → p / C = I → NumP (xs.getD (J * C + p % C) 0 * t)) :
    opAt k I J t C xs p = fitB (rwAt k I J t C xs p) := by
  unfold opAt rwAt
  rcases hk with rfl | rfl | rfl
  · rw [if_pos rfl, if_pos rfl, fitB_num]
    by_cases e1 : p / C = I
    · rw [if_pos e1]; exact nums_def hx _
    · rw [if_neg e1]
      by_cases e2 : p / C = J
      · rw [if_pos e2]; exact nums_def hx _
      · rw [if_neg e2]; exact nums_def hx _
  · simp only [show (1 : Int) ≠ 0 by decide, if_false, if_true]
    by_cases e1 : p / C = I
    · rw [if_pos e1, if_pos e1, mulB_num (nums_def hx _) (by decide), Int.mul_neg, Int.mul_one]
    · rw [if_neg e1, if_neg e1, fitB_num (nums_def hx _)]
  · simp only [show (2 : Int) ≠ 0 by decide, show (2 : Int) ≠ 1 by decide, if_false]
    by_cases e1 : p / C = I
    · rw [if_pos e1, if_pos e1, mulB_num (nums_def hx _) ht, fitB_num (hp rfl e1), addB_num (nums_def hx _) (hp rfl e1)]
    · rw [if_neg e1, if_neg e1, fitB_num (nums_def hx _)]
theorem fitB_bad {z : Int} (h : ¬ NumP z) : fitB z = badN := by unfold fitB; rw [if_neg h]
theorem bad_not : ¬ NumP badN := by decide
/-- Marks or none: the result is the same. -/
theorem done_fit (r c : Int) (f g : Nat → Int) (n : Nat) (h : ∀ p, p < n → f p = fitB (g p)) : MR.done r c ((List.range n).map f) = MR.done r c ((List.range n).map g) := by
  by_cases hn : nums ((List.range n).map g) = true
  · have : (List.range n).map f = (List.range n).map g := by
      refine List.map_congr_left fun p hp => ?_
      have hp := List.mem_range.mp hp
      have := nums_at hn (j := p) (by simpa using hp)
      rw [h p hp, fitB_num]
      simpa [List.getD, hp] using this
    rw [this]
  · have hf : nums ((List.range n).map f) = false := by
      rcases Bool.eq_false_or_eq_true (nums ((List.range n).map f)) with hf | hf
      · refine absurd (nums_true fun p hp => ?_) hn
        have hp' : p < n := by simpa using hp
        have := nums_at hf (j := p) (by simpa using hp')
        simp only [List.getD, List.getElem?_map, List.getElem?_range hp', Option.map_some, Option.getD_some] at this ⊢
        by_cases hg : NumP (g p)
        · exact hg
        · rw [h p hp', fitB_bad hg] at this
          exact absurd this bad_not
      · exact hf
    have hg : nums ((List.range n).map g) = false := by simpa using hn
    have e1 : isMat r c ((List.range n).map f) = false := by unfold isMat; rw [hf]; simp
    have e2 : isMat r c ((List.range n).map g) = false := by unfold isMat; rw [hg]; simp
    unfold MR.done
    rw [e1, e2]; rfl
theorem rw_done (k : Int) (I J : Nat) (t : Int) (R C : Nat) (xs : List Int) (hk : k = 0 ∨ k = 1 ∨ k = 2) (hl : xs.length = R * C) (hx : nums xs = true) (ht : NumP t) (hp : prodTo k J t C xs C) :
    MR.done R C (opL k I J t C xs) = MR.done R C (colTo (rwAt k I J t C xs) C xs C) := by
  have hC : xs.length = 0 ∨ 0 < C := by
    rcases Nat.eq_zero_or_pos C with h | h
    · left; rw [hl, h, Nat.mul_zero]
    · exact .inr h
  rw [colTo_all _ _ _ hC]
  unfold opL
  refine done_fit _ _ _ _ _ fun p hp' => opAt_raw k I J t C xs p hk hx ht fun h2 _ => hp h2 _ (Nat.mod_lt p ?_)
  omega
/-- What is added is beyond the limit in one column: nothing is done. -/
theorem rw_over (I J : Nat) (t : Int) (R C : Nat) (xs : List Int) (q : Nat) (hl : xs.length = R * C) (hI : I < R) (hq : q < C) (hx : nums xs = true) (ht : NumP t) (hb : ¬ NumP (xs.getD (J * C + q) 0 * t)) :
    MR.done R C (opL 2 I J t C xs) = MR.no := by
  have hi : I * C + q < xs.length := by rw [hl]; exact idx_lt hI hq
  have e : (opL 2 I J t C xs).getD (I * C + q) 0 = badN := by
    unfold opL
    simp only [List.getD, List.getElem?_map, List.getElem?_range hi, Option.map_some, Option.getD_some]
    rw [opAt_two _ _ _ _ _ hq, mulB_num (nums_def hx _) ht, fitB_bad hb, addB_bad]
  have e2 : nums (opL 2 I J t C xs) = false := nums_false (j := I * C + q) (by rw [opL_length]; exact hi) (by rw [e]; exact bad_not)
  unfold MR.done isMat
  rw [e2]; simp
end Go.Proofs.Ytncplikadacjnaa
end

section
/-
  Chapter 3, in the model: IdentityMatrix.
-/
namespace Go.Proofs.Ytncplikadacjnaa
open Go.RowKit

/-- Zeros, and ones in the first k places of the diagonal. -/
def idL (n k : Nat) : List Int := (List.range (n * n)).map fun j => if j % (n + 1) = 0 ∧ j < k * (n + 1) then 1 else 0
theorem idL_length (n k : Nat) : (idL n k).length = n * n := by simp [idL]
theorem idL_zero (n : Nat) : idL n 0 = List.replicate (n * n) 0 := by
  apply List.ext_getElem (by simp [idL])
  intro i h1 h2
  simp [idL]
theorem idL_at (n k : Nat) : (idL n k).getD (k * n + k) 0 = 0 := by
  have e : k * n + k = k * (n + 1) := (Nat.mul_succ k n).symm
  rw [e]
  unfold idL List.getD
  rcases Nat.lt_or_ge (k * (n + 1)) (n * n) with h | h
  · simp [h]
  · simp [h]
theorem idL_step (n k : Nat) : (idL n k).set (k * n + k) 1 = idL n (k + 1) := by
  have e : k * n + k = k * (n + 1) := (Nat.mul_succ k n).symm
  rw [e]
  apply List.ext_getElem (by simp [idL])
  intro i h1 h2
  have hi : i < n * n := by simpa [idL] using h2
  rw [List.getElem_set]
  by_cases hk : k * (n + 1) = i
  · rw [if_pos hk]
    have h3 : i % (n + 1) = 0 := by rw [← hk]; exact Nat.mul_mod_left _ _
    have h4 : i < (k + 1) * (n + 1) := by rw [← hk, Nat.succ_mul]; omega
    simp [idL, h3, h4]
  · rw [if_neg hk]
    have h5 : (i % (n + 1) = 0 ∧ i < k * (n + 1)) ↔ (i % (n + 1) = 0 ∧ i < (k + 1) * (n + 1)) := by
      constructor
      · rintro ⟨a, b⟩; exact ⟨a, by rw [Nat.succ_mul]; omega⟩
      · rintro ⟨a, b⟩
        refine ⟨a, ?_⟩
        obtain ⟨q, hq⟩ := Nat.dvd_of_mod_eq_zero a
        rw [Nat.mul_comm] at hq
        rw [hq] at b ⊢
        have := Nat.lt_of_mul_lt_mul_right b
        have hne : q ≠ k := by rintro rfl; exact hk hq.symm
        exact Nat.mul_lt_mul_of_pos_right (by omega) (by omega)
    simp only [idL, List.getElem_map, List.getElem_range, h5]
def idM (n : Int) : MR := if 0 ≤ n ∧ n ≤ 24 then ⟨true, n, n, idL n.toNat n.toNat⟩ else MR.no

set_option maxHeartbeats 1000000 in
theorem sIdent_t (n : Nat) (w : World) (hn : n ≤ 24) :
    Calls Try.prog 64 #[.int .i64 n] w (MatRes ⟨true, n, n, idL n n⟩ w) := by
  have hle : n * n ≤ 24 * 24 := Nat.mul_le_mul hn hn
  have B0 : ∀ o1, Below w.heap.size w (w.alloc o1) := fun o1 => (Below.refl _ _).alloc (Nat.le_refl _) _
  have BH := Lib.hid B0
  clear B0
  go_enter Try.func64, Try.ntmps64
  go_wp2_with fail
  refine (sIn_t n 0 24 _ (by omega) (by omega)).mono ?_
  rintro e w2 ⟨rfl, rfl⟩
  go_wp2_with fail
  have K2 : Hid (Blk3 (w.alloc (.cells #[.int .i64 0, .int .i64 0, .slice none 0 0] 26)) w.heap.size 26 (.int .i64 0) (.int .i64 0) (.slice none 0 0)) := Blk3.at_ _ _ _ _ rfl
  have B := Lib.hid (BH.out (.cells #[.int .i64 0, .int .i64 0, .slice none 0 0] 26))
  refine (sNew n n _ (by omega) (by omega)).mono ?_
  rintro e w3 ⟨g, rfl, hg, hi, hb⟩
  have l2 := Nat.lt_of_lt_of_le K2.out.lt hg
  clear hg
  obtain ⟨N, hN⟩ : ∃ N, n * n = N := ⟨_, rfl⟩
  have HN := Lib.hid hN
  rw [hN] at hi hle ⊢
  clear hN
  have K2 := Lib.hid (K2.out.keep hb K2.out.lt)
  have B := Lib.hid (B.out.trans (hb.mono B.out.size))
  have I := Lib.hid hi
  have gl := hi.lt
  clear hb hi
  simp only [List.length_replicate]
  have BA : Hid (Below w.heap.size w (w3.alloc (.cells #[.int .i64 n, .int .i64 n, .slice (some ⟨g, 0, none⟩) N N] 26))) := B.out.alloc B.out.size _
  have K2 := Lib.hid (K2.out.old (.cells #[.int .i64 n, .int .i64 n, .slice (some ⟨g, 0, none⟩) N N] 26))
  have K6 : Hid (Blk3 (w3.alloc (.cells #[.int .i64 n, .int .i64 n, .slice (some ⟨g, 0, none⟩) N N] 26)) w3.heap.size 26 (.int .i64 n) (.int .i64 n) (.slice (some ⟨g, 0, none⟩) N N)) := Blk3.at_ _ _ _ _ rfl
  have I := Lib.hid (I.out.old (.cells #[.int .i64 n, .int .i64 n, .slice (some ⟨g, 0, none⟩) N N] 26))
  go_wp2_with fail
  go_loopw [5] (fun i wr => ∃ k : Nat, i = .int .i64 k ∧ k ≤ n ∧ Ints wr g (idL n k) ∧ (w3.alloc (.cells #[.int .i64 n, .int .i64 n, .slice (some ⟨g, 0, none⟩) N N] 26)).grownBy wr (some g)) (fun i _ => n - (intOf i).toNat)
  case atStart => exact ⟨0, rfl, by omega, by rw [idL_zero, HN.out]; exact I.out, World.grownBy.refl _ _⟩
  case round =>
    obtain ⟨k, rfl, hk, hi, hgr⟩ := hrel
    have I := Lib.hid hi
    have G := Lib.hid hgr
    clear hi hgr
    have R2 := Lib.hid (K2.out.keepOne G.out (by omega))
    have R6 := Lib.hid (K6.out.keepOne G.out (by omega))
    obtain ⟨r0, r1, r2, -, -, -⟩ := R6.out.all
    by_cases hlt : k < n
    · have i1 : k * n + k < N := by rw [← HN.out]; exact idx_lt hlt hlt
      have hold := I.out.cell (i := k * n + k) (by rw [idL_length, HN.out]; exact i1)
      rw [idL_at] at hold
      have hfr := I.out.free (k * n + k)
      have c1 : (k : Int) * (n : Int) = ((k * n : Nat) : Int) := (Int.natCast_mul _ _).symm
      have d1 : 0 ≤ (k : Int) * (n : Int) ∧ (k : Int) * (n : Int) ≤ 600 := by rw [c1]; omega
      have e1 : 0 ≤ (k : Int) * (n : Int) + (k : Int) := by omega
      have e2 : (k : Int) * (n : Int) + (k : Int) < (N : Int) := by rw [c1]; omega
      have e3 : ((k : Int) * (n : Int) + (k : Int)).toNat = k * n + k := by rw [c1]; omega
      obtain ⟨d11, d12⟩ := d1
      have v1 : IntKind.i64.wrap ((k : Int) * (n : Int)) = (k : Int) * (n : Int) := IntWalk.i64_in _ (by omega)
      have v2 : IntKind.i64.wrap ((k : Int) * (n : Int) + (k : Int)) = (k : Int) * (n : Int) + (k : Int) := IntWalk.i64_in _ (by omega)
      clear c1
      go_wp2_with fail
      go_roundw
      case rel =>
        refine ⟨k + 1, by go_num, by omega, ?_, ?_⟩
        · rw [← idL_step]
          first | exact I.out.set (k * n + k) _ | exact I.out.drew.set (k * n + k) _
        · first | exact grown_set_one G.out rfl _ | exact grown_drew_one (grown_set_one G.out rfl _)
      case measure => simp [intOf]; omega
    · have hkn : k = n := by omega
      subst hkn
      have BW := Lib.hid (BA.out.trans (below_of_one G.out (by omega) BA.out.size))
      obtain ⟨s0, s1, s2, t0, t1, t2⟩ := R2.out.all
      go_wp2_with fail
      obtain ⟨E0, E1, E2, -, -, -⟩ := (((R2.out.set0 (.int .i64 k)).set1 (.int .i64 k)).set2 (.slice (some ⟨g, 0, none⟩) N N)).all
      refine bodyPost_ret (v := .tuple #[.agg #[.int .i64 k, .int .i64 k, .slice (some ⟨g, 0, none⟩) N N], .bool true]) (by simp [results, Try.results64, go_sem, E0, E1, E2]) rfl ⟨_, rfl, ?_, ?_⟩
      · refine .inr ⟨g, N, by rw [idL_length, HN.out], by omega, ?_, by simp [idL_length, HN.out], by simp [idL_length, HN.out]; omega⟩
        exact ((I.out.far (by show g ≠ w.heap.size; omega) _).far (by show g ≠ w.heap.size; omega) _).far (by show g ≠ w.heap.size; omega) _
      · exact ((BW.out.setCell (Nat.le_refl _) _).setCell (Nat.le_refl _) _).setCell (Nat.le_refl _) _
theorem sIdent (n : Int) (w : World) : Calls Try.prog 64 #[.int .i64 n] w (MatRes (idM n) w) := by
  by_cases h : 0 ≤ n ∧ n ≤ 24
  · obtain ⟨k, rfl⟩ := Int.eq_ofNat_of_zero_le h.1
    have E : idM k = ⟨true, k, k, idL k k⟩ := by unfold idM; rw [if_pos h]; rfl
    rw [E]
    exact sIdent_t k w (by omega)
  · have E : Hid (idM n = MR.no) := by show idM n = _; unfold idM; rw [if_neg h]
    have h' : n < 0 ∨ 24 < n := by omega
    clear h
    have B0 : ∀ o1, Below w.heap.size w (w.alloc o1) := fun o1 => (Below.refl _ _).alloc (Nat.le_refl _) _
    have BH := Lib.hid B0
    clear B0
    go_enter Try.func64, Try.ntmps64
    go_wp2_with fail
    refine (sIn_f n 0 24 _ h').mono ?_
    rintro e w2 ⟨rfl, rfl⟩
    have K2 : Hid (Blk3 (w.alloc (.cells #[.int .i64 0, .int .i64 0, .slice none 0 0] 26)) w.heap.size 26 (.int .i64 0) (.int .i64 0) (.slice none 0 0)) := Blk3.at_ _ _ _ _ rfl
    have B := Lib.hid (BH.out (.cells #[.int .i64 0, .int .i64 0, .slice none 0 0] 26))
    obtain ⟨s0, s1, s2, t0, t1, t2⟩ := K2.out.all
    go_wp2_with fail
    rw [E.out]
    exact bodyPost_ret (v := .tuple #[.agg #[.int .i64 0, .int .i64 0, .slice none 0 0], .bool false]) (by simp [results, Try.results64, go_sem]) rfl ⟨_, rfl, .inl ⟨rfl, rfl⟩, B.out⟩
end Go.Proofs.Ytncplikadacjnaa
end
