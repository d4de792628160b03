/-
  Texts of this seat, joined: Draw · Fr · Draw3 · Draw4 · DrwR · Draw7 · Code · AnyM · DrawP · DrawR · Mix · MixD · InvL · DtS · ShelfE
-/
import Derived.Test.YtcapddcmnjeloaaRows
import Derived.WalkKit
import Derived.BigQuiet
import Derived.Deep.QuietTactic
import Derived.Deep.RegionHeld3
import Derived.Deep.DeepCutAuto
import Derived.StillTailTactics
import Derived.IntWalk
import Derived.ProofKit
import Derived.OpenShut
import Derived.Shelf.Slices.Turned
import Derived.Shelf.Slices.Equal
import Derived.Ground.Names2Prog
import Derived.Shelf.Slices.Clone
import Derived.Shelf.Slices.Empties2
import Derived.Test.YtcapddcmnjeloaaProg
import Derived.Test.YtcapddcmnjeloaaPk1
import Derived.Test.YtcapddcmnjeloaaPk3
import Derived.Test.YtcapddcmnjeloaaPk4
import Derived.Test.YtcapddcmnjeloaaPk5
import Derived.Test.YtcapddcmnjeloaaPk7
import Derived.Test.YtcapddcmnjeloaaPk8
import Derived.Test.YtcapddcmnjeloaaPk9

section
/-
  The drawing of inputs (chapter 1 of the model): the cursor over a code's bytes, and what each drawing function returns: a number in its range, with nothing written but the cursor.
-/
namespace Go.Proofs.Ytcapddcmnjeloaa
open Go.RowKit

/-- The bytes that a slice shows: each in its range, each block older than block cb. -/
def Bytes (w : World) (cb : Nat) (a : Option Addr) (len : Nat) : Prop :=
  ∀ k : Nat, k < len → ∃ (b o : Nat) (z : Int), a = some ⟨b, o, none⟩ ∧ w.cell? ⟨b, o + k, none⟩ = some (.int .u8 z) ∧ 0 ≤ z ∧ z ≤ 255 ∧ b < cb
/-- Block cb is a cursor. -/
def Cur (w : World) (cb : Nat) : Prop :=
  ∃ (a : Option Addr) (len cap i : Nat) (h : Int), Blk3 w cb 93 (.slice a len cap) (.int .i64 i) (.int .i64 h) ∧ i ≤ len ∧ len ≤ maxLen ∧ Bytes w cb a len

/-- An int with the property P is returned, and of all that was there only the cursor has changed. -/
def CurInt (P : Int → Prop) (cb : Nat) (w : World) (e : Ending) (w' : World) : Prop := ∃ r : Int, P r ∧ e = .returned (.int .i64 r) ∧ Cur w' cb ∧ w.grownBy w' (some cb)

theorem Bytes.one {w w' : World} {cb : Nat} {a : Option Addr} {len : Nat} (h : Bytes w cb a len) (hg : w.grownBy w' (some cb)) : Bytes w' cb a len := fun k hk => by
  obtain ⟨b, o, z, ha, hx, h0, h1, hne⟩ := h k hk
  exact ⟨b, o, z, ha, hg.cell hx (by simp; omega), h0, h1, hne⟩
theorem and255 (x : Int) : 0 ≤ bits .and .i64 x 255 ∧ bits .and .i64 x 255 ≤ 255 := by
  have h : (BitVec.ofInt 64 x &&& BitVec.ofInt 64 255).toNat ≤ 255 := by rw [BitVec.toNat_and]; exact Nat.le_trans Nat.and_le_right (by decide)
  show 0 ≤ IntKind.i64.wrap ((BitVec.ofInt 64 x &&& BitVec.ofInt 64 255).toNat : Int) ∧ IntKind.i64.wrap ((BitVec.ofInt 64 x &&& BitVec.ofInt 64 255).toNat : Int) ≤ 255
  rw [IntKind.wrap_i64]
  omega
theorem curInt_end {P : Int → Prop} {w W : World} {cb len cap i : Nat} {a : Option Addr} {h r : Int} (hr : P r) (hb : Blk3 W cb 93 (.slice a len cap) (.int .i64 i) (.int .i64 h))
    (hi : i ≤ len) (hl : len ≤ maxLen) (hby : Bytes w cb a len) (hg : w.grownBy W (some cb)) : CurInt P cb w (.returned (.int .i64 r)) W :=
  ⟨r, hr, rfl, ⟨a, len, cap, i, h, hb, hi, hl, hby.one hg⟩, hg⟩

set_option maxHeartbeats 400000 in
theorem l1Byte (w : World) (cb : Nat) (hc : Cur w cb) :
    Calls Try.prog 111 #[.pointer (some ⟨cb, 0, none⟩)] w (CurInt (fun r => 0 ≤ r ∧ r ≤ 255) cb w) := by
  obtain ⟨a, len, cap, i, h, hb, hi, hl, hby⟩ := hc
  obtain ⟨c0, c1, c2, f0, f1, f2⟩ := hb.all
  have HB := Lib.hid hb
  have HL := Lib.hid hl
  have HY := Lib.hid hby
  unfold maxLen at hl
  by_cases hlt : i < len
  · obtain ⟨xb, xo, z, rfl, hx, hz0, hz1, hne⟩ := hby i hlt
    have hne' : cb ≠ xb := by omega
    clear hb hby
    go_enter Try.func111, Try.ntmps111
    go_wp2_with (fail)
    generalize wrap64 (wrap64 (h * 6364136223846793005) + 1442695040888963407) = h'
    go_quiet (fail)
    go_wp2_with (fail)
    go_quiet (fail)
    go_wp2_with (fail)
    go_quiet (fail)
    go_wp2_with (fail)
    go_ret
    refine curInt_end (cap := cap) (i := i + 1) (h := h') (and255 _) ?_ (by omega) HL.out HY.out ?_
    · exact (((HB.out.set2 _).drewN _).set1 _)
    · repeat (first | exact World.grownBy.refl _ _ | refine grown_set_one ?_ (by exact rfl) _ | refine grown_drewN_one ?_ _)
  · clear hb hby
    have hlt' : decide (i < len) = false := by simpa using hlt
    go_enter Try.func111, Try.ntmps111
    go_wp2_with (fail)
    generalize wrap64 (wrap64 (h * 6364136223846793005) + 1442695040888963407) = h'
    go_quiet (fail)
    go_wp2_with (fail)
    go_quiet (fail)
    go_wp2_with (fail)
    go_ret
    refine curInt_end (cap := cap) (i := i) (h := h') (and255 _) ?_ (by omega) HL.out HY.out ?_
    · first | exact HB.out.set2 _ | exact (HB.out.set2 _).drewN _
    · repeat (first | exact World.grownBy.refl _ _ | refine grown_set_one ?_ (by exact rfl) _ | refine grown_drewN_one ?_ _)

/-- A bool is returned, and of all that was there only the cursor has changed. -/
def CurBool (cb : Nat) (w : World) (e : Ending) (w' : World) : Prop := ∃ r : Bool, e = .returned (.bool r) ∧ Cur w' cb ∧ w.grownBy w' (some cb)
theorem CurInt.mono {P Q : Int → Prop} {cb : Nat} {w w' : World} {e : Ending} (h : CurInt P cb w e w') (k : ∀ r, P r → Q r) : CurInt Q cb w e w' := by
  obtain ⟨r, hr, he, hc, hg⟩ := h
  exact ⟨r, k r hr, he, hc, hg⟩
theorem mod_range (x n : Int) (hn : 0 < n) : 0 ≤ x % n ∧ x % n < n := ⟨Int.emod_nonneg x (by omega), Int.emod_lt_of_pos x hn⟩

set_option maxHeartbeats 400000 in
theorem l1Below_small (w : World) (cb : Nat) (n : Int) (hc : Cur w cb) (h1 : 0 < n) (h2 : n ≤ 256) :
    Calls Try.prog 76 #[.pointer (some ⟨cb, 0, none⟩), .int .i64 n] w (CurInt (fun r => 0 ≤ r ∧ r < n) cb w) := by
  have HC := Lib.hid hc
  clear hc
  have hn : (n == 0) = false := by simp; omega
  go_enter Try.func76, Try.ntmps76
  go_wp2_with (fail)
  refine (l1Byte w cb HC.out).mono ?_
  rintro e w1 ⟨r, ⟨r0, r1⟩, rfl, hc1, hg1⟩
  have C1 := Lib.hid hc1
  have G1 := Lib.hid hg1
  clear hc1 hg1
  go_wp2_with (fail)
  go_ret
  exact ⟨r % n, mod_range r n h1, rfl, C1.out, G1.out⟩

set_option maxHeartbeats 400000 in
theorem l1Below_large (w : World) (cb : Nat) (n : Int) (hc : Cur w cb) (h2 : 256 < n) :
    Calls Try.prog 76 #[.pointer (some ⟨cb, 0, none⟩), .int .i64 n] w (CurInt (fun r => 0 ≤ r ∧ r < n) cb w) := by
  have HC := Lib.hid hc
  clear hc
  have hn : (n == 0) = false := by simp; omega
  go_enter Try.func76, Try.ntmps76
  go_wp2_with (fail)
  refine (l1Byte w cb HC.out).mono ?_
  rintro e w1 ⟨r, ⟨r0, r1⟩, rfl, hc1, hg1⟩
  have C1 := Lib.hid hc1
  have G1 := Lib.hid hg1
  clear hc1 hg1
  go_wp2_with (fail)
  refine (l1Byte w1 cb C1.out).mono ?_
  rintro e w2 ⟨s, ⟨s0, s1⟩, rfl, hc2, hg2⟩
  have C2 := Lib.hid hc2
  have G2 := Lib.hid (G1.out.trans hg2)
  clear hc2 hg2
  go_wp2_with (fail)
  refine (l1Byte w2 cb C2.out).mono ?_
  rintro e w3 ⟨t, ⟨t0, t1⟩, rfl, hc3, hg3⟩
  have C3 := Lib.hid hc3
  have G3 := Lib.hid (G2.out.trans hg3)
  clear hc3 hg3
  go_wp2_with (fail)
  refine (l1Byte w3 cb C3.out).mono ?_
  rintro e w4 ⟨u, ⟨u0, u1⟩, rfl, hc4, hg4⟩
  have C4 := Lib.hid hc4
  have G4 := Lib.hid (G3.out.trans hg4)
  clear hc4 hg4
  go_wp2_with (fail)
  go_ret
  exact ⟨_, mod_range (r * 16777216 + s * 65536 + t * 256 + u) n (by omega), rfl, C4.out, G4.out⟩

theorem l1Below (w : World) (cb : Nat) (n : Int) (hc : Cur w cb) (h1 : 0 < n) :
    Calls Try.prog 76 #[.pointer (some ⟨cb, 0, none⟩), .int .i64 n] w (CurInt (fun r => 0 ≤ r ∧ r < n) cb w) := by
  rcases Int.lt_or_le 256 n with h | h
  · exact l1Below_large w cb n hc h
  · exact l1Below_small w cb n hc h1 h

set_option maxHeartbeats 400000 in
theorem l1Once (w : World) (cb : Nat) (n : Int) (hc : Cur w cb) (h1 : 0 < n) :
    Calls Try.prog 79 #[.pointer (some ⟨cb, 0, none⟩), .int .i64 n] w (CurBool cb w) := by
  have HC := Lib.hid hc
  clear hc
  go_enter Try.func79, Try.ntmps79
  go_wp2_with (fail)
  refine (l1Below w cb n HC.out h1).mono ?_
  rintro e w1 ⟨r, ⟨r0, r1⟩, rfl, hc1, hg1⟩
  have C1 := Lib.hid hc1
  have G1 := Lib.hid hg1
  clear hc1 hg1
  go_wp2_with (fail)
  go_ret
  exact ⟨r == 0, rfl, C1.out, G1.out⟩

/-- A list of ints lies in block lb, each with the property P. -/
def IntList (P : Int → Prop) (w : World) (lb n : Nat) : Prop := ∀ k : Nat, k < n → ∃ z : Int, w.cell? ⟨lb, k, none⟩ = some (.int .i64 z) ∧ P z
theorem IntList.one {P : Int → Prop} {w w' : World} {lb n cb : Nat} (h : IntList P w lb n) (hg : w.grownBy w' (some cb)) (hne : lb ≠ cb) : IntList P w' lb n := fun k hk => by
  obtain ⟨z, hz, hp⟩ := h k hk
  exact ⟨z, hg.cell hz (by simpa using hne), hp⟩

set_option maxHeartbeats 400000 in
theorem l1PickInt (P : Int → Prop) (w : World) (cb lb n : Nat) (hc : Cur w cb) (hl : IntList P w lb n) (h1 : 0 < n) (h2 : n ≤ 1000000) (hne : lb ≠ cb) :
    Calls Try.prog 78 #[.pointer (some ⟨cb, 0, none⟩), .slice (some ⟨lb, 0, none⟩) n n] w (CurInt P cb w) := by
  have HC := Lib.hid hc
  have HL := Lib.hid hl
  clear hc hl
  go_enter Try.func78, Try.ntmps78
  go_wp2_with (fail)
  refine (l1Below w cb n HC.out (by omega)).mono ?_
  rintro e w1 ⟨r, ⟨r0, r1⟩, rfl, hc1, hg1⟩
  obtain ⟨k, rfl⟩ := Int.eq_ofNat_of_zero_le r0
  obtain ⟨z, hz, hp⟩ := (HL.out.one hg1 hne) k (by omega)
  have C1 := Lib.hid hc1
  have G1 := Lib.hid hg1
  have HP := Lib.hid hp
  have hk : k < n := by omega
  clear hc1 hg1 hp
  go_wp2_with (fail)
  go_ret
  exact ⟨z, HP.out, rfl, C1.out, G1.out⟩

theorem IntList.new {P : Int → Prop} (zs : List Int) (hz : ∀ z, z ∈ zs → P z) (w : World) (t : TypeId) : IntList P (w.alloc (.cells (zs.map (Value.int .i64)).toArray t)) w.heap.size zs.length := fun k hk => by
  refine ⟨zs[k], ?_, hz _ (List.getElem_mem hk)⟩
  have e : (w.alloc (.cells (zs.map (Value.int .i64)).toArray t)).heap[w.heap.size]? = some (.cells (zs.map (Value.int .i64)).toArray t) := heap_alloc_new w _
  unfold World.cell?
  rw [e]
  simp [hk]
theorem Cur.lt {w : World} {cb : Nat} (h : Cur w cb) : cb < w.heap.size := by
  obtain ⟨a, len, cap, i, h, hb, _⟩ := h
  exact hb.lt
theorem Cur.grown {w w' : World} {cb : Nat} {row : Option Nat} (hc : Cur w cb) (hg : w.grownBy w' row) (hr : ∀ j, row = some j → w.heap.size ≤ j) : Cur w' cb := by
  obtain ⟨a, len, cap, i, h, hb, hi, hl, hby⟩ := hc
  refine ⟨a, len, cap, i, h, (hg.block cb hb.lt (fun e => by have := hr cb e.symm; have := hb.lt; omega)).trans hb, hi, hl, fun k hk => ?_⟩
  obtain ⟨b, o, z, ha, hx, h0, h1, hne⟩ := hby k hk
  exact ⟨b, o, z, ha, hg.cell hx (fun e => by have := hr b e.symm; have := World.block_lt_of_cell? w _ hx; simp at this; omega), h0, h1, hne⟩
theorem Cur.setFar {w : World} {cb : Nat} (hc : Cur w cb) {x : Addr} (hx : cb < x.block) (u : Value) : Cur (w.setCell x u) cb := by
  obtain ⟨a, len, cap, i, h, hb, hi, hl, hby⟩ := hc
  refine ⟨a, len, cap, i, h, hb.far (by omega) u, hi, hl, fun k hk => ?_⟩
  obtain ⟨b, o, z, ha, hcell, h0, h1, hne⟩ := hby k hk
  exact ⟨b, o, z, ha, (((Below.refl x.block w).setCell (Nat.le_refl _) u).cell (p := ⟨b, o + k, none⟩) (by show b < x.block; omega)).trans hcell, h0, h1, hne⟩
theorem Cur.alloc {w : World} {cb : Nat} (hc : Cur w cb) (o : Obj) : Cur (w.alloc o) cb := hc.grown (World.grownBy_alloc w o none) (by simp)

set_option maxHeartbeats 400000 in
theorem l1Odd (w : World) (cb : Nat) (hc : Cur w cb) :
    Calls Try.prog 112 #[.pointer (some ⟨cb, 0, none⟩)] w (CurInt (fun r => -9223372036854775808 ≤ r ∧ r ≤ 9223372036854775807) cb w) := by
  have HC := Lib.hid hc
  have hlt := hc.lt
  clear hc
  go_enter Try.func112, Try.ntmps112
  go_wp2_with (fail)
  refine (l1PickInt (fun r => -9223372036854775808 ≤ r ∧ r ≤ 9223372036854775807) _ cb w.heap.size 11 (HC.out.alloc _) ?_ (by omega) (by omega) (by omega)).mono ?_
  · exact IntList.new [0, 1, -1, 2, 400000000, -400000000, 400000001, -400000001, 399999999, 9223372036854775807, -9223372036854775808] (by decide) w 3
  rintro e w1 ⟨r, hr, rfl, hc1, hg1⟩
  have C1 := Lib.hid hc1
  have G1 := Lib.hid hg1
  have R := Lib.hid hr
  clear hc1 hg1 hr
  go_wp2_with (fail)
  go_ret
  exact ⟨r, R.out, rfl, C1.out, (World.grownBy_alloc w _ _).trans G1.out⟩

/-- The bytes of a code that came in. -/
def CodeIn (w : World) (a : Option Addr) (len : Nat) : Prop :=
  len ≤ maxLen ∧ ∀ k : Nat, k < len → ∃ (b o : Nat) (z : Int), a = some ⟨b, o, none⟩ ∧ w.cell? ⟨b, o + k, none⟩ = some (.int .u8 z) ∧ 0 ≤ z ∧ z ≤ 255
theorem CodeIn.below {w w' : World} {a : Option Addr} {len : Nat} (h : CodeIn w a len) (hb : Below w.heap.size w w') : CodeIn w' a len :=
  ⟨h.1, fun k hk => by
    obtain ⟨b, o, z, ha, hx, h0, h1⟩ := h.2 k hk
    exact ⟨b, o, z, ha, (hb.cell (World.block_lt_of_cell? w _ hx)).trans hx, h0, h1⟩⟩
/-- A new cursor is returned; of what was there nothing has changed. -/
def CurNew (w : World) (e : Ending) (w' : World) : Prop := ∃ cb : Nat, e = .returned (.pointer (some ⟨cb, 0, none⟩)) ∧ w.heap.size ≤ cb ∧ Cur w' cb ∧ Below w.heap.size w w'

set_option maxHeartbeats 400000 in
theorem l1New (w : World) (a : Option Addr) (len cap : Nat) (hc : CodeIn w a len) :
    Calls Try.prog 38 #[.slice a len cap] w (CurNew w) := by
  have hl := hc.1
  have HC := Lib.hid hc
  clear hc
  unfold maxLen at hl
  go_enter Try.func38, Try.ntmps38
  go_wp2_with (fail)
  generalize wrap64 (10101 + (len : Int)) = q0
  go_loop [3, 4] (fun t s => ∃ (q : Int) (k : Nat), t = .int .i64 q ∧ s = .int .i64 k ∧ k ≤ len ∧ k ≤ 4000) (fun _ s => (len - intOf s).toNat)
  case atStart => exact ⟨q0, 0, rfl, rfl, by omega, by omega⟩
  case round =>
    obtain ⟨q, k, rfl, rfl, hk, hk2⟩ := hrel
    by_cases h1 : k < len
    · by_cases h2 : k < 4000
      · obtain ⟨b, o, z, ha, hx, hz0, hz1⟩ := HC.out.2 k h1
        subst ha
        have h3 : (k : Int) < 4000 := by omega
        have H2 := Lib.hid h2
        have H4 := Lib.hid hk2
        clear h2 hk2
        go_wp2_with (fail)
        go_round
        case rel => exact ⟨_, k + 1, rfl, by go_num, by omega, by have := H2.out; omega⟩
        case measure => simp [intOf]; omega
      · have h3 : decide ((k : Int) < 4000) = false := by simp; omega
        clear h2 hk2
        go_wp2_with (fail)
        go_ret
        refine ⟨w.heap.size, rfl, Nat.le_refl _, ⟨a, len, cap, 0, q, Blk3.new _ _ _ _ _, by omega, HC.out.1, fun j hj => ?_⟩, (Below.refl _ _).alloc (Nat.le_refl _) _⟩
        obtain ⟨b, o, z, ha, hx, hz0, hz1⟩ := HC.out.2 j hj
        have hlt := World.block_lt_of_cell? w _ hx
        exact ⟨b, o, z, ha, (World.grownBy_alloc w _ none).cell hx (by simp), hz0, hz1, by simp at hlt; omega⟩
    · have h1' : decide (k < len) = false := by simpa using h1
      go_wp2_with (fail)
      go_ret
      refine ⟨w.heap.size, rfl, Nat.le_refl _, ⟨a, len, cap, 0, q, Blk3.new _ _ _ _ _, by omega, HC.out.1, fun j hj => ?_⟩, (Below.refl _ _).alloc (Nat.le_refl _) _⟩
      obtain ⟨b, o, z, ha, hx, hz0, hz1⟩ := HC.out.2 j hj
      have hlt := World.block_lt_of_cell? w _ hx
      exact ⟨b, o, z, ha, (World.grownBy_alloc w _ none).cell hx (by simp), hz0, hz1, by simp at hlt; omega⟩

/-- Two ints are returned; of what was there nothing has changed. -/
def TwoInts (P : Int → Int → Prop) (w : World) (e : Ending) (w' : World) : Prop := ∃ r s : Int, P r s ∧ e = .returned (.tuple #[.int .i64 r, .int .i64 s]) ∧ Below w.heap.size w w'

end Go.Proofs.Ytcapddcmnjeloaa
end

section
/-
  Frames: what they keep of a cursor.
-/
namespace Go.Proofs.Ytcapddcmnjeloaa
open Go.RowKit

/-- A new matrix of zeros, of which all is known. -/
theorem sNewC (R C : Nat) (w : World) (hR : R ≤ 4096) (hC : C ≤ 4096) :
    Calls Try.prog 45 #[.int .i64 R, .int .i64 C] w (fun e w' => ∃ g, e = .returned (.agg #[.int .i64 R, .int .i64 C, .slice (some ⟨g, 0, none⟩) (R * C) (R * C)]) ∧ w.heap.size ≤ g ∧ IntsC w' g (R * C) (List.replicate (R * C) 0) ∧ Below w.heap.size w w') := by
  have hm : R * C ≤ 4096 * 4096 := Nat.mul_le_mul hR hC
  have hmk := makeProd R C (by omega)
  have hp1 : (0 : Int) ≤ (R : Int) * (C : Int) := by rw [← Int.natCast_mul]; omega
  have hp2 : (R : Int) * (C : Int) ≤ 16777216 := by rw [← Int.natCast_mul]; omega
  go_enter Try.func45, Try.ntmps45
  go_wp2_with fail
  refine bodyPost_ret (v := .agg #[.int .i64 R, .int .i64 C, .slice (some ⟨w.heap.size + 1, 0, none⟩) (R * C) (R * C)]) (by simp [results, Try.results45, go_sem]) rfl ⟨w.heap.size + 1, rfl, by omega, ?_, ?_⟩
  · exact IntsC.made _ (by omega) (by simp)
  · exact ((Below.refl _ _).alloc (Nat.le_refl _) _).alloc (by simp) _
theorem Cur.frs {w w' : World} {cb : Nat} {p : Nat → Prop} (h : Cur w cb) (hf : FrS p w w') (hb : ∀ k, k ≤ cb → ¬ p k) : Cur w' cb := by
  obtain ⟨a, len, cap, i, x, hk, hi, hl, hby⟩ := h
  refine ⟨a, len, cap, i, x, hk.frs hf (hb _ (Nat.le_refl _)), hi, hl, fun k hkl => ?_⟩
  obtain ⟨b, o, z, ha, hx, h0, h1, hne⟩ := hby k hkl
  have hlt := World.block_lt_of_cell? w _ hx
  exact ⟨b, o, z, ha, (World.cell?_of_block (w := w) (hf.block b (by simpa using hlt) (hb b (by omega)))).trans hx, h0, h1, hne⟩
end Go.Proofs.Ytcapddcmnjeloaa
end

section
/-
  The drawing of matrices: of what was there only the cursor has changed.
-/
namespace Go.Proofs.Ytcapddcmnjeloaa
set_option maxRecDepth 100000
open Go.RowKit

/-! ### l3Draw -/
set_option maxHeartbeats 1000000 in
theorem l3Draw (w : World) (cb R C most : Nat) (hc : Cur w cb) (hR : R ≤ 24) (hC : C ≤ 24) (hm : most ≤ 100) :
    Calls Try.prog 77 #[.pointer (some ⟨cb, 0, none⟩), .int .i64 R, .int .i64 C, .int .i64 most] w (fun e w' => ∃ (g : Nat) (zs : List Int), e = .returned (.agg #[.int .i64 R, .int .i64 C, .slice (some ⟨g, 0, none⟩) (R * C) (R * C)]) ∧ w.heap.size ≤ g ∧ zs.length = R * C ∧ IntsC w' g (R * C) zs ∧ Cur w' cb ∧ w.grownBy w' (some cb)) := by
  have hlt := hc.lt
  have hle : R * C ≤ 24 * 24 := Nat.mul_le_mul hR hC
  have B0 : ∀ o, Below w.heap.size w (w.alloc o) := fun o => (Below.refl _ _).alloc (Nat.le_refl _) o
  have BH := Lib.hid B0
  have C0 := Lib.hid hc
  clear B0 hc
  go_enter Try.func77, Try.ntmps77
  go_wp2_with fail
  refine (sNewC R C _ (by omega) (by omega)).mono ?_
  rintro e w1 ⟨g, rfl, hg, hi, hb⟩
  have hg : w.heap.size < g := by simp at hg; exact hg
  have K2 : Hid (Blk3 w1 w.heap.size 26 (.int .i64 0) (.int .i64 0) (.slice none 0 0)) := (Blk3.at_ _ _ _ _ rfl).keep hb (by simp)
  have F : Hid (FrS (fun k => k = cb ∨ w.heap.size ≤ k) w w1) := (FrS.of_below (BH.out (.cells #[.int .i64 0, .int .i64 0, .slice none 0 0] 26))).trans (FrS.of_below hb)
  have C1 := Lib.hid ((C0.out.alloc (.cells #[.int .i64 0, .int .i64 0, .slice none 0 0] 26)).grown (row := none) (grown_of_below hb _) (by simp))
  obtain ⟨N, hN⟩ : ∃ N, R * C = N := ⟨_, rfl⟩
  have HN := Lib.hid hN
  rw [hN] at hi hle ⊢
  have I1 := Lib.hid hi
  have gl := hi.lt
  have kl := K2.out.lt
  clear hN hi hb C0
  have K2 := Lib.hid (K2.out.old (.cells #[.int .i64 R, .int .i64 C, .slice (some ⟨g, 0, none⟩) N N] 26))
  have K6 : Hid (Blk3 (w1.alloc (.cells #[.int .i64 R, .int .i64 C, .slice (some ⟨g, 0, none⟩) N N] 26)) w1.heap.size 26 (.int .i64 R) (.int .i64 C) (.slice (some ⟨g, 0, none⟩) N N)) := Blk3.at_ _ _ _ _ rfl
  have I1 := Lib.hid (I1.out.old (.cells #[.int .i64 R, .int .i64 C, .slice (some ⟨g, 0, none⟩) N N] 26))
  have C1 := Lib.hid (C1.out.alloc (.cells #[.int .i64 R, .int .i64 C, .slice (some ⟨g, 0, none⟩) N N] 26))
  have F := Lib.hid (F.out.alloc (.cells #[.int .i64 R, .int .i64 C, .slice (some ⟨g, 0, none⟩) N N] 26))
  go_wp2_with fail
  go_loopw [10] (fun i wr => ∃ (k : Nat) (zs : List Int), i = .int .i64 k ∧ k ≤ N ∧ zs.length = N ∧ IntsC wr g N zs ∧ Cur wr cb ∧ FrS (fun k => k = cb ∨ k = g) (w1.alloc (.cells #[.int .i64 R, .int .i64 C, .slice (some ⟨g, 0, none⟩) N N] 26)) wr) (fun i _ => N - (intOf i).toNat)
  case atStart => exact ⟨0, _, rfl, by omega, by simp, I1.out, C1.out, FrS.refl _ _⟩
  case round =>
    obtain ⟨k, zs, rfl, hk, hz, hi, hcu, hfr⟩ := hrel
    have I := Lib.hid hi
    have CU := Lib.hid hcu
    have FR := Lib.hid hfr
    have HZ := Lib.hid hz
    clear hi hcu hfr hz
    have R6 := Lib.hid (K6.out.frs FR.out (by omega))
    have lc := CU.out.lt
    obtain ⟨r0, r1, r2, -, -, -⟩ := R6.out.all
    by_cases hlt2 : k < N
    · have v1 : IntKind.i64.wrap (2 * (most : Int)) = 2 * (most : Int) := IntWalk.i64_in _ (by omega)
      have v2 : IntKind.i64.wrap (2 * (most : Int) + 1) = 2 * (most : Int) + 1 := IntWalk.i64_in _ (by omega)
      go_upto_region 5 with fail
      refine wp_region_held_drew (S := fun w' => FrS (fun k => k = cb ∨ k = g) wr w') (by kernel_rfl) (FrS.refl _ _).drew (fun hH => ?_)
      refine wpAnyH_take (i := 0) (v := ?_) (by simp only [List.getElem?_toArray, List.getElem?_cons_zero]; rfl) (by kernel_rfl) (by kernel_rfl) (by kernel_rfl) (by exact fun _ _ _ h => h) (Or.inl ⟨by rfl, ?_⟩) hH ?_
      rotate_left
      · (intro wS hS; clear hS; go_simp; try rfl)
      try simp only [Act.put, List.setIfInBounds_toArray, List.set_cons_zero, List.set_cons_succ]
      refine wpAnyH_take (i := 1) (v := ?_) (by simp only [List.getElem?_toArray, List.getElem?_cons_succ, List.getElem?_cons_zero]; rfl) (by kernel_rfl) (by kernel_rfl) (by kernel_rfl) (by exact fun _ _ _ h => h) (Or.inl ⟨by rfl, ?_⟩) hH ?_
      rotate_left
      · (intro wS hS; (try dsimp only at hS); obtain ⟨k1, k2, k3⟩ := sevenF R6.out hS (by omega); go_simp; try rfl)
      try simp only [Act.put, List.setIfInBounds_toArray, List.set_cons_zero, List.set_cons_succ]
      refine wpAnyH_take (i := 2) (v := ?_) (by simp only [List.getElem?_toArray, List.getElem?_cons_succ, List.getElem?_cons_zero]; rfl) (by kernel_rfl) (by kernel_rfl) (by kernel_rfl) (by exact fun _ _ _ h => h) (Or.inl ⟨by rfl, ?_⟩) hH ?_
      rotate_left
      · (intro wS hS; clear hS; go_simp; try rfl)
      try simp only [Act.put, List.setIfInBounds_toArray, List.set_cons_zero, List.set_cons_succ]
      refine wpAnyH_take (i := 3) (v := ?_) (by simp only [List.getElem?_toArray, List.getElem?_cons_succ, List.getElem?_cons_zero]; rfl) (by kernel_rfl) (by kernel_rfl) (by kernel_rfl) (by exact fun _ _ _ h => h) (Or.inl ⟨by rfl, ?_⟩) hH ?_
      rotate_left
      · (intro wS hS; clear hS; go_simp; try rfl)
      try simp only [Act.put, List.setIfInBounds_toArray, List.set_cons_zero, List.set_cons_succ]
      refine wpAnyH_take (i := 4) (v := ?_) (by simp only [List.getElem?_toArray, List.getElem?_cons_succ, List.getElem?_cons_zero]; rfl) (by kernel_rfl) (by kernel_rfl) (by kernel_rfl) (by exact fun _ _ _ h => h) (Or.inl ⟨by rfl, ?_⟩) hH ?_
      rotate_left
      · (intro wS hS; clear hS; go_simp; try rfl)
      try simp only [Act.put, List.setIfInBounds_toArray, List.set_cons_zero, List.set_cons_succ]
      refine wpAnyH_take (i := 5) (v := ?_) (by simp only [List.getElem?_toArray, List.getElem?_cons_succ, List.getElem?_cons_zero]; rfl) (by kernel_rfl) (by kernel_rfl) (by kernel_rfl) (by exact fun _ _ _ h => h) (Or.inl ⟨by rfl, ?_⟩) hH ?_
      rotate_left
      · (intro wS hS; clear hS; go_simp; try rfl)
      try simp only [Act.put, List.setIfInBounds_toArray, List.set_cons_zero, List.set_cons_succ]
      refine wpAnyH_take (i := 6) (v := ?_) (by simp only [List.getElem?_toArray, List.getElem?_cons_succ, List.getElem?_cons_zero]; rfl) (by kernel_rfl) (by kernel_rfl) (by kernel_rfl) (by exact fun _ _ _ h => h) (Or.inl ⟨by rfl, ?_⟩) hH ?_
      rotate_left
      · (intro wS hS; clear hS; go_simp; try rfl)
      try simp only [Act.put, List.setIfInBounds_toArray, List.set_cons_zero, List.set_cons_succ]
      refine wpAnyH_take (i := 8) (v := ?_) (by simp only [List.getElem?_toArray, List.getElem?_cons_succ, List.getElem?_cons_zero]; rfl) (by kernel_rfl) (by kernel_rfl) (by kernel_rfl) (by exact fun _ _ _ h => h) (Or.inl ⟨by rfl, ?_⟩) hH ?_
      rotate_left
      · (intro wS hS; clear hS; go_simp; try rfl)
      try simp only [Act.put, List.setIfInBounds_toArray, List.set_cons_zero, List.set_cons_succ]
      refine wpAnyH_ready (rs := [7]) (by kernel_rfl) (by simp) ?_
      refine AllReadyH.cons (by simp only [List.getElem?_toArray, List.getElem?_cons_succ, List.getElem?_cons_zero]; rfl) (fun KK hKK => ?_) AllReadyH.nil
      go_simp
      refine (l1Below _ cb _ (by exact CU.out) (by omega)).mono ?_
      rintro e w2 ⟨z, ⟨z0, z1⟩, rfl, hc2, hg2⟩
      have v3 : IntKind.i64.wrap (z - (most : Int)) = z - (most : Int) := IntWalk.i64_in _ (by omega)
      have I2 := Lib.hid (I.out.move (hg2.block g I.out.lt (by simp; omega)))
      have C2 := Lib.hid hc2
      have F1 : Hid (FrS (fun k => k = cb ∨ k = g) wr w2) := (FrS.refl _ wr).drew.trans (FrS.of_one hg2 (.inl rfl))
      clear hc2
      try dsimp only
      refine hKK.out _ _ ?_ (fun hH2 => ?_)
      · exact F1.out
      clear hKK KK
      have hO := hH
      clear hH
      have hH := hH2
      clear hH2
      try simp only [Act.put, List.setIfInBounds_toArray, List.set_cons_zero, List.set_cons_succ]
      refine wpAnyH_take (i := 9) (v := ?_) (by simp only [List.getElem?_toArray, List.getElem?_cons_succ, List.getElem?_cons_zero]; rfl) (by kernel_rfl) (by kernel_rfl) (by kernel_rfl) (by exact fun _ _ _ h => h) (Or.inl ⟨by rfl, ?_⟩) hH ?_
      rotate_left
      · (intro wS hS; clear hS; go_simp; try rfl)
      try simp only [Act.put, List.setIfInBounds_toArray, List.set_cons_zero, List.set_cons_succ]
      refine wpAnyH_take (i := 10) (v := ?_) (by simp only [List.getElem?_toArray, List.getElem?_cons_succ, List.getElem?_cons_zero]; rfl) (by kernel_rfl) (by kernel_rfl) (by kernel_rfl) (by exact fun _ _ _ h => h) (Or.inl ⟨by rfl, ?_⟩) hH ?_
      rotate_left
      · (intro wS hS; clear hS; go_simp; try rfl)
      try simp only [Act.put, List.setIfInBounds_toArray, List.set_cons_zero, List.set_cons_succ]
      have hold := I2.out.ints.cell (i := k) (by rw [HZ.out]; exact hlt2)
      have hfr := I2.out.ints.free k
      refine wpAnyH_ready (rs := [11]) (by kernel_rfl) (by simp) ?_
      refine AllReadyH.cons (by simp only [List.getElem?_toArray, List.getElem?_cons_succ, List.getElem?_cons_zero]; rfl) (fun KK hKK => ?_) AllReadyH.nil
      go_simp
      have I2 := Lib.hid (I2.out.set k (by rw [HZ.out]; exact hlt2) (z - (most : Int)))
      have C2 := Lib.hid (C2.out.setFar (x := ⟨g, k, none⟩) (by show cb < g; omega) (.int .i64 (z - (most : Int))))
      have F2 : Hid (FrS (fun k => k = cb ∨ k = g) wr (w2.setCell ⟨g, k, none⟩ (.int .i64 (z - (most : Int))))) := F1.out.set (a := ⟨g, k, none⟩) (.inl (.inr rfl)) _
      try dsimp only
      refine hKK.out _ _ ?_ (fun hH2 => ?_)
      · exact F2.out
      clear hKK KK
      have hO := hH
      clear hH
      have hH := hH2
      clear hH2
      try simp only [Act.put, List.setIfInBounds_toArray, List.set_cons_zero, List.set_cons_succ]
      have F2 := Lib.hid (FR.out.trans F2.out)
      refine wpAnyH_done (by kernel_rfl) ?_ _
      go_wp2_with fail
      go_roundw
      case rel => exact ⟨k + 1, _, by go_num, by omega, by rw [List.length_set]; exact HZ.out, I2.out, C2.out, F2.out⟩
      case measure => simp [intOf]; omega
    · obtain rfl : N = k := by omega
      have R2 := Lib.hid (K2.out.frs FR.out (by omega))
      obtain ⟨s0, s1, s2, t0, t1, t2⟩ := R2.out.all
      go_wp2_with fail
      obtain ⟨E0, E1, E2, -, -, -⟩ := (((R2.out.set0 (.int .i64 R)).set1 (.int .i64 C)).set2 (.slice (some ⟨g, 0, none⟩) N N)).all
      have FF := Lib.hid (F.out.trans (FR.out.mono (q := fun k => k = cb ∨ w.heap.size ≤ k) (fun k hk => by omega)))
      refine bodyPost_ret (v := .agg #[.int .i64 R, .int .i64 C, .slice (some ⟨g, 0, none⟩) N N]) (by simp [results, Try.results77, go_sem, E0, E1, E2]) rfl ⟨g, zs, by rw [HN.out], by omega, by rw [HN.out]; exact HZ.out, ?_, ?_, ?_⟩
      · rw [HN.out]
        exact ((I.out.far (by show g ≠ w.heap.size; omega) _).far (by show g ≠ w.heap.size; omega) _).far (by show g ≠ w.heap.size; omega) _
      · exact ((CU.out.setFar (by show cb < w.heap.size; omega) _).setFar (by show cb < w.heap.size; omega) _).setFar (by show cb < w.heap.size; omega) _
      · exact FrS.one (((FF.out.set (a := ⟨w.heap.size, 0, none⟩) (.inr (Nat.le_refl _)) _).set (a := ⟨w.heap.size, 1, none⟩) (.inr (Nat.le_refl _)) _).set (a := ⟨w.heap.size, 2, none⟩) (.inr (Nat.le_refl _)) _) (fun k hk hp => by omega)
end Go.Proofs.Ytcapddcmnjeloaa
end

section
/-
  The drawing of matrices: one that may be spoilt.
-/
namespace Go.Proofs.Ytcapddcmnjeloaa
set_option maxRecDepth 100000
open Go.RowKit

/-! ### l3Spoil -/
theorem OwnC.out1 {B : Nat} {w : World} {v : Value} {zs : List Int} {b : Nat} {p q r : Value} (h : OwnC B w v zs) (k : Blk3 w b 26 p q r) (i : Nat) (x : Value) : OwnC B (w.setCell ⟨b, i, none⟩ x) v zs := by
  rcases h with h | ⟨g, cap, hv, hB, hi⟩
  · exact .inl h
  · exact .inr ⟨g, cap, hv, hB, hi.far (hi.ints.ne_blk k) x⟩
theorem OwnC.out3 {B : Nat} {w : World} {v : Value} {zs : List Int} {b : Nat} {p q r : Value} (h : OwnC B w v zs) (k : Blk3 w b 26 p q r) (x y z : Value) : OwnC B (((w.setCell ⟨b, 0, none⟩ x).setCell ⟨b, 1, none⟩ y).setCell ⟨b, 2, none⟩ z) v zs :=
  ((h.out1 k 0 x).out1 (k.set0 x) 1 y).out1 ((k.set0 x).set1 y) 2 z
/-- A matrix of whatever kind is returned, its cells from block B on; of what was there only blocks with the property p have changed. -/
def CurMat (B L cb : Nat) (p : Nat → Prop) (w : World) (e : Ending) (w' : World) : Prop := ∃ (r c : Int) (v : Value) (zs : List Int), e = .returned (.agg #[.int .i64 r, .int .i64 c, v]) ∧ OwnC B w' v zs ∧ zs.length ≤ L ∧ Cur w' cb ∧ FrS p w w'
theorem CurMat.end_ {B L cb b : Nat} {pr : Nat → Prop} {w W : World} {r c : Int} {v p q s : Value} {zs : List Int} (own : OwnC B W v zs) (hl : zs.length ≤ L) (k : Blk3 W b 26 p q s) (hc : Cur W cb) (hcb : cb < b) (hB : pr b) (f : FrS pr w W) :
    CurMat B L cb pr w (.returned (.agg #[.int .i64 r, .int .i64 c, v])) (((W.setCell ⟨b, 0, none⟩ (.int .i64 r)).setCell ⟨b, 1, none⟩ (.int .i64 c)).setCell ⟨b, 2, none⟩ v) :=
  ⟨r, c, v, zs, rfl, own.out3 k _ _ _, hl, ((hc.setFar hcb _).setFar hcb _).setFar hcb _, ((f.set (.inl hB) _).set (.inl hB) _).set (.inl hB) _⟩
set_option maxHeartbeats 2000000 in
theorem l3Spoil (w : World) (cb B g n cap : Nat) (r c : Int) (zs : List Int) (hc : Cur w cb) (hcB : cb < B) (hB : B ≤ w.heap.size) (hg : B ≤ g) (hi : IntsC w g cap zs) (hz : zs.length = n) (hn : n ≤ 600) :
    Calls Try.prog 80 #[.pointer (some ⟨cb, 0, none⟩), .agg #[.int .i64 r, .int .i64 c, .slice (some ⟨g, 0, none⟩) n cap]] w (CurMat B (n + 1) cb (fun k => k = cb ∨ k = g ∨ w.heap.size ≤ k) w) := by
  have hlt := hc.lt
  have gl := hi.lt
  have C0 := Lib.hid hc
  have I0 := Lib.hid hi
  have HZ := Lib.hid hz
  clear hc hi hz
  go_enter Try.func80, Try.ntmps80
  go_wp2_with fail
  refine (l1Below _ cb 40 ((C0.out.alloc (.cells #[.int .i64 r, .int .i64 c, .slice (some ⟨g, 0, none⟩) n cap] 26)).alloc (.cells #[.int .i64 0, .int .i64 0, .slice none 0 0] 26)) (by omega)).mono ?_
  rintro e w1 ⟨k, ⟨k0, k1⟩, rfl, hc1, hg1⟩
  have K0 : Hid (Blk3 w1 w.heap.size 26 (.int .i64 r) (.int .i64 c) (.slice (some ⟨g, 0, none⟩) n cap)) := ((Blk3.at_ _ _ _ _ rfl).old _).keepOne hg1 (by omega)
  have K2 : Hid (Blk3 w1 (w.heap.size + 1) 26 (.int .i64 0) (.int .i64 0) (.slice none 0 0)) := (Blk3.at_ _ _ _ _ (by simp)).keepOne hg1 (by omega)
  have C1 := Lib.hid hc1
  have F1 : Hid (FrS (fun k => k = cb ∨ k = g ∨ w.heap.size ≤ k) w w1) := ((((FrS.refl _ w).alloc _).alloc _).trans (FrS.of_one hg1 (.inl rfl)))
  have O1 : Hid (OwnC B w1 (.slice (some ⟨g, 0, none⟩) n cap) zs) := .inr ⟨g, cap, by rw [HZ.out], hg, (((I0.out.old _).old _)).move (hg1.block g (by simp; omega) (by simp; omega))⟩
  have I1 : Hid (IntsC w1 g cap zs) := (((I0.out.old _).old _)).move (hg1.block g (by simp; omega) (by simp; omega))
  have l1 : w.heap.size + 1 < w1.heap.size := K2.out.lt
  clear hc1 hg1 C0 I0
  obtain ⟨a0, a1, a2, a3, a4, a5⟩ := K0.out.all
  obtain ⟨b0, b1, b2, b3, b4, b5⟩ := K2.out.all
  by_cases e0 : k = 0
  · subst e0
    go_wp2_with fail
    refine (l1PickInt (fun _ => True) _ cb w1.heap.size 4 (C1.out.alloc _) ?_ (by omega) (by omega) (by omega)).mono ?_
    · exact IntList.new [-1, 0, 7, wrap64 (r + 1)] (fun _ _ => trivial) w1 3
    rintro e w2 ⟨t, -, rfl, hc2, hg2⟩
    have K0 := Lib.hid ((K0.out.old _).keepOne hg2 (by omega))
    have K2 := Lib.hid ((K2.out.old _).keepOne hg2 (by omega))
    have C2 := Lib.hid hc2
    have fx : FrS (fun k => k = cb) w1 w2 := (((FrS.refl _ w1).alloc _).trans (FrS.of_one hg2 rfl))
    have F2 := Lib.hid (F1.out.trans (fx.mono (fun k hk => .inl hk)))
    have O2 := Lib.hid (O1.out.frs fx (fun k hk => by omega))
    clear hc2 hg2 fx
    obtain ⟨s0, s1, s2, f0, f1, f2⟩ := K0.out.all
    obtain ⟨u0, u1, u2, v0, v1, v2⟩ := K2.out.all
    go_wp2_with fail
    obtain ⟨E0, E1, E2, -, -, -⟩ := ((((K2.out.far (a := ⟨w.heap.size, 0, none⟩) (by simp) (.int .i64 t)).set0 (.int .i64 t)).set1 (.int .i64 c)).set2 (.slice (some ⟨g, 0, none⟩) n cap)).all
    exact bodyPost_ret (v := .agg #[.int .i64 t, .int .i64 c, .slice (some ⟨g, 0, none⟩) n cap]) (by simp [results, Try.results80, go_sem, E0, E1, E2]) rfl (CurMat.end_ (O2.out.out1 K0.out 0 _) (by rw [HZ.out]; omega) (K2.out.far (by simp) _) (C2.out.setFar (by show cb < w.heap.size; omega) _) (by omega) (by omega) (F2.out.set (.inl (.inr (.inr (Nat.le_refl _)))) _))
  by_cases e1 : k = 1
  · subst e1
    by_cases hn0 : 0 < n
    · go_upto_region 6 with fail
      refine wp_region_held_drew (S := fun w' => FrS (fun k => k = cb ∨ k = g) w1 w') (by kernel_rfl) (FrS.refl _ _).drew (fun hH => ?_)
      refine wpAnyH_take (i := 0) (v := ?_) (by simp only [List.getElem?_toArray, List.getElem?_cons_zero]; rfl) (by kernel_rfl) (by kernel_rfl) (by kernel_rfl) (by exact fun _ _ _ h => h) (Or.inl ⟨by rfl, ?_⟩) hH ?_
      rotate_left
      · (intro wS hS; clear hS; go_simp; try rfl)
      try simp only [Act.put, List.setIfInBounds_toArray, List.set_cons_zero, List.set_cons_succ]
      refine wpAnyH_take (i := 1) (v := ?_) (by simp only [List.getElem?_toArray, List.getElem?_cons_succ, List.getElem?_cons_zero]; rfl) (by kernel_rfl) (by kernel_rfl) (by kernel_rfl) (by exact fun _ _ _ h => h) (Or.inl ⟨by rfl, ?_⟩) hH ?_
      rotate_left
      · (intro wS hS; (try dsimp only at hS); obtain ⟨k1, k2, k3⟩ := sevenF K0.out hS (by rintro (h | h); omega; exact I1.out.ints.ne_blk K0.out h.symm); go_simp; try rfl)
      try simp only [Act.put, List.setIfInBounds_toArray, List.set_cons_zero, List.set_cons_succ]
      refine wpAnyH_take (i := 2) (v := ?_) (by simp only [List.getElem?_toArray, List.getElem?_cons_succ, List.getElem?_cons_zero]; rfl) (by kernel_rfl) (by kernel_rfl) (by kernel_rfl) (by exact fun _ _ _ h => h) (Or.inl ⟨by rfl, ?_⟩) hH ?_
      rotate_left
      · (intro wS hS; clear hS; go_simp; try rfl)
      try simp only [Act.put, List.setIfInBounds_toArray, List.set_cons_zero, List.set_cons_succ]
      refine wpAnyH_ready (rs := [3]) (by kernel_rfl) (by simp) ?_
      refine AllReadyH.cons (by simp only [List.getElem?_toArray, List.getElem?_cons_succ, List.getElem?_cons_zero]; rfl) (fun KK hKK => ?_) AllReadyH.nil
      go_simp
      refine (l1Odd _ cb (by exact C1.out)).mono ?_
      rintro e w2 ⟨z, hz, rfl, hc2, hg2⟩
      have I2 := Lib.hid (I1.out.move (hg2.block g I1.out.lt (by simp; omega)))
      have C2 := Lib.hid hc2
      have f2 : FrS (fun k => k = cb ∨ k = g) w1 w2 := (FrS.refl _ w1).drew.trans (FrS.of_one hg2 (.inl rfl))
      have FX := Lib.hid f2
      clear hc2 f2 hg2
      try dsimp only
      refine hKK.out _ _ ?_ (fun hH2 => ?_)
      · exact FX.out
      clear hKK KK
      have hO := hH
      clear hH
      have hH := hH2
      clear hH2
      try simp only [Act.put, List.setIfInBounds_toArray, List.set_cons_zero, List.set_cons_succ]
      refine wpAnyH_take (i := 4) (v := ?_) (by simp only [List.getElem?_toArray, List.getElem?_cons_succ, List.getElem?_cons_zero]; rfl) (by kernel_rfl) (by kernel_rfl) (by kernel_rfl) (by exact fun _ _ _ h => h) (Or.inl ⟨by rfl, ?_⟩) hH ?_
      rotate_left
      · (intro wS hS; clear hS; go_simp; try rfl)
      try simp only [Act.put, List.setIfInBounds_toArray, List.set_cons_zero, List.set_cons_succ]
      have hold := I2.out.ints.cell (i := 0) (by rw [HZ.out]; exact hn0)
      have hfr := I2.out.ints.free 0
      refine wpAnyH_ready (rs := [5]) (by kernel_rfl) (by simp) ?_
      refine AllReadyH.cons (by simp only [List.getElem?_toArray, List.getElem?_cons_succ, List.getElem?_cons_zero]; rfl) (fun KK hKK => ?_) AllReadyH.nil
      go_simp
      have I2 := Lib.hid (I2.out.set 0 (by rw [HZ.out]; exact hn0) z)
      have C2 := Lib.hid (C2.out.setFar (x := ⟨g, 0, none⟩) (by show cb < g; omega) (.int .i64 z))
      have FX : Hid (FrS (fun k => k = cb ∨ k = g) w1 (w2.setCell ⟨g, 0, none⟩ (.int .i64 z))) := FX.out.set (a := ⟨g, 0, none⟩) (.inl (.inr rfl)) _
      try dsimp only
      refine hKK.out _ _ ?_ (fun hH2 => ?_)
      · exact FX.out
      clear hKK KK
      have hO := hH
      clear hH
      have hH := hH2
      clear hH2
      try simp only [Act.put, List.setIfInBounds_toArray, List.set_cons_zero, List.set_cons_succ]
      have K0n : ¬ (w.heap.size = cb ∨ w.heap.size = g) := by rintro (h | h); omega; exact I1.out.ints.ne_blk K0.out h.symm
      have K2n : ¬ (w.heap.size + 1 = cb ∨ w.heap.size + 1 = g) := by rintro (h | h); omega; exact I1.out.ints.ne_blk K2.out h.symm
      have K0 := Lib.hid (K0.out.frs FX.out K0n)
      have K2 := Lib.hid (K2.out.frs FX.out K2n)
      have F2 := Lib.hid (F1.out.trans (FX.out.mono (q := fun k => k = cb ∨ k = g ∨ w.heap.size ≤ k) (fun k hk => by omega)))
      have O2 : Hid (OwnC B (w2.setCell ⟨g, 0, none⟩ (.int .i64 z)) (.slice (some ⟨g, 0, none⟩) n cap) (zs.set 0 z)) := .inr ⟨g, cap, by rw [List.length_set, HZ.out], hg, I2.out⟩
      obtain ⟨s0, s1, s2, f0, f1, f2⟩ := K0.out.all
      obtain ⟨u0, u1, u2, v0, v1, v2⟩ := K2.out.all
      refine wpAnyH_done (by kernel_rfl) ?_ _
      go_wp2_with fail
      obtain ⟨E0, E1, E2, -, -, -⟩ := (((K2.out.set0 (.int .i64 r)).set1 (.int .i64 c)).set2 (.slice (some ⟨g, 0, none⟩) n cap)).all
      exact bodyPost_ret (v := .agg #[.int .i64 r, .int .i64 c, .slice (some ⟨g, 0, none⟩) n cap]) (by simp [results, Try.results80, go_sem, E0, E1, E2]) rfl (CurMat.end_ O2.out (by rw [List.length_set, HZ.out]; omega) K2.out C2.out (by omega) (by omega) F2.out)
    · obtain rfl : n = 0 := by omega
      go_wp2_with fail
      obtain ⟨E0, E1, E2, -, -, -⟩ := (((K2.out.set0 (.int .i64 r)).set1 (.int .i64 c)).set2 (.slice (some ⟨g, 0, none⟩) 0 cap)).all
      exact bodyPost_ret (v := .agg #[.int .i64 r, .int .i64 c, .slice (some ⟨g, 0, none⟩) 0 cap]) (by simp [results, Try.results80, go_sem, E0, E1, E2]) rfl (CurMat.end_ O1.out (by rw [HZ.out]; omega) K2.out C1.out (by omega) (by omega) F1.out)
  by_cases e2 : k = 2
  · subst e2
    obtain ⟨fi, hfi, hz0, hz1, hz2⟩ := facts_int
    have hown : (w1.alloc (.cells #[.int .i64 1] 3)).ownsRow B 3 1 (.slice (some ⟨g, 0, none⟩) n cap) n (zs.map (Value.int .i64)) := by
      have := (I1.out.old (.cells #[.int .i64 1] 3)).row hg
      rw [HZ.out] at this
      exact this
    have news : ∀ (j : Nat) u, [Value.int .i64 1][j]? = some u → (w1.alloc (.cells #[.int .i64 1] 3)).cell? ((⟨w1.heap.size, 0, none⟩ : Addr).add j) = some u := by
      intro j u hu
      have hj : j = 0 := by
        rcases j with _ | j
        · rfl
        · simp at hu
      subst hj
      have := heap_alloc_new w1 (.cells #[Value.int .i64 1] 3)
      have hc : (w1.alloc (.cells #[Value.int .i64 1] 3)).cell? ⟨w1.heap.size, 0, none⟩ = some (.int .i64 1) := by
        unfold World.cell?
        simp only [this]
        rfl
      have ha : (⟨w1.heap.size, 0, none⟩ : Addr).add 0 = ⟨w1.heap.size, 0, none⟩ := rfl
      rw [ha, hc]
      simpa using hu
    have HO := Lib.hid hown
    have NS := Lib.hid news
    have bs : B ≤ w1.heap.size := Nat.le_trans hB F1.out.size
    clear hown news
    go_wp2_with (at_builtin; refine wpList_append_own_at _ rfl _ _ 24 rfl B 3 fi (.int .i64 0) 1 8 underlying_ints hfi hz0 hz1 hz2 rfl (by decide) _ _ _ rfl HO.out ⟨w1.heap.size, 0, none⟩ 1 1 [.int .i64 1] ?hx ?hl ?hnews ?h1 ?h63 ?hbytes ?hbase ?hnext)
    case hx => rfl
    case hl => rfl
    case hnews => exact NS.out
    case h1 => intro u hu; simp at hu; subst hu; rfl
    case h63 => unfold maxLen; omega
    case hbytes => omega
    case hbase => simp; omega
    case hnext =>
      rintro v' w2 ho hg2 - hbk
      have O2 : Hid (OwnC B w2 v' (zs ++ [1])) := OwnC.of_row (by rw [List.length_append, HZ.out, List.map_append]; exact ho)
      have K0 := Lib.hid ((K0.out.old (.cells #[.int .i64 1] 3)).keepOne (c := g) (by simpa [Value.ownBlock] using hg2) (Ne.symm (I1.out.ints.ne_blk K0.out)))
      have K2 := Lib.hid ((K2.out.old (.cells #[.int .i64 1] 3)).keepOne (c := g) (by simpa [Value.ownBlock] using hg2) (Ne.symm (I1.out.ints.ne_blk K2.out)))
      have fx : FrS (fun k => k = cb ∨ k = g ∨ w.heap.size ≤ k) (w1.alloc (.cells #[.int .i64 1] 3)) w2 := FrS.of_one (g := g) (by simpa [Value.ownBlock] using hg2) (.inr (.inl rfl))
      have F2 := Lib.hid ((F1.out.alloc _).trans fx)
      have C2 := Lib.hid ((C1.out.alloc (.cells #[.int .i64 1] 3)).frs (FrS.of_one (p := fun k => k = g) (g := g) (by simpa [Value.ownBlock] using hg2) rfl) (fun k hk => by omega))
      obtain ⟨q2, qc2, rfl, -, -⟩ := (O2.out.own (by rw [List.length_append, HZ.out]; simp; omega)).form
      clear ho hg2 hbk fx
      obtain ⟨s0, s1, s2, f0, f1, f2⟩ := K0.out.all
      obtain ⟨u0, u1, u2, v0, v1, v2⟩ := K2.out.all
      have EL : (zs ++ [(1 : Int)]).length = n + 1 := by rw [List.length_append, HZ.out]; rfl
      rw [EL] at O2 ⊢
      go_wp2_with fail
      obtain ⟨E0, E1, E2, -, -, -⟩ := ((((K2.out.far (a := ⟨w.heap.size, 2, none⟩) (by simp) (.slice q2 (n + 1) qc2)).set0 (.int .i64 r)).set1 (.int .i64 c)).set2 (.slice q2 (n + 1) qc2)).all
      exact bodyPost_ret (v := .agg #[.int .i64 r, .int .i64 c, .slice q2 (n + 1) qc2]) (by simp [results, Try.results80, go_sem, E0, E1, E2]) rfl (CurMat.end_ (O2.out.out1 K0.out 2 _) (by rw [EL]; omega) (K2.out.far (by simp) _) (C2.out.setFar (by show cb < w.heap.size; omega) _) (by omega) (by omega) (F2.out.set (.inl (.inr (.inr (Nat.le_refl _)))) _))
  · have n0 : (k == 0) = false := by simpa using e0
    have n1 : (k == 1) = false := by simpa using e1
    have n2 : (k == 2) = false := by simpa using e2
    go_wp2_with fail
    obtain ⟨E0, E1, E2, -, -, -⟩ := (((K2.out.set0 (.int .i64 r)).set1 (.int .i64 c)).set2 (.slice (some ⟨g, 0, none⟩) n cap)).all
    exact bodyPost_ret (v := .agg #[.int .i64 r, .int .i64 c, .slice (some ⟨g, 0, none⟩) n cap]) (by simp [results, Try.results80, go_sem, E0, E1, E2]) rfl (CurMat.end_ O1.out (by rw [HZ.out]; omega) K2.out C1.out (by omega) (by omega) F1.out)
end Go.Proofs.Ytcapddcmnjeloaa
end

section
/-
  The drawing of a square matrix once more, with a bound on its number of rows.
-/
namespace Go.Proofs.Ytcapddcmnjeloaa
set_option maxRecDepth 100000
open Go.RowKit

def CurMatR (B L cb : Nat) (p : Nat → Prop) (w : World) (e : Ending) (w' : World) : Prop := ∃ (r c : Int) (v : Value) (zs : List Int), e = .returned (.agg #[.int .i64 r, .int .i64 c, v]) ∧ OwnC B w' v zs ∧ zs.length ≤ L ∧ r ≤ 30 ∧ Cur w' cb ∧ FrS p w w'
theorem CurMatR.end_ {B L cb b : Nat} {pr : Nat → Prop} {w W : World} {r c : Int} {v p q s : Value} {zs : List Int} (own : OwnC B W v zs) (hl : zs.length ≤ L) (k : Blk3 W b 26 p q s) (hc : Cur W cb) (hcb : cb < b) (hB : pr b) (f : FrS pr w W) (hr : r ≤ 30 := by omega) :
    CurMatR B L cb pr w (.returned (.agg #[.int .i64 r, .int .i64 c, v])) (((W.setCell ⟨b, 0, none⟩ (.int .i64 r)).setCell ⟨b, 1, none⟩ (.int .i64 c)).setCell ⟨b, 2, none⟩ v) :=
  ⟨r, c, v, zs, rfl, own.out3 k _ _ _, hl, hr, ((hc.setFar hcb _).setFar hcb _).setFar hcb _, ((f.set (.inl hB) _).set (.inl hB) _).set (.inl hB) _⟩
set_option maxHeartbeats 2000000 in
theorem l3SpoilR (w : World) (cb B g n cap : Nat) (r c : Int) (zs : List Int) (hc : Cur w cb) (hcB : cb < B) (hB : B ≤ w.heap.size) (hg : B ≤ g) (hi : IntsC w g cap zs) (hz : zs.length = n) (hn : n ≤ 600) (hr0 : 0 ≤ r) (hr1 : r ≤ 24) :
    Calls Try.prog 80 #[.pointer (some ⟨cb, 0, none⟩), .agg #[.int .i64 r, .int .i64 c, .slice (some ⟨g, 0, none⟩) n cap]] w (CurMatR B (n + 1) cb (fun k => k = cb ∨ k = g ∨ w.heap.size ≤ k) w) := by
  have hlt := hc.lt
  have gl := hi.lt
  have C0 := Lib.hid hc
  have I0 := Lib.hid hi
  have HZ := Lib.hid hz
  clear hc hi hz
  go_enter Try.func80, Try.ntmps80
  go_wp2_with fail
  refine (l1Below _ cb 40 ((C0.out.alloc (.cells #[.int .i64 r, .int .i64 c, .slice (some ⟨g, 0, none⟩) n cap] 26)).alloc (.cells #[.int .i64 0, .int .i64 0, .slice none 0 0] 26)) (by omega)).mono ?_
  rintro e w1 ⟨k, ⟨k0, k1⟩, rfl, hc1, hg1⟩
  have K0 : Hid (Blk3 w1 w.heap.size 26 (.int .i64 r) (.int .i64 c) (.slice (some ⟨g, 0, none⟩) n cap)) := ((Blk3.at_ _ _ _ _ rfl).old _).keepOne hg1 (by omega)
  have K2 : Hid (Blk3 w1 (w.heap.size + 1) 26 (.int .i64 0) (.int .i64 0) (.slice none 0 0)) := (Blk3.at_ _ _ _ _ (by simp)).keepOne hg1 (by omega)
  have C1 := Lib.hid hc1
  have F1 : Hid (FrS (fun k => k = cb ∨ k = g ∨ w.heap.size ≤ k) w w1) := ((((FrS.refl _ w).alloc _).alloc _).trans (FrS.of_one hg1 (.inl rfl)))
  have O1 : Hid (OwnC B w1 (.slice (some ⟨g, 0, none⟩) n cap) zs) := .inr ⟨g, cap, by rw [HZ.out], hg, (((I0.out.old _).old _)).move (hg1.block g (by simp; omega) (by simp; omega))⟩
  have I1 : Hid (IntsC w1 g cap zs) := (((I0.out.old _).old _)).move (hg1.block g (by simp; omega) (by simp; omega))
  have l1 : w.heap.size + 1 < w1.heap.size := K2.out.lt
  clear hc1 hg1 C0 I0
  obtain ⟨a0, a1, a2, a3, a4, a5⟩ := K0.out.all
  obtain ⟨b0, b1, b2, b3, b4, b5⟩ := K2.out.all
  by_cases e0 : k = 0
  · subst e0
    go_wp2_with fail
    refine (l1PickInt (fun t => t ≤ 30) _ cb w1.heap.size 4 (C1.out.alloc _) ?_ (by omega) (by omega) (by omega)).mono ?_
    · exact IntList.new (P := fun t => t ≤ 30) [-1, 0, 7, r + 1] (by intro z hz; simp at hz; show z ≤ 30; omega) w1 3
    rintro e w2 ⟨t, ht, rfl, hc2, hg2⟩
    have K0 := Lib.hid ((K0.out.old _).keepOne hg2 (by omega))
    have K2 := Lib.hid ((K2.out.old _).keepOne hg2 (by omega))
    have C2 := Lib.hid hc2
    have fx : FrS (fun k => k = cb) w1 w2 := (((FrS.refl _ w1).alloc _).trans (FrS.of_one hg2 rfl))
    have F2 := Lib.hid (F1.out.trans (fx.mono (fun k hk => .inl hk)))
    have O2 := Lib.hid (O1.out.frs fx (fun k hk => by omega))
    clear hc2 hg2 fx
    obtain ⟨s0, s1, s2, f0, f1, f2⟩ := K0.out.all
    obtain ⟨u0, u1, u2, v0, v1, v2⟩ := K2.out.all
    go_wp2_with fail
    obtain ⟨E0, E1, E2, -, -, -⟩ := ((((K2.out.far (a := ⟨w.heap.size, 0, none⟩) (by simp) (.int .i64 t)).set0 (.int .i64 t)).set1 (.int .i64 c)).set2 (.slice (some ⟨g, 0, none⟩) n cap)).all
    exact bodyPost_ret (v := .agg #[.int .i64 t, .int .i64 c, .slice (some ⟨g, 0, none⟩) n cap]) (by simp [results, Try.results80, go_sem, E0, E1, E2]) rfl (CurMatR.end_ (O2.out.out1 K0.out 0 _) (by rw [HZ.out]; omega) (K2.out.far (by simp) _) (C2.out.setFar (by show cb < w.heap.size; omega) _) (by omega) (by omega) (F2.out.set (.inl (.inr (.inr (Nat.le_refl _)))) _))
  by_cases e1 : k = 1
  · subst e1
    by_cases hn0 : 0 < n
    · go_upto_region 6 with fail
      refine wp_region_held_drew (S := fun w' => FrS (fun k => k = cb ∨ k = g) w1 w') (by kernel_rfl) (FrS.refl _ _).drew (fun hH => ?_)
      refine wpAnyH_take (i := 0) (v := ?_) (by simp only [List.getElem?_toArray, List.getElem?_cons_zero]; rfl) (by kernel_rfl) (by kernel_rfl) (by kernel_rfl) (by exact fun _ _ _ h => h) (Or.inl ⟨by rfl, ?_⟩) hH ?_
      rotate_left
      · (intro wS hS; clear hS; go_simp; try rfl)
      try simp only [Act.put, List.setIfInBounds_toArray, List.set_cons_zero, List.set_cons_succ]
      refine wpAnyH_take (i := 1) (v := ?_) (by simp only [List.getElem?_toArray, List.getElem?_cons_succ, List.getElem?_cons_zero]; rfl) (by kernel_rfl) (by kernel_rfl) (by kernel_rfl) (by exact fun _ _ _ h => h) (Or.inl ⟨by rfl, ?_⟩) hH ?_
      rotate_left
      · (intro wS hS; (try dsimp only at hS); obtain ⟨k1, k2, k3⟩ := sevenF K0.out hS (by rintro (h | h); omega; exact I1.out.ints.ne_blk K0.out h.symm); go_simp; try rfl)
      try simp only [Act.put, List.setIfInBounds_toArray, List.set_cons_zero, List.set_cons_succ]
      refine wpAnyH_take (i := 2) (v := ?_) (by simp only [List.getElem?_toArray, List.getElem?_cons_succ, List.getElem?_cons_zero]; rfl) (by kernel_rfl) (by kernel_rfl) (by kernel_rfl) (by exact fun _ _ _ h => h) (Or.inl ⟨by rfl, ?_⟩) hH ?_
      rotate_left
      · (intro wS hS; clear hS; go_simp; try rfl)
      try simp only [Act.put, List.setIfInBounds_toArray, List.set_cons_zero, List.set_cons_succ]
      refine wpAnyH_ready (rs := [3]) (by kernel_rfl) (by simp) ?_
      refine AllReadyH.cons (by simp only [List.getElem?_toArray, List.getElem?_cons_succ, List.getElem?_cons_zero]; rfl) (fun KK hKK => ?_) AllReadyH.nil
      go_simp
      refine (l1Odd _ cb (by exact C1.out)).mono ?_
      rintro e w2 ⟨z, hz, rfl, hc2, hg2⟩
      have I2 := Lib.hid (I1.out.move (hg2.block g I1.out.lt (by simp; omega)))
      have C2 := Lib.hid hc2
      have f2 : FrS (fun k => k = cb ∨ k = g) w1 w2 := (FrS.refl _ w1).drew.trans (FrS.of_one hg2 (.inl rfl))
      have FX := Lib.hid f2
      clear hc2 f2 hg2
      try dsimp only
      refine hKK.out _ _ ?_ (fun hH2 => ?_)
      · exact FX.out
      clear hKK KK
      have hO := hH
      clear hH
      have hH := hH2
      clear hH2
      try simp only [Act.put, List.setIfInBounds_toArray, List.set_cons_zero, List.set_cons_succ]
      refine wpAnyH_take (i := 4) (v := ?_) (by simp only [List.getElem?_toArray, List.getElem?_cons_succ, List.getElem?_cons_zero]; rfl) (by kernel_rfl) (by kernel_rfl) (by kernel_rfl) (by exact fun _ _ _ h => h) (Or.inl ⟨by rfl, ?_⟩) hH ?_
      rotate_left
      · (intro wS hS; clear hS; go_simp; try rfl)
      try simp only [Act.put, List.setIfInBounds_toArray, List.set_cons_zero, List.set_cons_succ]
      have hold := I2.out.ints.cell (i := 0) (by rw [HZ.out]; exact hn0)
      have hfr := I2.out.ints.free 0
      refine wpAnyH_ready (rs := [5]) (by kernel_rfl) (by simp) ?_
      refine AllReadyH.cons (by simp only [List.getElem?_toArray, List.getElem?_cons_succ, List.getElem?_cons_zero]; rfl) (fun KK hKK => ?_) AllReadyH.nil
      go_simp
      have I2 := Lib.hid (I2.out.set 0 (by rw [HZ.out]; exact hn0) z)
      have C2 := Lib.hid (C2.out.setFar (x := ⟨g, 0, none⟩) (by show cb < g; omega) (.int .i64 z))
      have FX : Hid (FrS (fun k => k = cb ∨ k = g) w1 (w2.setCell ⟨g, 0, none⟩ (.int .i64 z))) := FX.out.set (a := ⟨g, 0, none⟩) (.inl (.inr rfl)) _
      try dsimp only
      refine hKK.out _ _ ?_ (fun hH2 => ?_)
      · exact FX.out
      clear hKK KK
      have hO := hH
      clear hH
      have hH := hH2
      clear hH2
      try simp only [Act.put, List.setIfInBounds_toArray, List.set_cons_zero, List.set_cons_succ]
      have K0n : ¬ (w.heap.size = cb ∨ w.heap.size = g) := by rintro (h | h); omega; exact I1.out.ints.ne_blk K0.out h.symm
      have K2n : ¬ (w.heap.size + 1 = cb ∨ w.heap.size + 1 = g) := by rintro (h | h); omega; exact I1.out.ints.ne_blk K2.out h.symm
      have K0 := Lib.hid (K0.out.frs FX.out K0n)
      have K2 := Lib.hid (K2.out.frs FX.out K2n)
      have F2 := Lib.hid (F1.out.trans (FX.out.mono (q := fun k => k = cb ∨ k = g ∨ w.heap.size ≤ k) (fun k hk => by omega)))
      have O2 : Hid (OwnC B (w2.setCell ⟨g, 0, none⟩ (.int .i64 z)) (.slice (some ⟨g, 0, none⟩) n cap) (zs.set 0 z)) := .inr ⟨g, cap, by rw [List.length_set, HZ.out], hg, I2.out⟩
      obtain ⟨s0, s1, s2, f0, f1, f2⟩ := K0.out.all
      obtain ⟨u0, u1, u2, v0, v1, v2⟩ := K2.out.all
      refine wpAnyH_done (by kernel_rfl) ?_ _
      go_wp2_with fail
      obtain ⟨E0, E1, E2, -, -, -⟩ := (((K2.out.set0 (.int .i64 r)).set1 (.int .i64 c)).set2 (.slice (some ⟨g, 0, none⟩) n cap)).all
      exact bodyPost_ret (v := .agg #[.int .i64 r, .int .i64 c, .slice (some ⟨g, 0, none⟩) n cap]) (by simp [results, Try.results80, go_sem, E0, E1, E2]) rfl (CurMatR.end_ O2.out (by rw [List.length_set, HZ.out]; omega) K2.out C2.out (by omega) (by omega) F2.out)
    · obtain rfl : n = 0 := by omega
      go_wp2_with fail
      obtain ⟨E0, E1, E2, -, -, -⟩ := (((K2.out.set0 (.int .i64 r)).set1 (.int .i64 c)).set2 (.slice (some ⟨g, 0, none⟩) 0 cap)).all
      exact bodyPost_ret (v := .agg #[.int .i64 r, .int .i64 c, .slice (some ⟨g, 0, none⟩) 0 cap]) (by simp [results, Try.results80, go_sem, E0, E1, E2]) rfl (CurMatR.end_ O1.out (by rw [HZ.out]; omega) K2.out C1.out (by omega) (by omega) F1.out)
  by_cases e2 : k = 2
  · subst e2
    obtain ⟨fi, hfi, hz0, hz1, hz2⟩ := facts_int
    have hown : (w1.alloc (.cells #[.int .i64 1] 3)).ownsRow B 3 1 (.slice (some ⟨g, 0, none⟩) n cap) n (zs.map (Value.int .i64)) := by
      have := (I1.out.old (.cells #[.int .i64 1] 3)).row hg
      rw [HZ.out] at this
      exact this
    have news : ∀ (j : Nat) u, [Value.int .i64 1][j]? = some u → (w1.alloc (.cells #[.int .i64 1] 3)).cell? ((⟨w1.heap.size, 0, none⟩ : Addr).add j) = some u := by
      intro j u hu
      have hj : j = 0 := by
        rcases j with _ | j
        · rfl
        · simp at hu
      subst hj
      have := heap_alloc_new w1 (.cells #[Value.int .i64 1] 3)
      have hc : (w1.alloc (.cells #[Value.int .i64 1] 3)).cell? ⟨w1.heap.size, 0, none⟩ = some (.int .i64 1) := by
        unfold World.cell?
        simp only [this]
        rfl
      have ha : (⟨w1.heap.size, 0, none⟩ : Addr).add 0 = ⟨w1.heap.size, 0, none⟩ := rfl
      rw [ha, hc]
      simpa using hu
    have HO := Lib.hid hown
    have NS := Lib.hid news
    have bs : B ≤ w1.heap.size := Nat.le_trans hB F1.out.size
    clear hown news
    go_wp2_with (at_builtin; refine wpList_append_own_at _ rfl _ _ 24 rfl B 3 fi (.int .i64 0) 1 8 underlying_ints hfi hz0 hz1 hz2 rfl (by decide) _ _ _ rfl HO.out ⟨w1.heap.size, 0, none⟩ 1 1 [.int .i64 1] ?hx ?hl ?hnews ?h1 ?h63 ?hbytes ?hbase ?hnext)
    case hx => rfl
    case hl => rfl
    case hnews => exact NS.out
    case h1 => intro u hu; simp at hu; subst hu; rfl
    case h63 => unfold maxLen; omega
    case hbytes => omega
    case hbase => simp; omega
    case hnext =>
      rintro v' w2 ho hg2 - hbk
      have O2 : Hid (OwnC B w2 v' (zs ++ [1])) := OwnC.of_row (by rw [List.length_append, HZ.out, List.map_append]; exact ho)
      have K0 := Lib.hid ((K0.out.old (.cells #[.int .i64 1] 3)).keepOne (c := g) (by simpa [Value.ownBlock] using hg2) (Ne.symm (I1.out.ints.ne_blk K0.out)))
      have K2 := Lib.hid ((K2.out.old (.cells #[.int .i64 1] 3)).keepOne (c := g) (by simpa [Value.ownBlock] using hg2) (Ne.symm (I1.out.ints.ne_blk K2.out)))
      have fx : FrS (fun k => k = cb ∨ k = g ∨ w.heap.size ≤ k) (w1.alloc (.cells #[.int .i64 1] 3)) w2 := FrS.of_one (g := g) (by simpa [Value.ownBlock] using hg2) (.inr (.inl rfl))
      have F2 := Lib.hid ((F1.out.alloc _).trans fx)
      have C2 := Lib.hid ((C1.out.alloc (.cells #[.int .i64 1] 3)).frs (FrS.of_one (p := fun k => k = g) (g := g) (by simpa [Value.ownBlock] using hg2) rfl) (fun k hk => by omega))
      obtain ⟨q2, qc2, rfl, -, -⟩ := (O2.out.own (by rw [List.length_append, HZ.out]; simp; omega)).form
      clear ho hg2 hbk fx
      obtain ⟨s0, s1, s2, f0, f1, f2⟩ := K0.out.all
      obtain ⟨u0, u1, u2, v0, v1, v2⟩ := K2.out.all
      have EL : (zs ++ [(1 : Int)]).length = n + 1 := by rw [List.length_append, HZ.out]; rfl
      rw [EL] at O2 ⊢
      go_wp2_with fail
      obtain ⟨E0, E1, E2, -, -, -⟩ := ((((K2.out.far (a := ⟨w.heap.size, 2, none⟩) (by simp) (.slice q2 (n + 1) qc2)).set0 (.int .i64 r)).set1 (.int .i64 c)).set2 (.slice q2 (n + 1) qc2)).all
      exact bodyPost_ret (v := .agg #[.int .i64 r, .int .i64 c, .slice q2 (n + 1) qc2]) (by simp [results, Try.results80, go_sem, E0, E1, E2]) rfl (CurMatR.end_ (O2.out.out1 K0.out 2 _) (by rw [EL]; omega) (K2.out.far (by simp) _) (C2.out.setFar (by show cb < w.heap.size; omega) _) (by omega) (by omega) (F2.out.set (.inl (.inr (.inr (Nat.le_refl _)))) _))
  · have n0 : (k == 0) = false := by simpa using e0
    have n1 : (k == 1) = false := by simpa using e1
    have n2 : (k == 2) = false := by simpa using e2
    go_wp2_with fail
    obtain ⟨E0, E1, E2, -, -, -⟩ := (((K2.out.set0 (.int .i64 r)).set1 (.int .i64 c)).set2 (.slice (some ⟨g, 0, none⟩) n cap)).all
    exact bodyPost_ret (v := .agg #[.int .i64 r, .int .i64 c, .slice (some ⟨g, 0, none⟩) n cap]) (by simp [results, Try.results80, go_sem, E0, E1, E2]) rfl (CurMatR.end_ O1.out (by rw [HZ.out]; omega) K2.out C1.out (by omega) (by omega) F1.out)

set_option maxRecDepth 100000 in
set_option maxHeartbeats 2000000 in
theorem l3SquareR (w : World) (cb : Nat) (hc : Cur w cb) :
    Calls Try.prog 39 #[.pointer (some ⟨cb, 0, none⟩)] w (CurMatR w.heap.size 17 cb (fun k => k = cb ∨ w.heap.size ≤ k) w) := by
  have hlt := hc.lt
  have C0 := Lib.hid hc
  clear hc
  go_enter Try.func39, Try.ntmps39
  go_wp2_with fail
  refine (l1Below _ cb 5 (C0.out.alloc (.cells #[.int .i64 0, .int .i64 0, .slice none 0 0] 26)) (by omega)).mono ?_
  rintro e w1 ⟨R, ⟨r0, r1⟩, rfl, hc1, hg1⟩
  have K2 : Hid (Blk3 w1 w.heap.size 26 (.int .i64 0) (.int .i64 0) (.slice none 0 0)) := (Blk3.at_ _ _ _ _ rfl).keepOne hg1 (by omega)
  have C1 := Lib.hid hc1
  have F1 : Hid (FrS (fun k => k = cb ∨ w.heap.size ≤ k) w w1) := ((FrS.refl _ w).alloc _).trans (FrS.of_one hg1 (.inl rfl))
  clear hc1 hg1 C0
  have lk := K2.out.lt
  have lc := C1.out.lt
  go_wp2_with fail
  refine (l1PickInt (fun z => 1 ≤ z ∧ z ≤ 9) _ cb w1.heap.size 3 (C1.out.alloc _) ?_ (by omega) (by omega) (by omega)).mono ?_
  · exact IntList.new [1, 3, 9] (by decide) w1 3
  rintro e w3 ⟨z, ⟨z0, z1⟩, rfl, hc3, hg3⟩
  have K2 := Lib.hid ((K2.out.old _).keepOne hg3 (by omega))
  have C3 := Lib.hid hc3
  have F3 := Lib.hid ((F1.out.alloc _).trans (FrS.of_one hg3 (.inl rfl)))
  clear hc3 hg3 C1 F1 lk lc
  obtain ⟨R, rfl⟩ := Int.eq_ofNat_of_zero_le r0
  obtain ⟨z, rfl⟩ := Int.eq_ofNat_of_zero_le (show 0 ≤ z by omega)
  have lk := K2.out.lt
  have lc := C3.out.lt
  go_wp2_with fail
  refine (l3Draw _ cb R R z C3.out (by omega) (by omega) (by omega)).mono ?_
  rintro e w4 ⟨g, zs, rfl, hg, hz, hi, hc4, hg4⟩
  obtain ⟨N, hN⟩ : ∃ N, R * R = N := ⟨_, rfl⟩
  have hNle : N ≤ 16 := by rw [← hN]; exact Nat.mul_le_mul (show R ≤ 4 by omega) (show R ≤ 4 by omega)
  have HN := Lib.hid hN
  rw [hN] at hz hi ⊢
  have HZ := Lib.hid hz
  have K2 := Lib.hid ((K2.out.keepOne hg4 (by omega)).old (.cells #[.int .i64 R, .int .i64 R, .slice (some ⟨g, 0, none⟩) N N] 26))
  have K6 : Hid (Blk3 (w4.alloc (.cells #[.int .i64 R, .int .i64 R, .slice (some ⟨g, 0, none⟩) N N] 26)) w4.heap.size 26 (.int .i64 R) (.int .i64 R) (.slice (some ⟨g, 0, none⟩) N N)) := Blk3.at_ _ _ _ _ rfl
  have CU := Lib.hid (hc4.alloc (.cells #[.int .i64 R, .int .i64 R, .slice (some ⟨g, 0, none⟩) N N] 26))
  have FR := Lib.hid ((F3.out.trans (FrS.of_one hg4 (.inl rfl))).alloc (.cells #[.int .i64 R, .int .i64 R, .slice (some ⟨g, 0, none⟩) N N] 26))
  have I := Lib.hid (hi.old (.cells #[.int .i64 R, .int .i64 R, .slice (some ⟨g, 0, none⟩) N N] 26))
  have gp := hi.lt
  have wg : w.heap.size < g := by omega
  have wp : w.heap.size < w4.heap.size := by omega
  have hw4 := FR.out.size
  clear hN hz hi hc4 hg4 hg F3 C3 lk lc
  obtain ⟨x0, x1, x2, -, -, -⟩ := K6.out.all
  by_cases h1 : (1 : Int) < R
  · go_wp2_with fail
    refine (l1Once _ cb 6 CU.out (by omega)).mono ?_
    rintro e w5 ⟨b, rfl, hc5, hg5⟩
    have K2 := Lib.hid (K2.out.keepOne hg5 (by omega))
    have K6 := Lib.hid (K6.out.keepOne hg5 (by omega))
    have CU := Lib.hid hc5
    have FR := Lib.hid (FR.out.trans (FrS.of_one hg5 (.inl rfl)))
    have I := Lib.hid (I.out.move (hg5.block g I.out.lt (by simp; omega)))
    clear hc5 hg5 x0 x1 x2
    obtain ⟨x0, x1, x2, -, -, -⟩ := K6.out.all
    cases b with
    | false =>
      go_wp2_with fail
      refine (l3SpoilR _ cb w.heap.size g N N R R zs CU.out hlt FR.out.size (by omega) I.out HZ.out (by omega) (by omega) (by omega)).mono ?_
      rintro e w9 ⟨r', c', v', zs', rfl, own, hl, hr9, hc9, hf⟩
      obtain ⟨q9, qc9, rfl, -, -⟩ := (own.own (by omega)).form
      have lk9 := K2.out.lt
      have K2 := Lib.hid (K2.out.frs hf (by omega))
      have F9 := Lib.hid (FR.out.trans ((hf.mono (q := fun k => k = cb ∨ w.heap.size ≤ k) (fun k hk => by have := FR.out.size; omega))))
      have O9 := Lib.hid own
      have C9 := Lib.hid hc9
      have HL := Lib.hid hl
      clear own hl hc9 hf
      obtain ⟨y0, y1, y2, y3, y4, y5⟩ := K2.out.all
      go_wp2_with fail
      obtain ⟨E0, E1, E2, -, -, -⟩ := (((K2.out.set0 (.int .i64 r')).set1 (.int .i64 c')).set2 (.slice q9 zs'.length qc9)).all
      exact bodyPost_ret (v := .agg #[.int .i64 r', .int .i64 c', .slice q9 zs'.length qc9]) (by simp [results, Try.results39, go_sem, E0, E1, E2]) rfl (CurMatR.end_ O9.out (by have := HL.out; omega) K2.out C9.out hlt (.inr (Nat.le_refl _)) F9.out)
    | true =>
      go_wp2_with fail
      go_loopw [5] (fun i wr => ∃ (k : Nat) (zs : List Int), i = .int .i64 k ∧ k ≤ R ∧ zs.length = N ∧ IntsC wr g N zs ∧ FrS (fun k => k = g) w5 wr) (fun i _ => R - (intOf i).toNat)
      case atStart => exact ⟨0, zs, rfl, by omega, HZ.out, I.out, FrS.refl _ _⟩
      case round =>
        clear HZ
        obtain ⟨k, zs, rfl, hk, hz, hi, hfr⟩ := hrel
        have HZ := Lib.hid hz
        have I := Lib.hid hi
        have FG := Lib.hid hfr
        clear hz hi hfr x0 x1 x2
        have K6 := Lib.hid (K6.out.frs FG.out (by omega))
        obtain ⟨x0, x1, x2, -, -, -⟩ := K6.out.all
        by_cases hk2 : k < R
        · have q0 : 2 * R ≤ N := by rw [← HN.out]; exact Nat.mul_le_mul_right R (by omega)
          have q1 : R + k < N := by omega
          have q2 : k < N := by omega
          have hc1 := I.out.ints.cell (i := R + k) (by rw [HZ.out]; exact q1)
          have hc2 := I.out.ints.cell (i := k) (by rw [HZ.out]; exact q2)
          have hfr := I.out.ints.free k
          obtain ⟨x, hx⟩ : ∃ x, zs.getD (R + k) 0 = x := ⟨_, rfl⟩
          rw [hx] at hc1
          obtain ⟨y, hy⟩ : ∃ y, zs.getD k 0 = y := ⟨_, rfl⟩
          rw [hy] at hc2
          have e1 : 0 ≤ (R : Int) + (k : Int) := by omega
          have e2 : (R : Int) + (k : Int) < (N : Int) := by omega
          have e3 : ((R : Int) + (k : Int)).toNat = R + k := by omega
          have v2 : IntKind.i64.wrap ((R : Int) + (k : Int)) = (R : Int) + (k : Int) := IntWalk.i64_in _ (by omega)
          clear hx hy
          go_wp2_with fail
          go_still_tail 11, (by kernel_rfl)
          go_wp2_with fail
          go_roundw
          case rel =>
            refine ⟨k + 1, zs.set k x, by go_num, by omega, by rw [List.length_set]; exact HZ.out, ?_, ?_⟩
            · exact I.out.drew.set k (by rw [HZ.out]; exact q2) _
            · exact (FG.out.drew).set (a := ⟨g, k, none⟩) (.inl rfl) _
          case measure => simp [intOf]; omega
        · have hk3 : decide (k < R) = false := by simpa using hk2
          have K2 := Lib.hid (K2.out.frs FG.out (by omega))
          have CU := Lib.hid (CU.out.frs FG.out (fun k hk => by omega))
          have FR := Lib.hid (FR.out.trans (FG.out.mono (q := fun k => k = cb ∨ w.heap.size ≤ k) (fun k hk => by omega)))
          go_wp2_with fail
          refine (l3SpoilR _ cb w.heap.size g N N R R zs CU.out hlt FR.out.size (by omega) I.out HZ.out (by omega) (by omega) (by omega)).mono ?_
          rintro e w9 ⟨r', c', v', zs', rfl, own, hl, hr9, hc9, hf⟩
          obtain ⟨q9, qc9, rfl, -, -⟩ := (own.own (by omega)).form
          have lk9 := K2.out.lt
          have K2 := Lib.hid (K2.out.frs hf (by omega))
          have F9 := Lib.hid (FR.out.trans ((hf.mono (q := fun k => k = cb ∨ w.heap.size ≤ k) (fun k hk => by have := FR.out.size; omega))))
          have O9 := Lib.hid own
          have C9 := Lib.hid hc9
          have HL := Lib.hid hl
          clear own hl hc9 hf
          obtain ⟨y0, y1, y2, y3, y4, y5⟩ := K2.out.all
          go_wp2_with fail
          obtain ⟨E0, E1, E2, -, -, -⟩ := (((K2.out.set0 (.int .i64 r')).set1 (.int .i64 c')).set2 (.slice q9 zs'.length qc9)).all
          exact bodyPost_ret (v := .agg #[.int .i64 r', .int .i64 c', .slice q9 zs'.length qc9]) (by simp [results, Try.results39, go_sem, E0, E1, E2]) rfl (CurMatR.end_ O9.out (by have := HL.out; omega) K2.out C9.out hlt (.inr (Nat.le_refl _)) F9.out)
  · have h1' : decide ((1 : Int) < (R : Int)) = false := by simpa using h1
    go_wp2_with fail
    refine (l3SpoilR _ cb w.heap.size g N N R R zs CU.out hlt FR.out.size (by omega) I.out HZ.out (by omega) (by omega) (by omega)).mono ?_
    rintro e w9 ⟨r', c', v', zs', rfl, own, hl, hr9, hc9, hf⟩
    obtain ⟨q9, qc9, rfl, -, -⟩ := (own.own (by omega)).form
    have lk9 := K2.out.lt
    have K2 := Lib.hid (K2.out.frs hf (by omega))
    have F9 := Lib.hid (FR.out.trans ((hf.mono (q := fun k => k = cb ∨ w.heap.size ≤ k) (fun k hk => by have := FR.out.size; omega))))
    have O9 := Lib.hid own
    have C9 := Lib.hid hc9
    have HL := Lib.hid hl
    clear own hl hc9 hf
    obtain ⟨y0, y1, y2, y3, y4, y5⟩ := K2.out.all
    go_wp2_with fail
    obtain ⟨E0, E1, E2, -, -, -⟩ := (((K2.out.set0 (.int .i64 r')).set1 (.int .i64 c')).set2 (.slice q9 zs'.length qc9)).all
    exact bodyPost_ret (v := .agg #[.int .i64 r', .int .i64 c', .slice q9 zs'.length qc9]) (by simp [results, Try.results39, go_sem, E0, E1, E2]) rfl (CurMatR.end_ O9.out (by have := HL.out; omega) K2.out C9.out hlt (.inr (Nat.le_refl _)) F9.out)
end Go.Proofs.Ytcapddcmnjeloaa
end

section
/-
  The drawing of matrices: a square one of up to 4 rows.
-/
namespace Go.Proofs.Ytcapddcmnjeloaa
set_option maxRecDepth 100000
open Go.RowKit

set_option maxRecDepth 100000 in
set_option maxHeartbeats 2000000 in
theorem l3Square (w : World) (cb : Nat) (hc : Cur w cb) :
    Calls Try.prog 39 #[.pointer (some ⟨cb, 0, none⟩)] w (CurMat w.heap.size 17 cb (fun k => k = cb ∨ w.heap.size ≤ k) w) := by
  have hlt := hc.lt
  have C0 := Lib.hid hc
  clear hc
  go_enter Try.func39, Try.ntmps39
  go_wp2_with fail
  refine (l1Below _ cb 5 (C0.out.alloc (.cells #[.int .i64 0, .int .i64 0, .slice none 0 0] 26)) (by omega)).mono ?_
  rintro e w1 ⟨R, ⟨r0, r1⟩, rfl, hc1, hg1⟩
  have K2 : Hid (Blk3 w1 w.heap.size 26 (.int .i64 0) (.int .i64 0) (.slice none 0 0)) := (Blk3.at_ _ _ _ _ rfl).keepOne hg1 (by omega)
  have C1 := Lib.hid hc1
  have F1 : Hid (FrS (fun k => k = cb ∨ w.heap.size ≤ k) w w1) := ((FrS.refl _ w).alloc _).trans (FrS.of_one hg1 (.inl rfl))
  clear hc1 hg1 C0
  have lk := K2.out.lt
  have lc := C1.out.lt
  go_wp2_with fail
  refine (l1PickInt (fun z => 1 ≤ z ∧ z ≤ 9) _ cb w1.heap.size 3 (C1.out.alloc _) ?_ (by omega) (by omega) (by omega)).mono ?_
  · exact IntList.new [1, 3, 9] (by decide) w1 3
  rintro e w3 ⟨z, ⟨z0, z1⟩, rfl, hc3, hg3⟩
  have K2 := Lib.hid ((K2.out.old _).keepOne hg3 (by omega))
  have C3 := Lib.hid hc3
  have F3 := Lib.hid ((F1.out.alloc _).trans (FrS.of_one hg3 (.inl rfl)))
  clear hc3 hg3 C1 F1 lk lc
  obtain ⟨R, rfl⟩ := Int.eq_ofNat_of_zero_le r0
  obtain ⟨z, rfl⟩ := Int.eq_ofNat_of_zero_le (show 0 ≤ z by omega)
  have lk := K2.out.lt
  have lc := C3.out.lt
  go_wp2_with fail
  refine (l3Draw _ cb R R z C3.out (by omega) (by omega) (by omega)).mono ?_
  rintro e w4 ⟨g, zs, rfl, hg, hz, hi, hc4, hg4⟩
  obtain ⟨N, hN⟩ : ∃ N, R * R = N := ⟨_, rfl⟩
  have hNle : N ≤ 16 := by rw [← hN]; exact Nat.mul_le_mul (show R ≤ 4 by omega) (show R ≤ 4 by omega)
  have HN := Lib.hid hN
  rw [hN] at hz hi ⊢
  have HZ := Lib.hid hz
  have K2 := Lib.hid ((K2.out.keepOne hg4 (by omega)).old (.cells #[.int .i64 R, .int .i64 R, .slice (some ⟨g, 0, none⟩) N N] 26))
  have K6 : Hid (Blk3 (w4.alloc (.cells #[.int .i64 R, .int .i64 R, .slice (some ⟨g, 0, none⟩) N N] 26)) w4.heap.size 26 (.int .i64 R) (.int .i64 R) (.slice (some ⟨g, 0, none⟩) N N)) := Blk3.at_ _ _ _ _ rfl
  have CU := Lib.hid (hc4.alloc (.cells #[.int .i64 R, .int .i64 R, .slice (some ⟨g, 0, none⟩) N N] 26))
  have FR := Lib.hid ((F3.out.trans (FrS.of_one hg4 (.inl rfl))).alloc (.cells #[.int .i64 R, .int .i64 R, .slice (some ⟨g, 0, none⟩) N N] 26))
  have I := Lib.hid (hi.old (.cells #[.int .i64 R, .int .i64 R, .slice (some ⟨g, 0, none⟩) N N] 26))
  have gp := hi.lt
  have wg : w.heap.size < g := by omega
  have wp : w.heap.size < w4.heap.size := by omega
  have hw4 := FR.out.size
  clear hN hz hi hc4 hg4 hg F3 C3 lk lc
  obtain ⟨x0, x1, x2, -, -, -⟩ := K6.out.all
  by_cases h1 : (1 : Int) < R
  · go_wp2_with fail
    refine (l1Once _ cb 6 CU.out (by omega)).mono ?_
    rintro e w5 ⟨b, rfl, hc5, hg5⟩
    have K2 := Lib.hid (K2.out.keepOne hg5 (by omega))
    have K6 := Lib.hid (K6.out.keepOne hg5 (by omega))
    have CU := Lib.hid hc5
    have FR := Lib.hid (FR.out.trans (FrS.of_one hg5 (.inl rfl)))
    have I := Lib.hid (I.out.move (hg5.block g I.out.lt (by simp; omega)))
    clear hc5 hg5 x0 x1 x2
    obtain ⟨x0, x1, x2, -, -, -⟩ := K6.out.all
    cases b with
    | false =>
      go_wp2_with fail
      refine (l3Spoil _ cb w.heap.size g N N R R zs CU.out hlt FR.out.size (by omega) I.out HZ.out (by omega)).mono ?_
      rintro e w9 ⟨r', c', v', zs', rfl, own, hl, hc9, hf⟩
      obtain ⟨q9, qc9, rfl, -, -⟩ := (own.own (by omega)).form
      have lk9 := K2.out.lt
      have K2 := Lib.hid (K2.out.frs hf (by omega))
      have F9 := Lib.hid (FR.out.trans ((hf.mono (q := fun k => k = cb ∨ w.heap.size ≤ k) (fun k hk => by have := FR.out.size; omega))))
      have O9 := Lib.hid own
      have C9 := Lib.hid hc9
      have HL := Lib.hid hl
      clear own hl hc9 hf
      obtain ⟨y0, y1, y2, y3, y4, y5⟩ := K2.out.all
      go_wp2_with fail
      obtain ⟨E0, E1, E2, -, -, -⟩ := (((K2.out.set0 (.int .i64 r')).set1 (.int .i64 c')).set2 (.slice q9 zs'.length qc9)).all
      exact bodyPost_ret (v := .agg #[.int .i64 r', .int .i64 c', .slice q9 zs'.length qc9]) (by simp [results, Try.results39, go_sem, E0, E1, E2]) rfl (CurMat.end_ O9.out (by have := HL.out; omega) K2.out C9.out hlt (.inr (Nat.le_refl _)) F9.out)
    | true =>
      go_wp2_with fail
      go_loopw [5] (fun i wr => ∃ (k : Nat) (zs : List Int), i = .int .i64 k ∧ k ≤ R ∧ zs.length = N ∧ IntsC wr g N zs ∧ FrS (fun k => k = g) w5 wr) (fun i _ => R - (intOf i).toNat)
      case atStart => exact ⟨0, zs, rfl, by omega, HZ.out, I.out, FrS.refl _ _⟩
      case round =>
        clear HZ
        obtain ⟨k, zs, rfl, hk, hz, hi, hfr⟩ := hrel
        have HZ := Lib.hid hz
        have I := Lib.hid hi
        have FG := Lib.hid hfr
        clear hz hi hfr x0 x1 x2
        have K6 := Lib.hid (K6.out.frs FG.out (by omega))
        obtain ⟨x0, x1, x2, -, -, -⟩ := K6.out.all
        by_cases hk2 : k < R
        · have q0 : 2 * R ≤ N := by rw [← HN.out]; exact Nat.mul_le_mul_right R (by omega)
          have q1 : R + k < N := by omega
          have q2 : k < N := by omega
          have hc1 := I.out.ints.cell (i := R + k) (by rw [HZ.out]; exact q1)
          have hc2 := I.out.ints.cell (i := k) (by rw [HZ.out]; exact q2)
          have hfr := I.out.ints.free k
          obtain ⟨x, hx⟩ : ∃ x, zs.getD (R + k) 0 = x := ⟨_, rfl⟩
          rw [hx] at hc1
          obtain ⟨y, hy⟩ : ∃ y, zs.getD k 0 = y := ⟨_, rfl⟩
          rw [hy] at hc2
          have e1 : 0 ≤ (R : Int) + (k : Int) := by omega
          have e2 : (R : Int) + (k : Int) < (N : Int) := by omega
          have e3 : ((R : Int) + (k : Int)).toNat = R + k := by omega
          have v2 : IntKind.i64.wrap ((R : Int) + (k : Int)) = (R : Int) + (k : Int) := IntWalk.i64_in _ (by omega)
          clear hx hy
          go_wp2_with fail
          go_still_tail 11, (by kernel_rfl)
          go_wp2_with fail
          go_roundw
          case rel =>
            refine ⟨k + 1, zs.set k x, by go_num, by omega, by rw [List.length_set]; exact HZ.out, ?_, ?_⟩
            · exact I.out.drew.set k (by rw [HZ.out]; exact q2) _
            · exact (FG.out.drew).set (a := ⟨g, k, none⟩) (.inl rfl) _
          case measure => simp [intOf]; omega
        · have hk3 : decide (k < R) = false := by simpa using hk2
          have K2 := Lib.hid (K2.out.frs FG.out (by omega))
          have CU := Lib.hid (CU.out.frs FG.out (fun k hk => by omega))
          have FR := Lib.hid (FR.out.trans (FG.out.mono (q := fun k => k = cb ∨ w.heap.size ≤ k) (fun k hk => by omega)))
          go_wp2_with fail
          refine (l3Spoil _ cb w.heap.size g N N R R zs CU.out hlt FR.out.size (by omega) I.out HZ.out (by omega)).mono ?_
          rintro e w9 ⟨r', c', v', zs', rfl, own, hl, hc9, hf⟩
          obtain ⟨q9, qc9, rfl, -, -⟩ := (own.own (by omega)).form
          have lk9 := K2.out.lt
          have K2 := Lib.hid (K2.out.frs hf (by omega))
          have F9 := Lib.hid (FR.out.trans ((hf.mono (q := fun k => k = cb ∨ w.heap.size ≤ k) (fun k hk => by have := FR.out.size; omega))))
          have O9 := Lib.hid own
          have C9 := Lib.hid hc9
          have HL := Lib.hid hl
          clear own hl hc9 hf
          obtain ⟨y0, y1, y2, y3, y4, y5⟩ := K2.out.all
          go_wp2_with fail
          obtain ⟨E0, E1, E2, -, -, -⟩ := (((K2.out.set0 (.int .i64 r')).set1 (.int .i64 c')).set2 (.slice q9 zs'.length qc9)).all
          exact bodyPost_ret (v := .agg #[.int .i64 r', .int .i64 c', .slice q9 zs'.length qc9]) (by simp [results, Try.results39, go_sem, E0, E1, E2]) rfl (CurMat.end_ O9.out (by have := HL.out; omega) K2.out C9.out hlt (.inr (Nat.le_refl _)) F9.out)
  · have h1' : decide ((1 : Int) < (R : Int)) = false := by simpa using h1
    go_wp2_with fail
    refine (l3Spoil _ cb w.heap.size g N N R R zs CU.out hlt FR.out.size (by omega) I.out HZ.out (by omega)).mono ?_
    rintro e w9 ⟨r', c', v', zs', rfl, own, hl, hc9, hf⟩
    obtain ⟨q9, qc9, rfl, -, -⟩ := (own.own (by omega)).form
    have lk9 := K2.out.lt
    have K2 := Lib.hid (K2.out.frs hf (by omega))
    have F9 := Lib.hid (FR.out.trans ((hf.mono (q := fun k => k = cb ∨ w.heap.size ≤ k) (fun k hk => by have := FR.out.size; omega))))
    have O9 := Lib.hid own
    have C9 := Lib.hid hc9
    have HL := Lib.hid hl
    clear own hl hc9 hf
    obtain ⟨y0, y1, y2, y3, y4, y5⟩ := K2.out.all
    go_wp2_with fail
    obtain ⟨E0, E1, E2, -, -, -⟩ := (((K2.out.set0 (.int .i64 r')).set1 (.int .i64 c')).set2 (.slice q9 zs'.length qc9)).all
    exact bodyPost_ret (v := .agg #[.int .i64 r', .int .i64 c', .slice q9 zs'.length qc9]) (by simp [results, Try.results39, go_sem, E0, E1, E2]) rfl (CurMat.end_ O9.out (by have := HL.out; omega) K2.out C9.out hlt (.inr (Nat.le_refl _)) F9.out)
end Go.Proofs.Ytcapddcmnjeloaa
end

section
/-
  A code that came in as a slice of bytes, as the drawing takes it; and the laws' own look at its length.
-/
namespace Go.Proofs.Ytcapddcmnjeloaa
open Go.RowKit

theorem codeIn_none (w : World) : CodeIn w none 0 := ⟨Nat.zero_le _, fun _ hk => absurd hk (Nat.not_lt_zero _)⟩
theorem codeIn_some {w : World} {x : Addr} {len cap : Nat} {zs : List Int} (hl : len ≤ cap) (hm : cap ≤ maxLen) (hz : zs.length = cap)
    (hcell : ∀ i, i < zs.length → w.cell? (x.add i) = some (.int .u8 (zs.getD i 0))) (hwf : ∀ n ∈ zs, (Lit.int .u8 n).wf = true) : CodeIn w (some x) len := by
  refine ⟨Nat.le_trans hl hm, fun k hk => ?_⟩
  obtain ⟨b, o, rfl, hc⟩ := ints_at hcell (by omega)
  have bd := range_u8 hwf k
  exact ⟨b, o, zs.getD k 0, rfl, hc k (by omega), by simpa using bd.1, by simpa using bd.2⟩

theorem big_no (w : World) (a : Option Addr) (len cap : Nat) (h : len ≤ 1048576) : Calls Try.prog 8 #[.slice a len cap] w fun e w' => e = .returned (.bool false) ∧ w = w' := by
  have h' : decide ((1048576 : Int) < (len : Int)) = false := by simp; omega
  clear h
  go_enter Try.func8, Try.ntmps8
  go_wp2
  go_ret
  exact ⟨rfl, rfl⟩
theorem big_yes (w : World) (a : Option Addr) (len cap : Nat) (h : 1048576 < len) : Calls Try.prog 8 #[.slice a len cap] w fun e w' => e = .returned (.bool true) ∧ w = w' := by
  have h' : decide ((1048576 : Int) < (len : Int)) = true := by simp; omega
  clear h
  go_enter Try.func8, Try.ntmps8
  go_wp2
  go_ret
  exact ⟨rfl, rfl⟩

end Go.Proofs.Ytcapddcmnjeloaa
end

section
/-
  What the drawing of a matrix gives: any matrix of the call's own, valid or not.
-/
namespace Go.Proofs.Ytcapddcmnjeloaa
set_option maxRecDepth 100000
open Go.RowKit

/-- A matrix, whatever it is, in memory of the call's own. -/
def AnyMat (w : World) (e : Ending) (w' : World) : Prop := ∃ (r c : Int) (q : Option Addr) (qc : Nat) (zs : List Int), e = .returned (.agg #[.int .i64 r, .int .i64 c, .slice q zs.length qc]) ∧ Own w.heap.size w' (.slice q zs.length qc) zs ∧ zs.length ≤ 601 ∧ Below w.heap.size w w'
theorem AnyMat.end_ {w W : World} {B b : Nat} {r c : Int} {v p q s : Value} {zs : List Int} {pr : Nat → Prop} (own : OwnC B W v zs) (hl : zs.length ≤ 601) (k : Blk3 W b 26 p q s) (hB : w.heap.size ≤ B) (hb : w.heap.size ≤ b) (f : FrS pr w W) (hp : ∀ k, pr k → w.heap.size ≤ k) :
    ∃ (q : Option Addr) (qc : Nat), v = .slice q zs.length qc ∧ AnyMat w (.returned (.agg #[.int .i64 r, .int .i64 c, v])) (((W.setCell ⟨b, 0, none⟩ (.int .i64 r)).setCell ⟨b, 1, none⟩ (.int .i64 c)).setCell ⟨b, 2, none⟩ v) := by
  have o2 := ((own.out3 k (.int .i64 r) (.int .i64 c) v).own (by omega)).le hB
  obtain ⟨q, qc, rfl, -, -⟩ := o2.form
  refine ⟨q, qc, rfl, r, c, q, qc, zs, rfl, o2, hl, ?_⟩
  exact ((((f.below hp (Nat.le_refl _)).setCell hb _).setCell hb _).setCell hb _)
end Go.Proofs.Ytcapddcmnjeloaa
end

section
/-
  The drawing of a modulus, and of a square matrix with one.
-/
namespace Go.Proofs.Ytcapddcmnjeloaa
set_option maxRecDepth 100000
open Go.RowKit

set_option maxHeartbeats 400000 in
theorem l8Prime (w : World) (cb : Nat) (hc : Cur w cb) :
    Calls Try.prog 41 #[.pointer (some ⟨cb, 0, none⟩)] w (CurInt (fun r => -1 ≤ r ∧ r ≤ 10007) cb w) := by
  have HC := Lib.hid hc
  clear hc
  go_enter Try.func41, Try.ntmps41
  go_wp2_with (fail)
  refine (l1Once _ cb 12 HC.out (by omega)).mono ?_
  rintro e w1 ⟨b, rfl, hc1, hg1⟩
  have C1 := Lib.hid hc1
  have G1 := Lib.hid hg1
  have hlt := hc1.lt
  clear hc1 hg1
  cases b with
  | true =>
    go_wp2_with (fail)
    refine (l1PickInt (fun r => -1 ≤ r ∧ r ≤ 10007) _ cb w1.heap.size 7 (C1.out.alloc _) ?_ (by omega) (by omega) (by omega)).mono ?_
    · exact IntList.new [-1, 0, 1, 4, 9973, 10007, 9999] (by decide) w1 3
    rintro e w2 ⟨r, hr, rfl, hc2, hg2⟩
    have C2 := Lib.hid hc2
    have G2 := Lib.hid hg2
    have R := Lib.hid hr
    clear hc2 hg2 hr
    go_wp2_with (fail)
    go_ret
    exact ⟨r, R.out, rfl, C2.out, G1.out.trans ((World.grownBy_alloc w1 _ _).trans G2.out)⟩
  | false =>
    go_wp2_with (fail)
    refine (l1PickInt (fun r => -1 ≤ r ∧ r ≤ 10007) _ cb w1.heap.size 7 (C1.out.alloc _) ?_ (by omega) (by omega) (by omega)).mono ?_
    · exact IntList.new [2, 3, 5, 7, 11, 13, 101] (by decide) w1 3
    rintro e w2 ⟨r, hr, rfl, hc2, hg2⟩
    have C2 := Lib.hid hc2
    have G2 := Lib.hid hg2
    have R := Lib.hid hr
    clear hc2 hg2 hr
    go_wp2_with (fail)
    go_ret
    exact ⟨r, R.out, rfl, C2.out, G1.out.trans ((World.grownBy_alloc w1 _ _).trans G2.out)⟩

/-- A matrix of at most 17 cells, whatever it is, in memory of the call's own, and a number. -/
def MatPr (w : World) (e : Ending) (w' : World) : Prop := ∃ (r c : Int) (q : Option Addr) (qc : Nat) (zs : List Int) (p : Int), e = .returned (.tuple #[.agg #[.int .i64 r, .int .i64 c, .slice q zs.length qc], .int .i64 p]) ∧ Own w.heap.size w' (.slice q zs.length qc) zs ∧ zs.length ≤ 17 ∧ (-1 ≤ p ∧ p ≤ 10007) ∧ Below w.heap.size w w'

end Go.Proofs.Ytcapddcmnjeloaa
end

section
/-
  The drawing of a system over residues.
-/
namespace Go.Proofs.Ytcapddcmnjeloaa
set_option maxRecDepth 100000
open Go.RowKit

theorem l1Num9 (w : World) (cb : Nat) (hc : Cur w cb) : Calls Try.prog 81 #[.pointer (some ⟨cb, 0, none⟩), .int .i64 9] w (CurInt (fun _ => True) cb w) := by
  have C0 := Lib.hid hc
  clear hc
  go_enter Try.func81, Try.ntmps81
  go_wp2_with fail
  refine (l1Once _ cb 40 C0.out (by omega)).mono ?_
  rintro e w1 ⟨b, rfl, hc1, hg1⟩
  cases b with
  | true =>
    go_wp2_with fail
    refine (l1Odd _ cb hc1).mono ?_
    rintro e w2 h
    obtain ⟨r, -, rfl, hc2, hg2⟩ := h
    have C2 := Lib.hid hc2
    have G2 := Lib.hid (hg1.trans hg2)
    clear hc1 hg1 hc2 hg2
    go_wp2_with fail
    go_ret
    exact ⟨r, trivial, rfl, C2.out, G2.out⟩
  | false =>
    go_wp2_with fail
    refine (l1Below _ cb 19 hc1 (by omega)).mono ?_
    rintro e w2 ⟨r, ⟨r0, r1⟩, rfl, hc2, hg2⟩
    have C2 := Lib.hid hc2
    have G2 := Lib.hid (hg1.trans hg2)
    have v : IntKind.i64.wrap (r - 9) = r - 9 := IntWalk.i64_in _ (by omega)
    clear hc1 hg1 hc2 hg2
    go_wp2_with fail
    go_ret
    exact ⟨r - 9, trivial, rfl, C2.out, G2.out⟩

/-- Some ints in memory of the call's own. -/
def CurLis (cb : Nat) (w : World) (e : Ending) (w' : World) : Prop := ∃ (v : Value) (l : List Int), e = .returned v ∧ w'.ownsRow w.heap.size 3 1 v l.length (l.map (Value.int .i64)) ∧ l.length ≤ 31 ∧ Cur w' cb ∧ FrS (fun k => k = cb ∨ w.heap.size ≤ k) w w'
theorem ownI_far {w : World} {B cb n : Nat} {e : TypeId} {size : Nat} {v : Value} {xs : List Value} (h : w.ownsRow B e size v n xs) (hB : cb < B) : v.ownBlock = none ∨ v.ownBlock ≠ some cb := by
  cases hv : v.ownBlock with
  | none => exact .inl rfl
  | some k => exact .inr (fun h' => by have := (h.lt k hv).1; injection h' with h'; omega)
theorem rowsI_form {w : World} {base n : Nat} {e : TypeId} {size : Nat} {v : Value} {xs : List Value} (h : w.ownsRow base e size v n xs) : ∃ a m c, v = .slice a m c := by
  obtain ⟨h1, ⟨h2, h3⟩ | ⟨g, cap, cur, e, hB, hg, rest⟩⟩ := h
  · exact ⟨_, _, _, h2⟩
  · exact ⟨_, _, _, e⟩
theorem cellI_new (w : World) (t : TypeId) (z : Int) : ∀ (j : Nat) u, [Value.int .i64 z][j]? = some u → (w.alloc (.cells #[.int .i64 z] t)).cell? ((⟨w.heap.size, 0, none⟩ : Addr).add j) = some u := by
  intro j u hu
  have hj : j = 0 := by
    rcases j with _ | j
    · rfl
    · simp at hu
  subst hj
  have := heap_alloc_new w (.cells #[Value.int .i64 z] t)
  have hc : (w.alloc (.cells #[Value.int .i64 z] t)).cell? ⟨w.heap.size, 0, none⟩ = some (.int .i64 z) := by
    unfold World.cell?
    simp only [this]
    rfl
  have ha : (⟨w.heap.size, 0, none⟩ : Addr).add 0 = ⟨w.heap.size, 0, none⟩ := rfl
  rw [ha, hc]
  simpa using hu
set_option maxHeartbeats 4000000 in
theorem l8Right (w : World) (cb : Nat) (n : Int) (hc : Cur w cb) (hn : n ≤ 30) : Calls Try.prog 40 #[.pointer (some ⟨cb, 0, none⟩), .int .i64 n] w (CurLis cb w) := by
  have hlt := hc.lt
  have C0 := Lib.hid (hc.alloc (.cells #[] 3))
  have own0 : (w.alloc (.cells #[] 3)).ownsRow w.heap.size 3 1 (.slice (some ⟨w.heap.size, 0, none⟩) 0 0) 0 (([] : List Int).map (Value.int .i64)) := ⟨rfl, .inr ⟨w.heap.size, 0, #[], rfl, Nat.le_refl _, heap_alloc_new w _, Nat.le_refl _, by decide, rfl, rfl⟩⟩
  have O0 := Lib.hid own0
  have F0 : Hid (FrS (fun k => k = cb ∨ w.heap.size ≤ k) w (w.alloc (.cells #[] 3))) := (FrS.refl _ w).alloc _
  clear hc own0
  obtain ⟨fi, hfi, hz0, hz1, hz2⟩ := facts_int
  go_enter Try.func40, Try.ntmps40
  go_wp2_with fail
  go_loopw [5, 6] (fun v5 v6 wr => ∃ (i : Nat) (l : List Int), v6 = .int .i64 i ∧ l.length = i ∧ i ≤ n.toNat ∧ wr.ownsRow w.heap.size 3 1 v5 l.length (l.map (Value.int .i64)) ∧ Cur wr cb ∧ FrS (fun k => k = cb ∨ w.heap.size ≤ k) w wr) (fun _ v6 _ => n.toNat - (intOf v6).toNat)
  case atStart => exact ⟨0, [], rfl, rfl, by omega, O0.out, C0.out, F0.out⟩
  case round =>
    obtain ⟨i, l, rfl, hl, hi, ho, hcu, hf⟩ := hrel
    have O := Lib.hid ho
    have CU := Lib.hid hcu
    have FR := Lib.hid hf
    have s0 := hf.size
    obtain ⟨va, vm, vc, rfl⟩ := rowsI_form ho
    have LE : Hid (l.length = i) := hl
    have l30 : l.length ≤ 30 := by omega
    clear ho hcu hf C0 O0 F0 hl
    by_cases hgo : (i : Int) < n
    · go_wp2_with fail
      refine (l1Num9 _ cb CU.out).mono ?_
      rintro e w2 ⟨z, -, rfl, hc2, hg2⟩
      have s2 := hg2.size
      have O2 := Lib.hid ((O.out.kept hg2 (ownI_far O.out hlt)).kept (World.grownBy_alloc w2 (.cells #[.int .i64 z] 3) none) (by cases (Value.slice va vm vc).ownBlock <;> simp))
      have F2 := Lib.hid ((FR.out.trans (FrS.of_one (p := fun k => k = cb ∨ w.heap.size ≤ k) hg2 (.inl rfl))).alloc (.cells #[.int .i64 z] 3))
      have C2 := Lib.hid (hc2.alloc (.cells #[.int .i64 z] 3))
      clear hc2 hg2
      go_wp2_with (at_builtin; refine wpList_append_own_at _ rfl _ _ 24 rfl w.heap.size 3 fi (.int .i64 0) 1 8 underlying_ints hfi hz0 hz1 hz2 rfl (by decide) _ _ _ rfl O2.out ⟨w2.heap.size, 0, none⟩ 1 1 [.int .i64 z] ?hx ?hl ?hnews ?h1 ?h63 ?hbytes ?hbase ?hnext)
      case hx => rfl
      case hl => rfl
      case hnews => exact cellI_new _ _ _
      case h1 => intro v hv; simp at hv; subst hv; rfl
      case h63 => unfold maxLen; omega
      case hbytes => omega
      case hbase => exact F2.out.size
      case hnext =>
        rintro v2 wr2 ho2 hg2 - -
        obtain ⟨ua, um, uc, rfl⟩ := rowsI_form ho2
        have hfr : FrS (fun k => w.heap.size ≤ k) (w2.alloc (.cells #[.int .i64 z] 3)) wr2 := ⟨hg2.os, hg2.tape, hg2.output, hg2.size, fun k hk hn => hg2.block k hk (fun h => hn (O2.out.lt k h.symm).1)⟩
        have O3 : Hid (wr2.ownsRow w.heap.size 3 1 (.slice ua um uc) (l ++ [z]).length ((l ++ [z]).map (Value.int .i64))) := by
          refine Lib.hid ?_
          rw [List.map_append, List.length_append]
          exact ho2
        have C3 := Lib.hid (C2.out.frs hfr (fun k hk => by omega))
        have F3 := Lib.hid (F2.out.trans (hfr.mono (q := fun k => k = cb ∨ w.heap.size ≤ k) (fun k hk => .inr hk)))
        clear ho2 hg2 hfr
        go_wp2_with fail
        go_roundw
        case rel => exact ⟨i + 1, l ++ [z], by go_num, by rw [List.length_append, LE.out]; rfl, by omega, O3.out, C3.out, F3.out⟩
        case measure => simp [intOf]; omega
    · have n1 : decide ((i : Int) < n) = false := by simp; omega
      go_wp2_with fail
      refine (l1Once _ cb 24 CU.out (by omega)).mono ?_
      rintro e w2 ⟨b, rfl, hc2, hg2⟩
      have s2 := hg2.size
      have O1 := Lib.hid (O.out.kept hg2 (ownI_far O.out hlt))
      have F1 := Lib.hid (FR.out.trans (FrS.of_one (p := fun k => k = cb ∨ w.heap.size ≤ k) hg2 (.inl rfl)))
      have C1 := Lib.hid hc2
      clear hc2 hg2
      cases b with
      | false =>
        go_wp2_with fail
        go_ret
        exact ⟨_, l, rfl, O1.out, by omega, C1.out, F1.out⟩
      | true =>
        have O2 := Lib.hid (O1.out.kept (World.grownBy_alloc w2 (.cells #[.int .i64 1] 3) none) (by cases (Value.slice va vm vc).ownBlock <;> simp))
        have F2 := Lib.hid (F1.out.alloc (.cells #[.int .i64 1] 3))
        have C2 := Lib.hid (C1.out.alloc (.cells #[.int .i64 1] 3))
        go_wp2_with (at_builtin; refine wpList_append_own_at _ rfl _ _ 24 rfl w.heap.size 3 fi (.int .i64 0) 1 8 underlying_ints hfi hz0 hz1 hz2 rfl (by decide) _ _ _ rfl O2.out ⟨w2.heap.size, 0, none⟩ 1 1 [.int .i64 1] ?hx ?hl ?hnews ?h1 ?h63 ?hbytes ?hbase ?hnext)
        case hx => rfl
        case hl => rfl
        case hnews => exact cellI_new _ _ _
        case h1 => intro v hv; simp at hv; subst hv; rfl
        case h63 => unfold maxLen; omega
        case hbytes => omega
        case hbase => exact F2.out.size
        case hnext =>
          rintro v2 wr2 ho2 hg2 - -
          obtain ⟨ua, um, uc, rfl⟩ := rowsI_form ho2
          have hfr : FrS (fun k => w.heap.size ≤ k) (w2.alloc (.cells #[.int .i64 1] 3)) wr2 := ⟨hg2.os, hg2.tape, hg2.output, hg2.size, fun k hk hn => hg2.block k hk (fun h => hn (O2.out.lt k h.symm).1)⟩
          have O3 : Hid (wr2.ownsRow w.heap.size 3 1 (.slice ua um uc) (l ++ [1]).length ((l ++ [1]).map (Value.int .i64))) := by
            refine Lib.hid ?_
            rw [List.map_append, List.length_append]
            exact ho2
          have C3 := Lib.hid (C2.out.frs hfr (fun k hk => by omega))
          have F3 := Lib.hid (F2.out.trans (hfr.mono (q := fun k => k = cb ∨ w.heap.size ≤ k) (fun k hk => .inr hk)))
          clear ho2 hg2 hfr
          go_wp2_with fail
          go_ret
          exact ⟨_, l ++ [1], rfl, O3.out, by rw [List.length_append]; simp; omega, C3.out, F3.out⟩
/-- A matrix, a list and a number, in memory of the call's own. -/
def MatSv (w : World) (e : Ending) (w' : World) : Prop := ∃ (r c : Int) (q : Option Addr) (qc : Nat) (xs : List Int) (qb : Option Addr) (qbc : Nat) (bs : List Int) (p : Int), e = .returned (.tuple #[.agg #[.int .i64 r, .int .i64 c, .slice q xs.length qc], .slice qb bs.length qbc, .int .i64 p]) ∧ Own w.heap.size w' (.slice q xs.length qc) xs ∧ xs.length ≤ 17 ∧ Own w.heap.size w' (.slice qb bs.length qbc) bs ∧ bs.length ≤ 31 ∧ (-1 ≤ p ∧ p ≤ 10007) ∧ Below w.heap.size w w'
theorem Own.far8 {B : Nat} {w : World} {v : Value} {zs : List Int} (h : Own B w v zs) {b : Nat} (hb : b < B) (x y z : Value) : Own B (((w.setCell ⟨b, 0, none⟩ x).setCell ⟨b, 1, none⟩ y).setCell ⟨b, 2, none⟩ z) v zs := ((h.far (by exact hb) _).far (by exact hb) _).far (by exact hb) _
set_option maxHeartbeats 4000000 in
theorem drawSv (w : World) (a : Option Addr) (len cap : Nat) (hc : CodeIn w a len) : Calls Try.prog 9 #[.slice a len cap] w (MatSv w) := by
  have HC := Lib.hid hc
  clear hc
  go_enter Try.func9, Try.ntmps9
  go_wp2_with fail
  refine (l1New _ a len cap (HC.out.below ((Below.refl _ _).alloc (Nat.le_refl _) _))).mono ?_
  rintro e w1 ⟨cb, rfl, hcb, hc1, hb1⟩
  have CB : w.heap.size < cb := by simp at hcb; omega
  have K2 : Hid (Blk3 w1 w.heap.size 26 (.int .i64 0) (.int .i64 0) (.slice none 0 0)) := (Blk3.at_ _ _ _ _ rfl).keep hb1 (by simp)
  have F1 : Hid (FrS (fun k => w.heap.size ≤ k) w w1) := ((FrS.refl _ w).alloc _).trans (FrS.of_below hb1)
  have C1 := Lib.hid hc1
  clear hcb hc1 hb1
  go_wp2_with fail
  refine (l3SquareR _ cb C1.out).mono ?_
  rintro e w2 ⟨r, c, v, xs, rfl, own, hl, hr, hc2, hf⟩
  have s1 := F1.out.size
  have lk := K2.out.lt
  have c1 := C1.out.lt
  obtain ⟨q, qc, rfl, -, -⟩ := (own.own (by omega)).form
  have K2 := Lib.hid ((K2.out.frs hf (by omega)).old (.cells #[.int .i64 r, .int .i64 c, .slice q xs.length qc] 26))
  have F2 := Lib.hid ((F1.out.trans (hf.mono2 (q := fun k => w.heap.size ≤ k) (fun k _ hk => by omega))).alloc (.cells #[.int .i64 r, .int .i64 c, .slice q xs.length qc] 26))
  have C2 := Lib.hid (hc2.alloc (.cells #[.int .i64 r, .int .i64 c, .slice q xs.length qc] 26))
  have O2 : Hid (OwnC w1.heap.size (w2.alloc (.cells #[.int .i64 r, .int .i64 c, .slice q xs.length qc] 26)) (.slice q xs.length qc) xs) := own.frs ((FrS.refl (fun _ => False) w2).alloc _) (fun _ _ h => h)
  have K5 : Hid (Blk3 (w2.alloc (.cells #[.int .i64 r, .int .i64 c, .slice q xs.length qc] 26)) w2.heap.size 26 (.int .i64 r) (.int .i64 c) (.slice q xs.length qc)) := Blk3.at_ _ _ _ _ rfl
  have s2 := hf.size
  have HL := Lib.hid hl
  have HR := Lib.hid hr
  clear own hc2 hf hl hr
  go_upto_region 3 with fail
  obtain ⟨pb, hpb⟩ : ∃ pb, w2.heap.size = pb := ⟨_, rfl⟩
  generalize w2.alloc (.cells #[.int .i64 r, .int .i64 c, .slice q xs.length qc] 26) = W at K2 F2 C2 O2 K5 ⊢
  rw [hpb] at K5 s2 ⊢
  clear hpb
  have lW := K5.out.lt
  refine wp_region_held_drew (S := fun w' => FrS (fun k => k = cb ∨ k = w.heap.size ∨ W.heap.size ≤ k) W w') (by kernel_rfl) (FrS.refl _ _).drew (fun hH => ?_)
  refine wpAnyH_take (i := 0) (v := ?_) (by simp only [List.getElem?_toArray, List.getElem?_cons_zero]; rfl) (by kernel_rfl) (by kernel_rfl) (by kernel_rfl) (by exact fun _ _ _ h => h) (Or.inl ⟨by rfl, ?_⟩) hH ?_
  rotate_left
  · (intro wS hS; (try dsimp only at hS); obtain ⟨k1, k2, k3⟩ := sevenF K5.out hS (by omega); go_simp; try rfl)
  try simp only [Act.put, List.setIfInBounds_toArray, List.set_cons_zero, List.set_cons_succ]
  refine wpAnyH_take (i := 1) (v := ?_) (by simp only [List.getElem?_toArray, List.getElem?_cons_succ, List.getElem?_cons_zero]; rfl) (by kernel_rfl) (by kernel_rfl) (by kernel_rfl) (by exact fun _ _ _ h => h) (Or.inl ⟨by rfl, ?_⟩) hH ?_
  rotate_left
  · (intro wS hS; clear hS; go_simp; try rfl)
  try simp only [Act.put, List.setIfInBounds_toArray, List.set_cons_zero, List.set_cons_succ]
  refine wpAnyH_take (i := 2) (v := ?_) (by simp only [List.getElem?_toArray, List.getElem?_cons_succ, List.getElem?_cons_zero]; rfl) (by kernel_rfl) (by kernel_rfl) (by kernel_rfl) (by exact fun _ _ _ h => h) (Or.inl ⟨by rfl, ?_⟩) hH ?_
  rotate_left
  · (intro wS hS; clear hS; go_simp; try rfl)
  try simp only [Act.put, List.setIfInBounds_toArray, List.set_cons_zero, List.set_cons_succ]
  refine wpAnyH_take (i := 3) (v := ?_) (by simp only [List.getElem?_toArray, List.getElem?_cons_succ, List.getElem?_cons_zero]; rfl) (by kernel_rfl) (by kernel_rfl) (by kernel_rfl) (by exact fun _ _ _ h => h) (Or.inl ⟨by rfl, ?_⟩) hH ?_
  rotate_left
  · (intro wS hS; (try dsimp only at hS); obtain ⟨k1, k2, k3⟩ := sevenF K5.out hS (by omega); go_simp; try rfl)
  try simp only [Act.put, List.setIfInBounds_toArray, List.set_cons_zero, List.set_cons_succ]
  refine wpAnyH_take (i := 5) (v := ?_) (by simp only [List.getElem?_toArray, List.getElem?_cons_succ, List.getElem?_cons_zero]; rfl) (by kernel_rfl) (by kernel_rfl) (by kernel_rfl) (by exact fun _ _ _ h => h) (Or.inl ⟨by rfl, ?_⟩) hH ?_
  rotate_left
  · (intro wS hS; clear hS; go_simp; try rfl)
  try simp only [Act.put, List.setIfInBounds_toArray, List.set_cons_zero, List.set_cons_succ]
  refine wpAnyH_ready (rs := [4]) (by kernel_rfl) (by simp) ?_
  refine AllReadyH.cons (by simp only [List.getElem?_toArray, List.getElem?_cons_succ, List.getElem?_cons_zero]; rfl) (fun K hK => ?_) AllReadyH.nil
  go_simp
  have CD : Cur W.drew cb := C2.out
  (with_reducible refine (l8Right _ cb _ CD HR.out).mono ?_)
  rintro e v6 ⟨v, bs, rfl, own6, hl6, hc6, hf6⟩
  obtain ⟨qb, qbc, rfl, -, -⟩ := (Own.of_row own6 (by omega)).form
  try dsimp only
  refine hK.out _ _ ?_ (fun hH2 => ?_)
  · exact hH.trans (hf6.mono (fun k hk => by have := hH.size; simp at hk ⊢; omega))
  clear hK K hH
  have hH := hH2
  clear hH2
  try simp only [Act.put, List.setIfInBounds_toArray, List.set_cons_zero, List.set_cons_succ]
  have hf7 : FrS (fun k => k = cb ∨ W.heap.size ≤ k) W v6 := ⟨hf6.os, hf6.tape, hf6.output, hf6.size, hf6.block⟩
  have s6 := hf7.size
  have K2 := Lib.hid (K2.out.frs hf7 (by omega))
  have O6 := Lib.hid (O2.out.frs2 hf7 (fun k hk hk2 => by omega))
  have L6 := Lib.hid own6
  have HL6 := Lib.hid hl6
  have C6 := Lib.hid hc6
  have F6 := Lib.hid (F2.out.trans (hf7.mono2 (q := fun k => w.heap.size ≤ k) (fun k _ hk => by omega)))
  have cW : cb < W.drew.heap.size := C2.out.lt
  clear own6 hl6 hc6 hf6 hf7
  refine wpAnyH_ready (rs := [6]) (by kernel_rfl) (by simp) ?_
  refine AllReadyH.cons (by simp only [List.getElem?_toArray, List.getElem?_cons_succ, List.getElem?_cons_zero]; rfl) (fun K hK => ?_) AllReadyH.nil
  go_simp
  (with_reducible refine (l8Prime _ cb C6.out).mono ?_)
  rintro e w7 ⟨p, hp, rfl, hc7, hg7⟩
  try dsimp only
  refine hK.out _ _ ?_ (fun hH2 => ?_)
  · exact hH.trans (FrS.of_one hg7 (.inl rfl))
  clear hK K hH
  have hH := hH2
  clear hH2
  try simp only [Act.put, List.setIfInBounds_toArray, List.set_cons_zero, List.set_cons_succ]
  have HP := Lib.hid hp
  have K2 := Lib.hid (K2.out.keepOne hg7 (by omega))
  have O6 := Lib.hid (O6.out.frs (FrS.of_one (p := fun k => k = cb) hg7 rfl) (fun k hk e => by omega))
  have L6 := Lib.hid (L6.out.kept hg7 (ownI_far L6.out cW))
  have F6 := Lib.hid (F6.out.trans (FrS.of_one hg7 (show w.heap.size ≤ cb by omega)))
  clear hp hc7 hg7
  refine wpAnyH_ready (rs := [7]) (by kernel_rfl) (by simp) ?_
  refine AllReadyH.cons (by simp only [List.getElem?_toArray, List.getElem?_cons_succ, List.getElem?_cons_zero]; rfl) (fun K hK => ?_) AllReadyH.nil
  obtain ⟨y0, y1, y2, y3, y4, y5⟩ := K2.out.all
  have FX := Lib.hid (hH.set3 (b := w.heap.size) (.inl (.inr (.inl rfl))) (.int .i64 r) (.int .i64 c) (.slice q xs.length qc))
  clear hH
  go_simp
  refine hK.out _ _ ?_ (fun hH2 => ?_)
  · exact FX.out
  clear hK K
  have hH := hH2
  clear hH2
  try simp only [Act.put, List.setIfInBounds_toArray, List.set_cons_zero, List.set_cons_succ]
  refine wpAnyH_take (i := 8) (v := ?_) (by simp only [List.getElem?_toArray, List.getElem?_cons_succ, List.getElem?_cons_zero]; rfl) (by kernel_rfl) (by kernel_rfl) (by kernel_rfl) (by exact fun _ _ _ h => h) (Or.inl ⟨by rfl, ?_⟩) hH ?_
  rotate_left
  · (intro wS hS; clear hS; go_simp; try rfl)
  try simp only [Act.put, List.setIfInBounds_toArray, List.set_cons_zero, List.set_cons_succ]
  refine wpAnyH_take (i := 9) (v := ?_) (by simp only [List.getElem?_toArray, List.getElem?_cons_succ, List.getElem?_cons_zero]; rfl) (by kernel_rfl) (by kernel_rfl) (by kernel_rfl) (by exact fun _ _ _ h => h) (Or.inl ⟨by rfl, ?_⟩) hH ?_
  rotate_left
  · (intro wS hS; clear hS; go_simp; try rfl)
  try simp only [Act.put, List.setIfInBounds_toArray, List.set_cons_zero, List.set_cons_succ]
  refine wpAnyH_done (by kernel_rfl) ?_ _
  have FIN : Hid (MatSv w (.returned (.tuple #[.agg #[.int .i64 r, .int .i64 c, .slice q xs.length qc], .slice qb bs.length qbc, .int .i64 p])) (((w7.setCell ⟨w.heap.size, 0, none⟩ (.int .i64 r)).setCell ⟨w.heap.size, 1, none⟩ (.int .i64 c)).setCell ⟨w.heap.size, 2, none⟩ (.slice q xs.length qc))) := by
    have hw : w.heap.size < W.drew.heap.size := by show w.heap.size < W.heap.size; omega
    refine ⟨r, c, q, qc, xs, qb, qbc, bs, p, rfl, ((O6.out.out3 K2.out (.int .i64 r) (.int .i64 c) (.slice q xs.length qc)).own (by have := HL.out; omega)).le (by omega), HL.out, ?_, HL6.out, HP.out, ?_⟩
    · exact ((Own.of_row L6.out (by have := HL6.out; omega)).far8 hw _ _ _).le (Nat.le_of_lt hw)
    · exact (((F6.out.below (fun k hk => hk) (Nat.le_refl _)).setCell (Nat.le_refl _) _).setCell (Nat.le_refl _) _).setCell (Nat.le_refl _) _
  obtain ⟨E0, E1, E2, -, -, -⟩ := (K2.out.set3 (.int .i64 r) (.int .i64 c) (.slice q xs.length qc)).all
  go_wp2_with fail
  all_goals exact bodyPost_ret (v := .tuple #[.agg #[.int .i64 r, .int .i64 c, .slice q xs.length qc], .slice qb bs.length qbc, .int .i64 p]) (by simp [results, Try.results9, go_sem, E0, E1, E2]) rfl FIN.out
end Go.Proofs.Ytcapddcmnjeloaa
end

section
/-
  The laws' unit and mix: some matrix is returned; nothing that was there changes.
-/
namespace Go.Proofs.Ytcapddcmnjeloaa
set_option maxRecDepth 100000
open Go.RowKit

/-- A matrix, whatever it is, that has cells or no rows. -/
def SomeMat (w : World) (e : Ending) (w' : World) : Prop := ∃ (r c : Int) (q : Option Addr) (qc : Nat) (zs : List Int), e = .returned (.agg #[.int .i64 r, .int .i64 c, .slice q zs.length qc]) ∧ Own w.heap.size w' (.slice q zs.length qc) zs ∧ (0 < zs.length ∨ r = 0) ∧ zs.length ≤ 600 ∧ Below w.heap.size w w'
theorem Own.addr {B : Nat} {w : World} {q : Option Addr} {n qc : Nat} {zs : List Int} (h : Own B w (.slice q n qc) zs) (hz : 0 < zs.length) : ∃ g o : Nat, q = some ⟨g, o, none⟩ := by
  rcases h with ⟨_, h⟩ | ⟨g, cap, hv, -⟩
  · rw [h] at hz; simp at hz
  · injection hv with h1; exact ⟨g, 0, h1⟩
theorem Own.rd2 {B : Nat} {w : World} {q : Option Addr} {n qc : Nat} {zs : List Int} (h : Own B w (.slice q n qc) zs) : Rd w q zs := by
  obtain ⟨a', c', e, hr, -⟩ := h.form
  injection e with e1 e2 e3
  rw [e1]; exact hr
theorem Own.old2 {B : Nat} {w : World} {v : Value} {zs : List Int} (h : Own B w v zs) (o : Obj) : Own B (w.alloc o) v zs := h.keep ((Below.refl _ _).alloc (Nat.le_refl _) o)
theorem idM_some (n : Int) : (0 < (idM n).zs.length ∨ (idM n).r = 0) ∧ (idM n).zs.length ≤ 600 := by
  unfold idM
  by_cases h : 0 ≤ n ∧ n ≤ 24
  · rw [if_pos h]
    obtain ⟨k, rfl⟩ := Int.eq_ofNat_of_zero_le h.1
    have hk : k ≤ 24 := by omega
    have : k * k ≤ 24 * 24 := Nat.mul_le_mul hk hk
    refine ⟨?_, ?_⟩
    · rcases Nat.eq_zero_or_pos k with e | e
      · right; simp [e]
      · left
        show 0 < (idL k k).length
        rw [idL_length]; exact Nat.mul_pos e e
    · show (idL k k).length ≤ 600
      rw [idL_length]; omega
  · rw [if_neg h]
    exact ⟨.inr rfl, by simp [MR.no]⟩
theorem opM_some (k i j t r c : Int) (xs : List Int) (h : 0 < xs.length ∨ r = 0) (hl : xs.length ≤ 600) : (0 < (opM k i j t r c xs).zs.length ∨ (opM k i j t r c xs).r = 0) ∧ (opM k i j t r c xs).zs.length ≤ 600 := by
  unfold opM MR.done
  split
  · rename_i h1
    simp only [Bool.and_eq_true] at h1
    have h2 := isOp_says h1.2
    split
    · refine ⟨?_, ?_⟩
      · left
        show 0 < (opL k i.toNat j.toNat t c.toNat xs).length
        rw [opL_length]
        rcases h with h | h
        · exact h
        · omega
      · show (opL k i.toNat j.toNat t c.toNat xs).length ≤ 600
        rw [opL_length]; exact hl
    · exact ⟨.inr rfl, by simp [MR.no]⟩
  · exact ⟨.inr rfl, by simp [MR.no]⟩
theorem Own.spot2 {B n c : Nat} {w : World} {a : Option Addr} {zs : List Int} (h : Own B w (.slice a n c) zs) : Spot a := by
  rcases h with ⟨hv, -⟩ | ⟨g, cap, hv, -⟩
  · simp only [Value.slice.injEq] at hv
    exact .inl hv.1
  · simp only [Value.slice.injEq] at hv
    exact .inr ⟨_, _, hv.1⟩
theorem fourF {W w' : World} {b : Nat} {t : TypeId} {p q r v : Value} {x : Addr} (h0 : Blk3 W b t p q r) (hx : W.cell? x = some v) (hb : Below W.heap.size W w') :
    w'.cell? ⟨b, 0, none⟩ = some p ∧ w'.cell? ⟨b, 1, none⟩ = some q ∧ w'.cell? ⟨b, 2, none⟩ = some r ∧ w'.cell? x = some v :=
  ⟨(h0.keep hb h0.lt).cell0, (h0.keep hb h0.lt).cell1, (h0.keep hb h0.lt).cell2, (hb.cell (World.block_lt_of_cell? W _ hx)).trans hx⟩
theorem In.own {B T : Nat} {w : World} {v : Value} {zs : List Int} (h : In B T w v zs) : Own B w v zs := by
  rcases h with h | ⟨g, cap, hv, hB, -, hi, hl, hk⟩
  · exact .inl h
  · exact .inr ⟨g, cap, hv, hB, hi, hl, hk⟩
theorem Own.far2 {B : Nat} {w : World} {v : Value} {zs : List Int} (h : Own B w v zs) {a : Addr} (ha : a.block < B) (u : Value) : Own B (w.setCell a u) v zs := by
  rcases h with h | ⟨g, cap, hv, hB, hi, hl, hk⟩
  · exact .inl h
  · exact .inr ⟨g, cap, hv, hB, hi.far (by omega) u, hl, hk⟩
theorem lUnit (n : Int) (w : World) : Calls Try.prog 17 #[.int .i64 n] w (SomeMat w) := by
  obtain ⟨mr, hmr⟩ : ∃ mr, idM n = mr := ⟨_, rfl⟩
  have hs := idM_some n
  rw [hmr] at hs
  have MRH := Lib.hid hmr
  have HS := Lib.hid hs
  clear hmr hs
  go_enter Try.func17, Try.ntmps17
  go_wp2_with fail
  refine (sIdent n _).mono ?_
  rintro e w1 ⟨v, rfl, own, hb⟩
  rw [MRH.out] at own ⊢
  obtain ⟨q, qc, rfl, -, -⟩ := own.form
  have K2 : Hid (Blk3 w1 w.heap.size 26 (.int .i64 0) (.int .i64 0) (.slice none 0 0)) := (Blk3.at_ _ _ _ _ rfl).keep hb (by simp)
  have B : Hid (Below w.heap.size w w1) := ((Below.refl _ _).alloc (Nat.le_refl _) _).trans (hb.mono (by simp))
  have O := Lib.hid (own.le (show w.heap.size ≤ _ by simp))
  have OI : Hid (∀ x y z, Own w.heap.size ((((w1.alloc (.cells #[.int .i64 mr.r, .int .i64 mr.c, .slice q mr.zs.length qc] 26)).setCell ⟨w.heap.size, 0, none⟩ x).setCell ⟨w.heap.size, 1, none⟩ y).setCell ⟨w.heap.size, 2, none⟩ z) (.slice q mr.zs.length qc) mr.zs) := fun x y z => by
    rcases (own.old2 (.cells #[.int .i64 mr.r, .int .i64 mr.c, .slice q mr.zs.length qc] 26)) with h | ⟨g, cap, hv, hB, hi, hl, hc⟩
    · exact .inl h
    · have hB : w.heap.size + 1 ≤ g := by simpa using hB
      exact .inr ⟨g, cap, hv, by omega, ((hi.far (by show g ≠ w.heap.size; omega) _).far (by show g ≠ w.heap.size; omega) _).far (by show g ≠ w.heap.size; omega) _, hl, hc⟩
  clear own hb
  have K2 := Lib.hid (K2.out.old (.cells #[.int .i64 mr.r, .int .i64 mr.c, .slice q mr.zs.length qc] 26))
  obtain ⟨s0, s1, s2, f0, f1, f2⟩ := K2.out.all
  go_wp2_with fail
  obtain ⟨E0, E1, E2, -, -, -⟩ := (K2.out.set3 (.int .i64 mr.r) (.int .i64 mr.c) (.slice q mr.zs.length qc)).all
  refine bodyPost_ret (v := .agg #[.int .i64 mr.r, .int .i64 mr.c, .slice q mr.zs.length qc]) (by simp [results, Try.results17, go_sem, E0, E1, E2]) rfl ⟨_, _, q, qc, mr.zs, rfl, OI.out _ _ _, HS.out.1, HS.out.2, ?_⟩
  exact ((((B.out.alloc B.out.size _).setCell (Nat.le_refl _) _).setCell (Nat.le_refl _) _).setCell (Nat.le_refl _) _)

end Go.Proofs.Ytcapddcmnjeloaa
end

section
/-
  The laws' unit and mix: mix is a matrix whose determinant is 1, or it is empty.
-/
namespace Go.Proofs.Ytcapddcmnjeloaa
open Go.RowKit

/-- What mix makes: its determinant is 1, or it is empty. -/
def MixP (n r c : Int) (zs : List Int) : Prop := (r = n ∧ c = n ∧ 0 ≤ n ∧ zs.length = n.toNat * n.toNat ∧ nums zs = true ∧ det n.toNat (mxL n.toNat zs) = 1) ∨ (r = 0 ∧ c = 0 ∧ zs = [] ∧ 1 < n)
def UniOf (n : Int) (w : World) (e : Ending) (w' : World) : Prop := ∃ (r c : Int) (q : Option Addr) (qc : Nat) (zs : List Int), e = .returned (.agg #[.int .i64 r, .int .i64 c, .slice q zs.length qc]) ∧ Own w.heap.size w' (.slice q zs.length qc) zs ∧ MixP n r c zs ∧ zs.length ≤ 600 ∧ Below w.heap.size w w'
theorem idM_D (n : Int) (h0 : 0 ≤ n) (h6 : n ≤ 24) : MixP n (idM n).r (idM n).c (idM n).zs ∧ (idM n).zs.length ≤ 600 := by
  unfold idM
  rw [if_pos ⟨h0, by omega⟩]
  refine ⟨.inl ⟨rfl, rfl, h0, idL_length _ _, idL_nums _, idL_det _⟩, ?_⟩
  show (idL n.toNat n.toNat).length ≤ 600
  rw [idL_length]
  have : n.toNat * n.toNat ≤ 24 * 24 := Nat.mul_le_mul (by omega) (by omega)
  omega
theorem opM_len (k i j t r c : Int) (xs : List Int) (hl : xs.length ≤ 600) : (opM k i j t r c xs).zs.length ≤ 600 := by
  unfold opM MR.done
  split
  · split
    · show (opL k i.toNat j.toNat t c.toNat xs).length ≤ 600
      rw [opL_length]; exact hl
    · simp [MR.no]
  · simp [MR.no]
theorem opM_D (n i j t r c : Int) (xs : List Int) (h : MixP n r c xs) (hn : 1 < n) (hl : xs.length ≤ 600) : MixP n (opM 2 i j t r c xs).r (opM 2 i j t r c xs).c (opM 2 i j t r c xs).zs ∧ (opM 2 i j t r c xs).zs.length ≤ 600 := by
  refine ⟨?_, (opM_len 2 i j t r c xs hl)⟩
  rcases Bool.eq_false_or_eq_true (opM 2 i j t r c xs).ok with ho | ho
  · rcases h with ⟨rfl, rfl, h0, hz, hx, hd⟩ | ⟨rfl, rfl, rfl, -⟩
    · obtain ⟨N, rfl⟩ := Int.eq_ofNat_of_zero_le h0
      obtain ⟨ys, e, -, -, hy, ny, dy⟩ := opM_det ho
      rw [e]
      refine .inl ⟨rfl, rfl, h0, hy, ny, ?_⟩
      show det N (mxL N ys) = 1
      rw [dy]
      have hd : det N (mxL N xs) = 1 := hd
      rw [hd]; rfl
    · exfalso
      unfold opM at ho
      by_cases h1 : (isMat 0 0 [] && isOp 2 i j t 0) = true
      · simp only [Bool.and_eq_true] at h1
        have := isOp_says h1.2
        omega
      · rw [if_neg h1] at ho; exact absurd ho (by simp [MR.no])
  · have e : opM 2 i j t r c xs = MR.no := by
      unfold opM at ho ⊢
      split
      · rename_i h1
        rw [if_pos h1] at ho
        unfold MR.done at ho ⊢
        split
        · rename_i h2; rw [if_pos h2] at ho; exact absurd ho (by simp)
        · rfl
      · rfl
    rw [e]
    exact .inr ⟨rfl, rfl, rfl, hn⟩
theorem lUnitX (n : Int) (w : World) : Calls Try.prog 17 #[.int .i64 n] w (fun e w' => ∃ (q : Option Addr) (qc : Nat), e = .returned (.agg #[.int .i64 (idM n).r, .int .i64 (idM n).c, .slice q (idM n).zs.length qc]) ∧ Own w.heap.size w' (.slice q (idM n).zs.length qc) (idM n).zs ∧ Below w.heap.size w w') := by
  obtain ⟨mr, hmr⟩ : ∃ mr, idM n = mr := ⟨_, rfl⟩
  rw [hmr]
  have MRH := Lib.hid hmr
  clear hmr
  go_enter Try.func17, Try.ntmps17
  go_wp2_with fail
  refine (sIdent n _).mono ?_
  rintro e w1 ⟨v, rfl, own, hb⟩
  rw [MRH.out] at own ⊢
  obtain ⟨q, qc, rfl, -, -⟩ := own.form
  have K2 : Hid (Blk3 w1 w.heap.size 26 (.int .i64 0) (.int .i64 0) (.slice none 0 0)) := (Blk3.at_ _ _ _ _ rfl).keep hb (by simp)
  have B : Hid (Below w.heap.size w w1) := ((Below.refl _ _).alloc (Nat.le_refl _) _).trans (hb.mono (by simp))
  have O := Lib.hid (own.le (show w.heap.size ≤ _ by simp))
  have OI : Hid (∀ x y z, Own w.heap.size ((((w1.alloc (.cells #[.int .i64 mr.r, .int .i64 mr.c, .slice q mr.zs.length qc] 26)).setCell ⟨w.heap.size, 0, none⟩ x).setCell ⟨w.heap.size, 1, none⟩ y).setCell ⟨w.heap.size, 2, none⟩ z) (.slice q mr.zs.length qc) mr.zs) := fun x y z => by
    rcases (own.old2 (.cells #[.int .i64 mr.r, .int .i64 mr.c, .slice q mr.zs.length qc] 26)) with h | ⟨g, cap, hv, hB, hi, hl, hc⟩
    · exact .inl h
    · have hB : w.heap.size + 1 ≤ g := by simpa using hB
      exact .inr ⟨g, cap, hv, by omega, ((hi.far (by show g ≠ w.heap.size; omega) _).far (by show g ≠ w.heap.size; omega) _).far (by show g ≠ w.heap.size; omega) _, hl, hc⟩
  clear own hb
  have K2 := Lib.hid (K2.out.old (.cells #[.int .i64 mr.r, .int .i64 mr.c, .slice q mr.zs.length qc] 26))
  obtain ⟨s0, s1, s2, f0, f1, f2⟩ := K2.out.all
  go_wp2_with fail
  obtain ⟨E0, E1, E2, -, -, -⟩ := (K2.out.set3 (.int .i64 mr.r) (.int .i64 mr.c) (.slice q mr.zs.length qc)).all
  refine bodyPost_ret (v := .agg #[.int .i64 mr.r, .int .i64 mr.c, .slice q mr.zs.length qc]) (by simp [results, Try.results17, go_sem, E0, E1, E2]) rfl ⟨q, qc, rfl, OI.out _ _ _, ?_⟩
  exact ((((B.out.alloc B.out.size _).setCell (Nat.le_refl _) _).setCell (Nat.le_refl _) _).setCell (Nat.le_refl _) _)

end Go.Proofs.Ytcapddcmnjeloaa
end

section
/-
  Plain mathematics of chapter 8: what the law of inverses says.
-/
namespace Go.Proofs.Ytcapddcmnjeloaa

/-- Where a small matrix has no inverse, it has no determinant, or that is 0. -/
theorem ivx_none {r c p : Int} {xs : List Int} (lx : xs.length ≤ 17) (h : (ivX r c p xs).ok = false) : (dtM r c p xs).2 = false ∨ (dtM r c p xs).1 = 0 := by
  rcases Bool.eq_false_or_eq_true (isMat r c xs && prmB p) with hh | hh
  rotate_left
  · exact .inl (by rw [(rkM_no hh).2.2])
  obtain ⟨R, C, N, rfl, rfl, hN, hR, hC, hx, hl, hp, -, -, -, e3⟩ := rkM_yes hh
  by_cases hRC : R = C
  rotate_left
  · exact .inl (by rw [e3, if_neg hRC])
  subst hRC
  rw [hN] at hx
  have h4 : R ≤ 4 := by
    refine Classical.byContradiction fun hn => ?_
    have : 5 * 5 ≤ R * R := Nat.mul_le_mul (by omega) (by omega)
    omega
  have P := (prmB_says hp).1
  have e1 := ivX_at (p := p) hh (by omega : R ≤ 12)
  have hlt : (elW p R xs).2.1.length < R := by
    refine Classical.byContradiction fun hn => ?_
    rw [e1, if_neg hn] at h
    exact absurd h (by simp)
  have d0 := (elW_inv P hx).1.mp hlt
  rw [if_pos rfl, (elM_det P hx).2, d0] at e3
  exact .inr (by rw [e3])
/-- Where there is an inverse. -/
theorem ivx_found {r c p : Int} {xs : List Int} (h : (ivX r c p xs).ok = true) : ∃ n : Nat, r = n ∧ c = n ∧ n ≤ 12 ∧ 2 ≤ p ∧ p ≤ 10000 ∧ xs.length = n * n ∧ nums xs = true ∧ prmB p = true ∧ (dtM r c p xs).2 = true ∧ (dtM r c p xs).1 ≠ 0 ∧ redM r c p xs = ⟨true, n, n, resL p xs⟩ ∧ ivX r c p xs = ⟨true, n, n, ivL p n xs⟩ ∧ InvX p n (mxC n xs) (mxC n (ivL p n xs)) := by
  obtain ⟨n, rfl, rfl, h12, hp, hx, hh, hge, e, -, -⟩ := ivX_says h
  obtain ⟨P, p1⟩ := prmB_says hp
  obtain ⟨R, C, N, hR, hC, hN, -, -, hx2, -, -, -, e1, -, e3⟩ := rkM_yes hh
  obtain rfl : n = R := by omega
  obtain rfl : n = C := by omega
  obtain ⟨w1, w2, -, -⟩ := elW_inv P hx
  rw [if_pos rfl, (elM_det P hx).2] at e3
  have hne : det n (mxC n xs) % p ≠ 0 := fun h0 => by have := w1.mpr h0; omega
  have nx : nums xs = true := by
    have : isMat n n xs = true := by rw [Bool.and_eq_true] at hh; exact hh.1
    exact (isMat_says this).2.2.2
  exact ⟨n, rfl, rfl, h12, P.1, p1, hx, nx, hp, by rw [e3], by rw [e3]; exact hne, e1, e, w2 (by omega)⟩
/-- The product, reduced, is the unit matrix. -/
theorem ivx_prod {p : Int} {n : Nat} {xs : List Int} {m : MR} (hp : prmB p = true) (h12 : n ≤ 12) (hI : InvX p n (mxC n xs) (mxC n (ivL p n xs))) (hm : mulM n n (resL p xs) n n (ivL p n xs) = m) (ho : m.ok = true) : redM m.r m.c p m.zs = idM n := by
  obtain ⟨P, -⟩ := prmB_says hp
  rcases mul_cases n n (resL p xs) n n (ivL p n xs) with e | ⟨R, K, C, hR, hK, -, hC, -, -, h3, e⟩
  · rw [← hm, e] at ho
    exact absurd ho (by decide)
  obtain rfl : n = R := by omega
  obtain rfl : n = K := by omega
  obtain rfl : n = C := by omega
  rw [← hm, e]
  show redM n n p (mulL n n n (resL p xs) (ivL p n xs)) = idM n
  have ei : idM n = ⟨true, n, n, idL n n⟩ := by unfold idM; rw [if_pos ⟨by omega, by omega⟩]; rfl
  unfold redM
  rw [h3, hp, ei, if_pos (show (true && true) = true from rfl)]
  have el : resL p (mulL n n n (resL p xs) (ivL p n xs)) = idL n n := by
    have h1 : idL n n = tab n n idX := tab_ext (idL_length n n) fun i j hi hj => mxL_idL n i j hi hj
    rw [h1]
    refine tab_ext (by rw [resL_length]; exact mulL_length _ _ _ _ _) fun i j hi hj => ?_
    rw [resL_at, mulL_at n n n _ _ hi hj, dot_sum]
    exact prod_unit P hI hi hj
  rw [el]
/-- Where a system is solved. -/
theorem sv_found {p : Int} {n : Nat} {xs bs : List Int} (hi : ivX n n p xs = ⟨true, n, n, ivL p n xs⟩) (h : (svX n n p xs bs).2 = true) : bs.length = n ∧ nums bs = true ∧ (svX n n p xs bs).1 = solL p n (ivL p n xs) bs := by
  by_cases hl : (bs.length : Int) = (n : Int)
  · rcases Bool.eq_false_or_eq_true (nums bs) with hn | hn
    · have := svX_yes (p := p) (xs := xs) (r := n) (c := n) rfl (by rw [hi]) (by omega) hn
      rw [this, hi]
      exact ⟨by omega, hn, rfl⟩
    · rw [svX_no (.inr (.inr hn))] at h
      exact absurd h (by decide)
  · rw [svX_no (.inr (.inl hl))] at h
    exact absurd h (by decide)
/-- The sum in one row of the law. -/
def lwS (p : Int) (n : Nat) (xs us bs : List Int) (i j : Nat) : Int := lwF p (fun k => xs.getD (i * n + k) 0) (fun k => us.getD k 0) (bs.getD i 0) j
theorem lwS_zero (p : Int) (n : Nat) (xs us bs : List Int) (i : Nat) : lwS p n xs us bs i 0 = Int.tmod (-(bs.getD i 0)) p := rfl
theorem lwS_step (p : Int) (n : Nat) (xs us bs : List Int) (i j : Nat) : lwS p n xs us bs i (j + 1) = Int.tmod (lwS p n xs us bs i j + Int.tmod (xs.getD (i * n + j) 0) p * us.getD j 0) p := rfl
theorem lwS_small {p : Int} (hp : 0 < p) (n : Nat) (xs us bs : List Int) (i j : Nat) : -p < lwS p n xs us bs i j ∧ lwS p n xs us bs i j < p := lwF_small hp _ _ _ _
theorem lwS_end {p : Int} {n : Nat} {xs bs : List Int} {i : Nat} (hp : 0 < p) (hI : InvX p n (mxC n xs) (mxC n (ivL p n xs))) (hi : i < n) : lwS p n xs (solL p n (ivL p n xs) bs) bs i n = 0 := lwF_zero hp hI hi
/-- A product of small numbers. -/
theorem mul_small {p x y : Int} (hp : 0 < p) (hb : p ≤ 10000) (hx : -p < x ∧ x < p) (hy : 0 ≤ y ∧ y < p) : -100000000 ≤ x * y ∧ x * y ≤ 100000000 := by
  have q1 : p * y ≤ 10000 * 10000 := Int.mul_le_mul hb (by omega) hy.1 (by omega)
  have q2 : x * y ≤ p * y := Int.mul_le_mul_of_nonneg_right (by omega) hy.1
  have q3 : -p * y ≤ x * y := Int.mul_le_mul_of_nonneg_right (by omega) hy.1
  rw [Int.neg_mul] at q3
  omega
end Go.Proofs.Ytcapddcmnjeloaa
end

section
/-
  Chapter 8, in the model: DeterminantMod.
-/
namespace Go.Proofs.Ytcapddcmnjeloaa
set_option maxRecDepth 100000
open Go.RowKit

end Go.Proofs.Ytcapddcmnjeloaa
end

section
/-
  Contracts of Go's library at this translation, each one application of a theorem of the guide's library: slices_Equal_int, slices_Equal_int_empty, slices_Equal_int_lens.
-/
namespace Go.Proofs
open Go.Shelf
def Try.lays111_ren : Go.Shelf.Ren := ⟨fun | 111 => 56 | n => n, fun | 28 => 24 | 3 => 3 | 4 => 4 | 0 => 0 | n => n, fun | n => n⟩
theorem Try.lays111 : Go.Proofs.Lays.n111 Try.prog Try.lays111_ren := {
  mixed := by kernel_rfl
  f111 := Try.func56.trans (congrArg some (by kernel_rfl))
  t0 := Try.underlying0
  a0 := Try.isAgg0
  z0 := Try.sizeOf0
  v0 := Try.zeroValue0
  t3 := Try.underlying3
  a3 := Try.isAgg3
  z3 := Try.sizeOf3
  v3 := Try.zeroValue3
  t4 := Try.underlying4
  a4 := Try.isAgg4
  z4 := Try.sizeOf4
  v4 := Try.zeroValue4
  t28 := Try.underlying24
  a28 := Try.isAgg24
  z28 := Try.sizeOf24
  v28 := Try.zeroValue24 }
open Go.RowKit Go.Lib in
theorem Try.slices_Equal_int (b1 o1 n c b2 o2 m d : Nat) (xs ys : List Int) (w : World) (hx : n ≤ xs.length) (hy : m ≤ ys.length) (hbig : n ≤ 9223372036854775807) (hbig2 : m ≤ 9223372036854775807) (hc1 : ∀ j, j < xs.length → w.cell? ⟨b1, o1 + j, none⟩ = some (.int .i64 (xs.getD j 0))) (hc2 : ∀ j, j < ys.length → w.cell? ⟨b2, o2 + j, none⟩ = some (.int .i64 (ys.getD j 0))) :
    Calls Try.prog 56 #[.slice (some ⟨b1, o1, none⟩) n c, .slice (some ⟨b2, o2, none⟩) m d] w fun e w' => e = .returned (.bool (xs.take n == ys.take m)) ∧ ∃ q, w' = w.drewN q := Any.slices_Equal_int Try.lays111 b1 o1 n c b2 o2 m d xs ys w hx hy hbig hbig2 hc1 hc2
open Go.RowKit Go.Lib in
theorem Try.slices_Equal_int_empty (a1 a2 : Option Addr) (c m d : Nat) (w : World) (hbig2 : m ≤ 9223372036854775807) :
    Calls Try.prog 56 #[.slice a1 0 c, .slice a2 m d] w fun e w' => e = .returned (.bool (decide (m = 0))) ∧ w' = w := Any.slices_Equal_int_empty Try.lays111 a1 a2 c m d w hbig2
open Go.RowKit Go.Lib in
theorem Try.slices_Equal_int_lens (a1 a2 : Option Addr) (n c m d : Nat) (w : World) (hnm : n ≠ m) :
    Calls Try.prog 56 #[.slice a1 n c, .slice a2 m d] w fun e w' => e = .returned (.bool false) ∧ w' = w := Any.slices_Equal_int_lens Try.lays111 a1 a2 n c m d w hnm
end Go.Proofs
end
