/-
  Texts of this seat, joined: Draw · Code · Mix · MixD · ElTo · StepS · LawSt · LwN · Fr · Draw3 · Draw4 · DrwR · Draw7 · AnyM · DrawP · DrawR · DrawQ
-/
import Derived.Test.YtgemkfcapkfdbaaRows
import Derived.WalkKit
import Derived.BigQuiet
import Derived.Deep.QuietTactic
import Derived.ProofKit
import Derived.OpenShut
import Derived.StillTailTactics
import Derived.Deep.RegionHeld3
import Derived.Deep.DeepCutAuto
import Derived.IntWalk
import Derived.Test.YtgemkfcapkfdbaaPk1
import Derived.Test.YtgemkfcapkfdbaaPk2
import Derived.Test.YtgemkfcapkfdbaaPk3
import Derived.Test.YtgemkfcapkfdbaaPk4
import Derived.Test.YtgemkfcapkfdbaaPk7
import Derived.Test.YtgemkfcapkfdbaaPk8
import Derived.Test.YtgemkfcapkfdbaaPk10

section
/-
  The drawing of inputs (chapter 1 of the model): the cursor over a code's bytes, and what each drawing function returns: a number in its range, with nothing written but the cursor.
-/
namespace Go.Proofs.Ytgemkfcapkfdbaa
open Go.RowKit

/-- The bytes that a slice shows: each in its range, each block older than block cb. -/
def Bytes (w : World) (cb : Nat) (a : Option Addr) (len : Nat) : Prop :=
  ∀ k : Nat, k < len → ∃ (b o : Nat) (z : Int), a = some ⟨b, o, none⟩ ∧ w.cell? ⟨b, o + k, none⟩ = some (.int .u8 z) ∧ 0 ≤ z ∧ z ≤ 255 ∧ b < cb
/-- Block cb is a cursor. -/
def Cur (w : World) (cb : Nat) : Prop :=
  ∃ (a : Option Addr) (len cap i : Nat) (h : Int), Blk3 w cb 82 (.slice a len cap) (.int .i64 i) (.int .i64 h) ∧ i ≤ len ∧ len ≤ maxLen ∧ Bytes w cb a len

/-- An int with the property P is returned, and of all that was there only the cursor has changed. -/
def CurInt (P : Int → Prop) (cb : Nat) (w : World) (e : Ending) (w' : World) : Prop := ∃ r : Int, P r ∧ e = .returned (.int .i64 r) ∧ Cur w' cb ∧ w.grownBy w' (some cb)

theorem Bytes.one {w w' : World} {cb : Nat} {a : Option Addr} {len : Nat} (h : Bytes w cb a len) (hg : w.grownBy w' (some cb)) : Bytes w' cb a len := fun k hk => by
  obtain ⟨b, o, z, ha, hx, h0, h1, hne⟩ := h k hk
  exact ⟨b, o, z, ha, hg.cell hx (by simp; omega), h0, h1, hne⟩
theorem and255 (x : Int) : 0 ≤ bits .and .i64 x 255 ∧ bits .and .i64 x 255 ≤ 255 := by
  have h : (BitVec.ofInt 64 x &&& BitVec.ofInt 64 255).toNat ≤ 255 := by rw [BitVec.toNat_and]; exact Nat.le_trans Nat.and_le_right (by decide)
  show 0 ≤ IntKind.i64.wrap ((BitVec.ofInt 64 x &&& BitVec.ofInt 64 255).toNat : Int) ∧ IntKind.i64.wrap ((BitVec.ofInt 64 x &&& BitVec.ofInt 64 255).toNat : Int) ≤ 255
  rw [IntKind.wrap_i64]
  omega
theorem curInt_end {P : Int → Prop} {w W : World} {cb len cap i : Nat} {a : Option Addr} {h r : Int} (hr : P r) (hb : Blk3 W cb 82 (.slice a len cap) (.int .i64 i) (.int .i64 h))
    (hi : i ≤ len) (hl : len ≤ maxLen) (hby : Bytes w cb a len) (hg : w.grownBy W (some cb)) : CurInt P cb w (.returned (.int .i64 r)) W :=
  ⟨r, hr, rfl, ⟨a, len, cap, i, h, hb, hi, hl, hby.one hg⟩, hg⟩

set_option maxHeartbeats 400000 in
theorem l1Byte (w : World) (cb : Nat) (hc : Cur w cb) :
    Calls Try.prog 91 #[.pointer (some ⟨cb, 0, none⟩)] w (CurInt (fun r => 0 ≤ r ∧ r ≤ 255) cb w) := by
  obtain ⟨a, len, cap, i, h, hb, hi, hl, hby⟩ := hc
  obtain ⟨c0, c1, c2, f0, f1, f2⟩ := hb.all
  have HB := Lib.hid hb
  have HL := Lib.hid hl
  have HY := Lib.hid hby
  unfold maxLen at hl
  by_cases hlt : i < len
  · obtain ⟨xb, xo, z, rfl, hx, hz0, hz1, hne⟩ := hby i hlt
    have hne' : cb ≠ xb := by omega
    clear hb hby
    go_enter Try.func91, Try.ntmps91
    go_wp2_with (fail)
    generalize wrap64 (wrap64 (h * 6364136223846793005) + 1442695040888963407) = h'
    go_quiet (fail)
    go_wp2_with (fail)
    go_quiet (fail)
    go_wp2_with (fail)
    go_quiet (fail)
    go_wp2_with (fail)
    go_ret
    refine curInt_end (cap := cap) (i := i + 1) (h := h') (and255 _) ?_ (by omega) HL.out HY.out ?_
    · exact (((HB.out.set2 _).drewN _).set1 _)
    · repeat (first | exact World.grownBy.refl _ _ | refine grown_set_one ?_ (by exact rfl) _ | refine grown_drewN_one ?_ _)
  · clear hb hby
    have hlt' : decide (i < len) = false := by simpa using hlt
    go_enter Try.func91, Try.ntmps91
    go_wp2_with (fail)
    generalize wrap64 (wrap64 (h * 6364136223846793005) + 1442695040888963407) = h'
    go_quiet (fail)
    go_wp2_with (fail)
    go_quiet (fail)
    go_wp2_with (fail)
    go_ret
    refine curInt_end (cap := cap) (i := i) (h := h') (and255 _) ?_ (by omega) HL.out HY.out ?_
    · first | exact HB.out.set2 _ | exact (HB.out.set2 _).drewN _
    · repeat (first | exact World.grownBy.refl _ _ | refine grown_set_one ?_ (by exact rfl) _ | refine grown_drewN_one ?_ _)

/-- A bool is returned, and of all that was there only the cursor has changed. -/
def CurBool (cb : Nat) (w : World) (e : Ending) (w' : World) : Prop := ∃ r : Bool, e = .returned (.bool r) ∧ Cur w' cb ∧ w.grownBy w' (some cb)
theorem CurInt.mono {P Q : Int → Prop} {cb : Nat} {w w' : World} {e : Ending} (h : CurInt P cb w e w') (k : ∀ r, P r → Q r) : CurInt Q cb w e w' := by
  obtain ⟨r, hr, he, hc, hg⟩ := h
  exact ⟨r, k r hr, he, hc, hg⟩
theorem mod_range (x n : Int) (hn : 0 < n) : 0 ≤ x % n ∧ x % n < n := ⟨Int.emod_nonneg x (by omega), Int.emod_lt_of_pos x hn⟩

set_option maxHeartbeats 400000 in
theorem l1Below_small (w : World) (cb : Nat) (n : Int) (hc : Cur w cb) (h1 : 0 < n) (h2 : n ≤ 256) :
    Calls Try.prog 67 #[.pointer (some ⟨cb, 0, none⟩), .int .i64 n] w (CurInt (fun r => 0 ≤ r ∧ r < n) cb w) := by
  have HC := Lib.hid hc
  clear hc
  have hn : (n == 0) = false := by simp; omega
  go_enter Try.func67, Try.ntmps67
  go_wp2_with (fail)
  refine (l1Byte w cb HC.out).mono ?_
  rintro e w1 ⟨r, ⟨r0, r1⟩, rfl, hc1, hg1⟩
  have C1 := Lib.hid hc1
  have G1 := Lib.hid hg1
  clear hc1 hg1
  go_wp2_with (fail)
  go_ret
  exact ⟨r % n, mod_range r n h1, rfl, C1.out, G1.out⟩

set_option maxHeartbeats 400000 in
theorem l1Below_large (w : World) (cb : Nat) (n : Int) (hc : Cur w cb) (h2 : 256 < n) :
    Calls Try.prog 67 #[.pointer (some ⟨cb, 0, none⟩), .int .i64 n] w (CurInt (fun r => 0 ≤ r ∧ r < n) cb w) := by
  have HC := Lib.hid hc
  clear hc
  have hn : (n == 0) = false := by simp; omega
  go_enter Try.func67, Try.ntmps67
  go_wp2_with (fail)
  refine (l1Byte w cb HC.out).mono ?_
  rintro e w1 ⟨r, ⟨r0, r1⟩, rfl, hc1, hg1⟩
  have C1 := Lib.hid hc1
  have G1 := Lib.hid hg1
  clear hc1 hg1
  go_wp2_with (fail)
  refine (l1Byte w1 cb C1.out).mono ?_
  rintro e w2 ⟨s, ⟨s0, s1⟩, rfl, hc2, hg2⟩
  have C2 := Lib.hid hc2
  have G2 := Lib.hid (G1.out.trans hg2)
  clear hc2 hg2
  go_wp2_with (fail)
  refine (l1Byte w2 cb C2.out).mono ?_
  rintro e w3 ⟨t, ⟨t0, t1⟩, rfl, hc3, hg3⟩
  have C3 := Lib.hid hc3
  have G3 := Lib.hid (G2.out.trans hg3)
  clear hc3 hg3
  go_wp2_with (fail)
  refine (l1Byte w3 cb C3.out).mono ?_
  rintro e w4 ⟨u, ⟨u0, u1⟩, rfl, hc4, hg4⟩
  have C4 := Lib.hid hc4
  have G4 := Lib.hid (G3.out.trans hg4)
  clear hc4 hg4
  go_wp2_with (fail)
  go_ret
  exact ⟨_, mod_range (r * 16777216 + s * 65536 + t * 256 + u) n (by omega), rfl, C4.out, G4.out⟩

theorem l1Below (w : World) (cb : Nat) (n : Int) (hc : Cur w cb) (h1 : 0 < n) :
    Calls Try.prog 67 #[.pointer (some ⟨cb, 0, none⟩), .int .i64 n] w (CurInt (fun r => 0 ≤ r ∧ r < n) cb w) := by
  rcases Int.lt_or_le 256 n with h | h
  · exact l1Below_large w cb n hc h
  · exact l1Below_small w cb n hc h1 h

set_option maxHeartbeats 400000 in
theorem l1Once (w : World) (cb : Nat) (n : Int) (hc : Cur w cb) (h1 : 0 < n) :
    Calls Try.prog 69 #[.pointer (some ⟨cb, 0, none⟩), .int .i64 n] w (CurBool cb w) := by
  have HC := Lib.hid hc
  clear hc
  go_enter Try.func69, Try.ntmps69
  go_wp2_with (fail)
  refine (l1Below w cb n HC.out h1).mono ?_
  rintro e w1 ⟨r, ⟨r0, r1⟩, rfl, hc1, hg1⟩
  have C1 := Lib.hid hc1
  have G1 := Lib.hid hg1
  clear hc1 hg1
  go_wp2_with (fail)
  go_ret
  exact ⟨r == 0, rfl, C1.out, G1.out⟩

/-- A list of ints lies in block lb, each with the property P. -/
def IntList (P : Int → Prop) (w : World) (lb n : Nat) : Prop := ∀ k : Nat, k < n → ∃ z : Int, w.cell? ⟨lb, k, none⟩ = some (.int .i64 z) ∧ P z
theorem IntList.one {P : Int → Prop} {w w' : World} {lb n cb : Nat} (h : IntList P w lb n) (hg : w.grownBy w' (some cb)) (hne : lb ≠ cb) : IntList P w' lb n := fun k hk => by
  obtain ⟨z, hz, hp⟩ := h k hk
  exact ⟨z, hg.cell hz (by simpa using hne), hp⟩

set_option maxHeartbeats 400000 in
theorem l1PickInt (P : Int → Prop) (w : World) (cb lb n : Nat) (hc : Cur w cb) (hl : IntList P w lb n) (h1 : 0 < n) (h2 : n ≤ 1000000) (hne : lb ≠ cb) :
    Calls Try.prog 68 #[.pointer (some ⟨cb, 0, none⟩), .slice (some ⟨lb, 0, none⟩) n n] w (CurInt P cb w) := by
  have HC := Lib.hid hc
  have HL := Lib.hid hl
  clear hc hl
  go_enter Try.func68, Try.ntmps68
  go_wp2_with (fail)
  refine (l1Below w cb n HC.out (by omega)).mono ?_
  rintro e w1 ⟨r, ⟨r0, r1⟩, rfl, hc1, hg1⟩
  obtain ⟨k, rfl⟩ := Int.eq_ofNat_of_zero_le r0
  obtain ⟨z, hz, hp⟩ := (HL.out.one hg1 hne) k (by omega)
  have C1 := Lib.hid hc1
  have G1 := Lib.hid hg1
  have HP := Lib.hid hp
  have hk : k < n := by omega
  clear hc1 hg1 hp
  go_wp2_with (fail)
  go_ret
  exact ⟨z, HP.out, rfl, C1.out, G1.out⟩

theorem IntList.new {P : Int → Prop} (zs : List Int) (hz : ∀ z, z ∈ zs → P z) (w : World) (t : TypeId) : IntList P (w.alloc (.cells (zs.map (Value.int .i64)).toArray t)) w.heap.size zs.length := fun k hk => by
  refine ⟨zs[k], ?_, hz _ (List.getElem_mem hk)⟩
  have e : (w.alloc (.cells (zs.map (Value.int .i64)).toArray t)).heap[w.heap.size]? = some (.cells (zs.map (Value.int .i64)).toArray t) := heap_alloc_new w _
  unfold World.cell?
  rw [e]
  simp [hk]
theorem Cur.lt {w : World} {cb : Nat} (h : Cur w cb) : cb < w.heap.size := by
  obtain ⟨a, len, cap, i, h, hb, _⟩ := h
  exact hb.lt
theorem Cur.grown {w w' : World} {cb : Nat} {row : Option Nat} (hc : Cur w cb) (hg : w.grownBy w' row) (hr : ∀ j, row = some j → w.heap.size ≤ j) : Cur w' cb := by
  obtain ⟨a, len, cap, i, h, hb, hi, hl, hby⟩ := hc
  refine ⟨a, len, cap, i, h, (hg.block cb hb.lt (fun e => by have := hr cb e.symm; have := hb.lt; omega)).trans hb, hi, hl, fun k hk => ?_⟩
  obtain ⟨b, o, z, ha, hx, h0, h1, hne⟩ := hby k hk
  exact ⟨b, o, z, ha, hg.cell hx (fun e => by have := hr b e.symm; have := World.block_lt_of_cell? w _ hx; simp at this; omega), h0, h1, hne⟩
theorem Cur.setFar {w : World} {cb : Nat} (hc : Cur w cb) {x : Addr} (hx : cb < x.block) (u : Value) : Cur (w.setCell x u) cb := by
  obtain ⟨a, len, cap, i, h, hb, hi, hl, hby⟩ := hc
  refine ⟨a, len, cap, i, h, hb.far (by omega) u, hi, hl, fun k hk => ?_⟩
  obtain ⟨b, o, z, ha, hcell, h0, h1, hne⟩ := hby k hk
  exact ⟨b, o, z, ha, (((Below.refl x.block w).setCell (Nat.le_refl _) u).cell (p := ⟨b, o + k, none⟩) (by show b < x.block; omega)).trans hcell, h0, h1, hne⟩
theorem Cur.alloc {w : World} {cb : Nat} (hc : Cur w cb) (o : Obj) : Cur (w.alloc o) cb := hc.grown (World.grownBy_alloc w o none) (by simp)

set_option maxHeartbeats 400000 in
theorem l1Odd (w : World) (cb : Nat) (hc : Cur w cb) :
    Calls Try.prog 70 #[.pointer (some ⟨cb, 0, none⟩)] w (CurInt (fun r => -9223372036854775808 ≤ r ∧ r ≤ 9223372036854775807) cb w) := by
  have HC := Lib.hid hc
  have hlt := hc.lt
  clear hc
  go_enter Try.func70, Try.ntmps70
  go_wp2_with (fail)
  refine (l1PickInt (fun r => -9223372036854775808 ≤ r ∧ r ≤ 9223372036854775807) _ cb w.heap.size 11 (HC.out.alloc _) ?_ (by omega) (by omega) (by omega)).mono ?_
  · exact IntList.new [0, 1, -1, 2, 400000000, -400000000, 400000001, -400000001, 399999999, 9223372036854775807, -9223372036854775808] (by decide) w 3
  rintro e w1 ⟨r, hr, rfl, hc1, hg1⟩
  have C1 := Lib.hid hc1
  have G1 := Lib.hid hg1
  have R := Lib.hid hr
  clear hc1 hg1 hr
  go_wp2_with (fail)
  go_ret
  exact ⟨r, R.out, rfl, C1.out, (World.grownBy_alloc w _ _).trans G1.out⟩

/-- The bytes of a code that came in. -/
def CodeIn (w : World) (a : Option Addr) (len : Nat) : Prop :=
  len ≤ maxLen ∧ ∀ k : Nat, k < len → ∃ (b o : Nat) (z : Int), a = some ⟨b, o, none⟩ ∧ w.cell? ⟨b, o + k, none⟩ = some (.int .u8 z) ∧ 0 ≤ z ∧ z ≤ 255
theorem CodeIn.below {w w' : World} {a : Option Addr} {len : Nat} (h : CodeIn w a len) (hb : Below w.heap.size w w') : CodeIn w' a len :=
  ⟨h.1, fun k hk => by
    obtain ⟨b, o, z, ha, hx, h0, h1⟩ := h.2 k hk
    exact ⟨b, o, z, ha, (hb.cell (World.block_lt_of_cell? w _ hx)).trans hx, h0, h1⟩⟩
/-- A new cursor is returned; of what was there nothing has changed. -/
def CurNew (w : World) (e : Ending) (w' : World) : Prop := ∃ cb : Nat, e = .returned (.pointer (some ⟨cb, 0, none⟩)) ∧ w.heap.size ≤ cb ∧ Cur w' cb ∧ Below w.heap.size w w'

set_option maxHeartbeats 400000 in
theorem l1New (w : World) (a : Option Addr) (len cap : Nat) (hc : CodeIn w a len) :
    Calls Try.prog 33 #[.slice a len cap] w (CurNew w) := by
  have hl := hc.1
  have HC := Lib.hid hc
  clear hc
  unfold maxLen at hl
  go_enter Try.func33, Try.ntmps33
  go_wp2_with (fail)
  generalize wrap64 (10101 + (len : Int)) = q0
  go_loop [3, 4] (fun t s => ∃ (q : Int) (k : Nat), t = .int .i64 q ∧ s = .int .i64 k ∧ k ≤ len ∧ k ≤ 4000) (fun _ s => (len - intOf s).toNat)
  case atStart => exact ⟨q0, 0, rfl, rfl, by omega, by omega⟩
  case round =>
    obtain ⟨q, k, rfl, rfl, hk, hk2⟩ := hrel
    by_cases h1 : k < len
    · by_cases h2 : k < 4000
      · obtain ⟨b, o, z, ha, hx, hz0, hz1⟩ := HC.out.2 k h1
        subst ha
        have h3 : (k : Int) < 4000 := by omega
        have H2 := Lib.hid h2
        have H4 := Lib.hid hk2
        clear h2 hk2
        go_wp2_with (fail)
        go_round
        case rel => exact ⟨_, k + 1, rfl, by go_num, by omega, by have := H2.out; omega⟩
        case measure => simp [intOf]; omega
      · have h3 : decide ((k : Int) < 4000) = false := by simp; omega
        clear h2 hk2
        go_wp2_with (fail)
        go_ret
        refine ⟨w.heap.size, rfl, Nat.le_refl _, ⟨a, len, cap, 0, q, Blk3.new _ _ _ _ _, by omega, HC.out.1, fun j hj => ?_⟩, (Below.refl _ _).alloc (Nat.le_refl _) _⟩
        obtain ⟨b, o, z, ha, hx, hz0, hz1⟩ := HC.out.2 j hj
        have hlt := World.block_lt_of_cell? w _ hx
        exact ⟨b, o, z, ha, (World.grownBy_alloc w _ none).cell hx (by simp), hz0, hz1, by simp at hlt; omega⟩
    · have h1' : decide (k < len) = false := by simpa using h1
      go_wp2_with (fail)
      go_ret
      refine ⟨w.heap.size, rfl, Nat.le_refl _, ⟨a, len, cap, 0, q, Blk3.new _ _ _ _ _, by omega, HC.out.1, fun j hj => ?_⟩, (Below.refl _ _).alloc (Nat.le_refl _) _⟩
      obtain ⟨b, o, z, ha, hx, hz0, hz1⟩ := HC.out.2 j hj
      have hlt := World.block_lt_of_cell? w _ hx
      exact ⟨b, o, z, ha, (World.grownBy_alloc w _ none).cell hx (by simp), hz0, hz1, by simp at hlt; omega⟩

/-- Two ints are returned; of what was there nothing has changed. -/
def TwoInts (P : Int → Int → Prop) (w : World) (e : Ending) (w' : World) : Prop := ∃ r s : Int, P r s ∧ e = .returned (.tuple #[.int .i64 r, .int .i64 s]) ∧ Below w.heap.size w w'

end Go.Proofs.Ytgemkfcapkfdbaa
end

section
/-
  A code that came in as a slice of bytes, as the drawing takes it; and the laws' own look at its length.
-/
namespace Go.Proofs.Ytgemkfcapkfdbaa
open Go.RowKit

theorem codeIn_none (w : World) : CodeIn w none 0 := ⟨Nat.zero_le _, fun _ hk => absurd hk (Nat.not_lt_zero _)⟩
theorem codeIn_some {w : World} {x : Addr} {len cap : Nat} {zs : List Int} (hl : len ≤ cap) (hm : cap ≤ maxLen) (hz : zs.length = cap)
    (hcell : ∀ i, i < zs.length → w.cell? (x.add i) = some (.int .u8 (zs.getD i 0))) (hwf : ∀ n ∈ zs, (Lit.int .u8 n).wf = true) : CodeIn w (some x) len := by
  refine ⟨Nat.le_trans hl hm, fun k hk => ?_⟩
  obtain ⟨b, o, rfl, hc⟩ := ints_at hcell (by omega)
  have bd := range_u8 hwf k
  exact ⟨b, o, zs.getD k 0, rfl, hc k (by omega), by simpa using bd.1, by simpa using bd.2⟩

theorem big_no (w : World) (a : Option Addr) (len cap : Nat) (h : len ≤ 1048576) : Calls Try.prog 10 #[.slice a len cap] w fun e w' => e = .returned (.bool false) ∧ w = w' := by
  have h' : decide ((1048576 : Int) < (len : Int)) = false := by simp; omega
  clear h
  go_enter Try.func10, Try.ntmps10
  go_wp2
  go_ret
  exact ⟨rfl, rfl⟩
theorem big_yes (w : World) (a : Option Addr) (len cap : Nat) (h : 1048576 < len) : Calls Try.prog 10 #[.slice a len cap] w fun e w' => e = .returned (.bool true) ∧ w = w' := by
  have h' : decide ((1048576 : Int) < (len : Int)) = true := by simp; omega
  clear h
  go_enter Try.func10, Try.ntmps10
  go_wp2
  go_ret
  exact ⟨rfl, rfl⟩

end Go.Proofs.Ytgemkfcapkfdbaa
end

section
/-
  The laws' unit and mix: some matrix is returned; nothing that was there changes.
-/
namespace Go.Proofs.Ytgemkfcapkfdbaa
set_option maxRecDepth 100000
open Go.RowKit

/-- A matrix, whatever it is, that has cells or no rows. -/
def SomeMat (w : World) (e : Ending) (w' : World) : Prop := ∃ (r c : Int) (q : Option Addr) (qc : Nat) (zs : List Int), e = .returned (.agg #[.int .i64 r, .int .i64 c, .slice q zs.length qc]) ∧ Own w.heap.size w' (.slice q zs.length qc) zs ∧ (0 < zs.length ∨ r = 0) ∧ zs.length ≤ 600 ∧ Below w.heap.size w w'
theorem Own.addr {B : Nat} {w : World} {q : Option Addr} {n qc : Nat} {zs : List Int} (h : Own B w (.slice q n qc) zs) (hz : 0 < zs.length) : ∃ g o : Nat, q = some ⟨g, o, none⟩ := by
  rcases h with ⟨_, h⟩ | ⟨g, cap, hv, -⟩
  · rw [h] at hz; simp at hz
  · injection hv with h1; exact ⟨g, 0, h1⟩
theorem Own.rd2 {B : Nat} {w : World} {q : Option Addr} {n qc : Nat} {zs : List Int} (h : Own B w (.slice q n qc) zs) : Rd w q zs := by
  obtain ⟨a', c', e, hr, -⟩ := h.form
  injection e with e1 e2 e3
  rw [e1]; exact hr
theorem Own.old2 {B : Nat} {w : World} {v : Value} {zs : List Int} (h : Own B w v zs) (o : Obj) : Own B (w.alloc o) v zs := h.keep ((Below.refl _ _).alloc (Nat.le_refl _) o)
theorem idM_some (n : Int) : (0 < (idM n).zs.length ∨ (idM n).r = 0) ∧ (idM n).zs.length ≤ 600 := by
  unfold idM
  by_cases h : 0 ≤ n ∧ n ≤ 24
  · rw [if_pos h]
    obtain ⟨k, rfl⟩ := Int.eq_ofNat_of_zero_le h.1
    have hk : k ≤ 24 := by omega
    have : k * k ≤ 24 * 24 := Nat.mul_le_mul hk hk
    refine ⟨?_, ?_⟩
    · rcases Nat.eq_zero_or_pos k with e | e
      · right; simp [e]
      · left
        show 0 < (idL k k).length
        rw [idL_length]; exact Nat.mul_pos e e
    · show (idL k k).length ≤ 600
      rw [idL_length]; omega
  · rw [if_neg h]
    exact ⟨.inr rfl, by simp [MR.no]⟩
theorem opM_some (k i j t r c : Int) (xs : List Int) (h : 0 < xs.length ∨ r = 0) (hl : xs.length ≤ 600) : (0 < (opM k i j t r c xs).zs.length ∨ (opM k i j t r c xs).r = 0) ∧ (opM k i j t r c xs).zs.length ≤ 600 := by
  unfold opM MR.done
  split
  · rename_i h1
    simp only [Bool.and_eq_true] at h1
    have h2 := isOp_says h1.2
    split
    · refine ⟨?_, ?_⟩
      · left
        show 0 < (opL k i.toNat j.toNat t c.toNat xs).length
        rw [opL_length]
        rcases h with h | h
        · exact h
        · omega
      · show (opL k i.toNat j.toNat t c.toNat xs).length ≤ 600
        rw [opL_length]; exact hl
    · exact ⟨.inr rfl, by simp [MR.no]⟩
  · exact ⟨.inr rfl, by simp [MR.no]⟩
theorem Own.spot2 {B n c : Nat} {w : World} {a : Option Addr} {zs : List Int} (h : Own B w (.slice a n c) zs) : Spot a := by
  rcases h with ⟨hv, -⟩ | ⟨g, cap, hv, -⟩
  · simp only [Value.slice.injEq] at hv
    exact .inl hv.1
  · simp only [Value.slice.injEq] at hv
    exact .inr ⟨_, _, hv.1⟩
theorem fourF {W w' : World} {b : Nat} {t : TypeId} {p q r v : Value} {x : Addr} (h0 : Blk3 W b t p q r) (hx : W.cell? x = some v) (hb : Below W.heap.size W w') :
    w'.cell? ⟨b, 0, none⟩ = some p ∧ w'.cell? ⟨b, 1, none⟩ = some q ∧ w'.cell? ⟨b, 2, none⟩ = some r ∧ w'.cell? x = some v :=
  ⟨(h0.keep hb h0.lt).cell0, (h0.keep hb h0.lt).cell1, (h0.keep hb h0.lt).cell2, (hb.cell (World.block_lt_of_cell? W _ hx)).trans hx⟩
theorem In.own {B T : Nat} {w : World} {v : Value} {zs : List Int} (h : In B T w v zs) : Own B w v zs := by
  rcases h with h | ⟨g, cap, hv, hB, -, hi, hl, hk⟩
  · exact .inl h
  · exact .inr ⟨g, cap, hv, hB, hi, hl, hk⟩
theorem Own.far2 {B : Nat} {w : World} {v : Value} {zs : List Int} (h : Own B w v zs) {a : Addr} (ha : a.block < B) (u : Value) : Own B (w.setCell a u) v zs := by
  rcases h with h | ⟨g, cap, hv, hB, hi, hl, hk⟩
  · exact .inl h
  · exact .inr ⟨g, cap, hv, hB, hi.far (by omega) u, hl, hk⟩
end Go.Proofs.Ytgemkfcapkfdbaa
end

section
/-
  The laws' unit and mix: mix is a matrix whose determinant is 1, or it is empty.
-/
namespace Go.Proofs.Ytgemkfcapkfdbaa
open Go.RowKit

/-- What mix makes: its determinant is 1, or it is empty. -/
def MixP (n r c : Int) (zs : List Int) : Prop := (r = n ∧ c = n ∧ 0 ≤ n ∧ zs.length = n.toNat * n.toNat ∧ nums zs = true ∧ det n.toNat (mxL n.toNat zs) = 1) ∨ (r = 0 ∧ c = 0 ∧ zs = [] ∧ 1 < n)
def UniOf (n : Int) (w : World) (e : Ending) (w' : World) : Prop := ∃ (r c : Int) (q : Option Addr) (qc : Nat) (zs : List Int), e = .returned (.agg #[.int .i64 r, .int .i64 c, .slice q zs.length qc]) ∧ Own w.heap.size w' (.slice q zs.length qc) zs ∧ MixP n r c zs ∧ zs.length ≤ 600 ∧ Below w.heap.size w w'
theorem idM_D (n : Int) (h0 : 0 ≤ n) (h6 : n ≤ 24) : MixP n (idM n).r (idM n).c (idM n).zs ∧ (idM n).zs.length ≤ 600 := by
  unfold idM
  rw [if_pos ⟨h0, by omega⟩]
  refine ⟨.inl ⟨rfl, rfl, h0, idL_length _ _, idL_nums _, idL_det _⟩, ?_⟩
  show (idL n.toNat n.toNat).length ≤ 600
  rw [idL_length]
  have : n.toNat * n.toNat ≤ 24 * 24 := Nat.mul_le_mul (by omega) (by omega)
  omega
theorem opM_len (k i j t r c : Int) (xs : List Int) (hl : xs.length ≤ 600) : (opM k i j t r c xs).zs.length ≤ 600 := by
  unfold opM MR.done
  split
  · split
    · show (opL k i.toNat j.toNat t c.toNat xs).length ≤ 600
      rw [opL_length]; exact hl
    · simp [MR.no]
  · simp [MR.no]
theorem opM_D (n i j t r c : Int) (xs : List Int) (h : MixP n r c xs) (hn : 1 < n) (hl : xs.length ≤ 600) : MixP n (opM 2 i j t r c xs).r (opM 2 i j t r c xs).c (opM 2 i j t r c xs).zs ∧ (opM 2 i j t r c xs).zs.length ≤ 600 := by
  refine ⟨?_, (opM_len 2 i j t r c xs hl)⟩
  rcases Bool.eq_false_or_eq_true (opM 2 i j t r c xs).ok with ho | ho
  · rcases h with ⟨rfl, rfl, h0, hz, hx, hd⟩ | ⟨rfl, rfl, rfl, -⟩
    · obtain ⟨N, rfl⟩ := Int.eq_ofNat_of_zero_le h0
      obtain ⟨ys, e, -, -, hy, ny, dy⟩ := opM_det ho
      rw [e]
      refine .inl ⟨rfl, rfl, h0, hy, ny, ?_⟩
      show det N (mxL N ys) = 1
      rw [dy]
      have hd : det N (mxL N xs) = 1 := hd
      rw [hd]; rfl
    · exfalso
      unfold opM at ho
      by_cases h1 : (isMat 0 0 [] && isOp 2 i j t 0) = true
      · simp only [Bool.and_eq_true] at h1
        have := isOp_says h1.2
        omega
      · rw [if_neg h1] at ho; exact absurd ho (by simp [MR.no])
  · have e : opM 2 i j t r c xs = MR.no := by
      unfold opM at ho ⊢
      split
      · rename_i h1
        rw [if_pos h1] at ho
        unfold MR.done at ho ⊢
        split
        · rename_i h2; rw [if_pos h2] at ho; exact absurd ho (by simp)
        · rfl
      · rfl
    rw [e]
    exact .inr ⟨rfl, rfl, rfl, hn⟩
end Go.Proofs.Ytgemkfcapkfdbaa
end

section
/-
  Plain mathematics of chapter 6: a step of the elimination, cell by cell. Nothing of a program is used.
-/
namespace Go.Proofs.Ytgemkfcapkfdbaa

theorem tab_self {n : Nat} {xs : List Int} (hx : xs.length = n * n) : (tab n n fun i j => xs.getD (i * n + j) 0) = xs := (tab_ext hx fun _ _ _ _ => rfl).symm
/-- The cells ahead of row i, column j are done. -/
def elTo (n t : Nat) (last : Int) (xs : List Int) (i j : Nat) : List Int := tab n n fun p q => if t < p ∧ t < q ∧ (p < i ∨ (p = i ∧ q < j)) then elAt n t last xs p q else xs.getD (p * n + q) 0
theorem elTo_length (n t : Nat) (last : Int) (xs : List Int) (i j : Nat) : (elTo n t last xs i j).length = n * n := tab_length _ _ _
theorem elTo_at {n t : Nat} {last : Int} {xs : List Int} {i j p q : Nat} (hp : p < n) (hq : q < n) : (elTo n t last xs i j).getD (p * n + q) 0 = if t < p ∧ t < q ∧ (p < i ∨ (p = i ∧ q < j)) then elAt n t last xs p q else xs.getD (p * n + q) 0 := tab_at n n _ hp hq
theorem elTo_old {n t : Nat} {last : Int} {xs : List Int} {i j p q : Nat} (hp : p < n) (hq : q < n) (h : p ≤ t ∨ q ≤ t ∨ (p = i ∧ j ≤ q)) : (elTo n t last xs i j).getD (p * n + q) 0 = xs.getD (p * n + q) 0 := by
  rw [elTo_at hp hq, if_neg (by omega)]
theorem elTo_start {n t : Nat} {last : Int} {xs : List Int} (hx : xs.length = n * n) : elTo n t last xs (t + 1) (t + 1) = xs := by
  refine (tab_ext hx fun i j _ _ => ?_).symm
  rw [if_neg (by omega)]
theorem elTo_step {n t : Nat} {last : Int} {xs : List Int} {i j : Nat} (hi : i < n) (hj : j < n) (ti : t < i) (tj : t < j) : (elTo n t last xs i j).set (i * n + j) (elAt n t last xs i j) = elTo n t last xs i (j + 1) := by
  refine tab_ext (by rw [List.length_set, elTo_length]) fun p q hp hq => ?_
  rw [getD_set _ _ _ _ (by rw [elTo_length]; exact idx_lt hi hj), elTo_at hp hq]
  by_cases e : p * n + q = i * n + j
  · obtain ⟨rfl, rfl⟩ := idx_inj hq hj e
    rw [if_pos rfl, if_pos (by omega)]
  · rw [if_neg e]
    have : ¬ (p = i ∧ q = j) := fun h => e (by rw [h.1, h.2])
    by_cases h : t < p ∧ t < q ∧ (p < i ∨ (p = i ∧ q < j))
    · rw [if_pos h, if_pos (by omega)]
    · rw [if_neg h, if_neg (by omega)]
theorem elTo_row {n t : Nat} {last : Int} {xs : List Int} {i : Nat} : elTo n t last xs i n = elTo n t last xs (i + 1) (t + 1) := by
  refine tab_ext (elTo_length _ _ _ _ _ _) fun p q hp hq => ?_
  rw [elTo_at hp hq]
  by_cases h : t < p ∧ t < q ∧ (p < i ∨ (p = i ∧ q < n))
  · rw [if_pos h, if_pos (by omega)]
  · rw [if_neg h, if_neg (by omega)]
theorem elTo_all {n t : Nat} {last : Int} {xs : List Int} : elTo n t last xs n (t + 1) = elL n t last xs := by
  refine tab_ext (elTo_length _ _ _ _ _ _) fun p q hp hq => ?_
  rw [elTo_at hp hq]
  by_cases h : t < p ∧ t < q
  · rw [if_pos h, if_pos (by omega)]
  · rw [if_neg h, if_neg (by omega)]
theorem nums_set {zs : List Int} {k : Nat} {z : Int} (h : nums zs = true) (hz : NumP z) : nums (zs.set k z) = true := by
  rcases Nat.lt_or_ge k zs.length with hk | hk
  · refine nums_true fun j hj => ?_
    rw [List.length_set] at hj
    rw [getD_set _ _ _ _ hk]
    by_cases e : j = k
    · rw [if_pos e]; exact hz
    · rw [if_neg e]; exact nums_at h hj
  · rw [List.set_eq_of_length_le hk]; exact h
theorem elL_bad {n t : Nat} {last : Int} {xs : List Int} {i j : Nat} (hi : i < n) (hj : j < n) (ti : t < i) (tj : t < j) (h : ¬ NumP (elAt n t last xs i j)) : nums (elL n t last xs) ≠ true := by
  have := nums_false (zs := elL n t last xs) (j := i * n + j) (by rw [show (elL n t last xs).length = n * n from tab_length _ _ _]; exact idx_lt hi hj) (by rw [show (elL n t last xs).getD (i * n + j) 0 = elAt n t last xs i j from (tab_at n n _ hi hj).trans (if_pos ⟨ti, tj⟩)]; exact h)
  rw [this]; decide
theorem elL_tt {n t : Nat} {last : Int} {xs : List Int} (ht : t < n) : (elL n t last xs).getD (t * n + t) 0 = xs.getD (t * n + t) 0 := (tab_at n n _ ht ht).trans (if_neg (by omega))
theorem tdiv_in {x y b : Int} (h1 : -b ≤ x) (h2 : x ≤ b) : -b ≤ x.tdiv y ∧ x.tdiv y ≤ b := by
  have e : (x.tdiv y).natAbs = x.natAbs / y.natAbs := Int.natAbs_tdiv x y
  have l := Nat.div_le_self x.natAbs y.natAbs
  omega
/-- The swap makes numbers of numbers. -/
theorem pvL_nums {n t : Nat} {xs : List Int} (hx : xs.length = n * n) (hp : pivP n t xs < n) (ht : t < n) (h : nums xs = true) : nums (pvL n t xs) = true := by
  refine nums_true fun p hp' => ?_
  rw [pvL_length, hx] at hp'
  have e : p = p / n * n + p % n := by rw [Nat.mul_comm]; exact (Nat.div_add_mod p n).symm
  have h1 : p / n < n := Nat.div_lt_of_lt_mul hp'
  have h2 : p % n < n := Nat.mod_lt p (by omega)
  rw [e, pvL_at hx h1 h2]
  refine nums_at h ?_
  rw [hx]
  refine idx_lt ?_ h2
  split
  · exact hp
  · split
    · exact ht
    · exact h1
end Go.Proofs.Ytgemkfcapkfdbaa
end

section
/-
  Chapter 6, in the model: DeterminantBySteps.
-/
namespace Go.Proofs.Ytgemkfcapkfdbaa
set_option maxRecDepth 100000
open Go.RowKit

def stepsOf (r c : Int) (xs : List Int) : Int × Bool := if isSq r c xs = true then stepsM r.toNat xs else (0, false)
end Go.Proofs.Ytgemkfcapkfdbaa
end

section
/-
  Plain mathematics of chapter 6: what FnDeterminants asks. Nothing of a program is used.
-/
namespace Go.Proofs.Ytgemkfcapkfdbaa

/-- The product with a matrix of determinant 1. -/
theorem mix_det {r c rM cM d g : Int} {xs zM : List Int} {m : MR} (hp : MixP r rM cM zM) (hm : mulM rM cM zM r c xs = m) (ho : m.ok = true) (h1 : (detOf r c xs).1 = d) (h2 : (detOf r c xs).2 = true) (c1 : (detOf m.r m.c m.zs).1 = g) (c2 : (detOf m.r m.c m.zs).2 = true) : d = g := by
  obtain ⟨n, rfl, rfl, -, -, -, -, -, ed⟩ := detOf_says h1 h2
  obtain ⟨R, K, C, e1, e2, e3, e4, -, -, e⟩ := mulM_says (by rw [hm]; exact ho)
  obtain rfl : n = K := by omega
  obtain rfl : n = C := by omega
  rcases hp with ⟨p1, -, -, -, -, pd⟩ | ⟨p1, p2, -, p3⟩
  · obtain rfl : n = R := by omega
    rw [hm] at e
    subst e
    obtain ⟨p, q1, -, -, -, -, -, -, ec⟩ := detOf_says c1 c2
    have q1 : rM = (p : Int) := q1
    obtain rfl : n = p := by omega
    have pd : det n (mxL n zM) = 1 := pd
    rw [ed, ec]
    show _ = det n (mxL n (mulL n n n zM xs))
    rw [det_congr (mxL_mul n zM xs), det_mul, pd, Int.one_mul]
  · omega
theorem steps_law {r c d e : Int} {xs : List Int} (h1 : (detOf r c xs).1 = d) (h2 : (detOf r c xs).2 = true) (s1 : (stepsOf r c xs).1 = e) (s2 : (stepsOf r c xs).2 = true) : d = e :=
  steps_says h1 h2 (by show stepsOf r c xs = (e, true); exact Prod.ext s1 s2)
theorem sq_no {r c : Int} {xs : List Int} (h : isSq r c xs = false) : detOf r c xs = (0, false) ∧ stepsOf r c xs = (0, false) := by
  unfold detOf stepsOf
  rw [if_neg (by rw [h]; decide), if_neg (by rw [h]; decide)]
  exact ⟨rfl, rfl⟩
theorem sq_range {r c : Int} {xs : List Int} (h : isSq r c xs = true) : 0 ≤ r ∧ r ≤ 6 := by
  obtain ⟨n, rfl, -, h6, -, -⟩ := isSq_says h
  omega
end Go.Proofs.Ytgemkfcapkfdbaa
end

section
/-
  Chapter 9: what the laws' own helpers answer, and the parts of the laws.
-/
namespace Go.Proofs.Ytgemkfcapkfdbaa
set_option maxRecDepth 100000
open Go.RowKit

theorem lAbs9 (n : Int) (w : World) (h1 : -4000000000000000000 ≤ n) (h2 : n ≤ 4000000000000000000) :
    Calls Try.prog 23 #[.int .i64 n] w fun e w' => e = .returned (.int .i64 (n.natAbs : Int)) ∧ w = w' := by
  have v1 : IntKind.i64.wrap (-n) = -n := IntWalk.i64_in _ (by omega)
  have v2 : max n (-n) = (n.natAbs : Int) := by omega
  go_enter Try.func23, Try.ntmps23
  go_wp2
  all_goals
    go_ret
    exact ⟨rfl, rfl⟩
theorem lProd9 (a : Option Addr) (m : Nat) (ms : List Int) (w : World) (h : Rd w a ms) (hm : modB ms = true) :
    Calls Try.prog 16 #[.slice a ms.length m] w fun e w' => e = .returned (.int .i64 (prodI (atL ms) ms.length)) ∧ w = w' := by
  obtain ⟨h8, hmo, hr, hp⟩ := modB_says hm
  have PB : Hid (∀ i, i ≤ ms.length → 1 ≤ prodI (atL ms) i ∧ prodI (atL ms) i ≤ 400000000) := fun i hi => ⟨(hmo.less hi).pos, hp i hi⟩
  have PS : Hid (∀ i, prodI (atL ms) (i + 1) = prodI (atL ms) i * ms.getD i 0) := fun _ => rfl
  have PZ : Hid (prodI (atL ms) 0 = 1) := rfl
  have RD := Lib.hid h
  obtain ⟨N, hN⟩ : ∃ N, ms.length = N := ⟨_, rfl⟩
  rw [hN] at PB h8 ⊢
  have XN := Lib.hid hN
  generalize prodI (atL ms) = PP at PB PS PZ ⊢
  clear h hm hmo hr hp hN
  go_enter Try.func16, Try.ntmps16
  go_wp2_with fail
  go_loopw [3, 4] (fun v3 v4 wr => ∃ i : Nat, v3 = .int .i64 (PP i) ∧ v4 = .int .i64 i ∧ i ≤ N ∧ wr = w) (fun _ v4 _ => N - (intOf v4).toNat)
  case atStart => exact ⟨0, by rw [PZ.out], rfl, by omega, rfl⟩
  case round =>
    obtain ⟨i, rfl, rfl, hi, rfl⟩ := hrel
    obtain ⟨b0, b1⟩ := PB.out i hi
    by_cases hlt : i < N
    · obtain ⟨b, o, rfl, hcell⟩ := RD.out i (by rw [XN.out]; exact hlt)
      have e := PS.out i
      obtain ⟨c0, c1⟩ := PB.out (i + 1) hlt
      obtain ⟨P, hP⟩ : ∃ P, PP i = P := ⟨_, rfl⟩
      obtain ⟨x, hx⟩ : ∃ x, ms.getD i 0 = x := ⟨_, rfl⟩
      obtain ⟨Q, hQ⟩ : ∃ Q, PP (i + 1) = Q := ⟨_, rfl⟩
      rw [hP] at b0 b1 e ⊢
      rw [hx] at e hcell
      rw [hQ] at e c0 c1
      have QH := Lib.hid hQ
      have d1 : IntKind.i64.wrap (P * x) = Q := by rw [← e]; exact IntWalk.i64_in _ (by omega)
      have d2 : (P.natAbs : Int) = P := by omega
      clear e hP hx hQ
      go_wp2_with fail
      refine (lAbs9 P _ (by omega) (by omega)).mono ?_
      rintro e w' ⟨rfl, rfl⟩
      rw [d2]
      clear d2
      go_wp2_with fail
      go_roundw
      case rel => exact ⟨i + 1, by rw [QH.out], by go_num, by omega, by first | rfl | trivial⟩
      case measure => simp [intOf]; omega
    · obtain rfl : i = N := by omega
      go_wp2_with fail
      go_ret
      exact ⟨rfl, rfl⟩
theorem own_cap {B n c : Nat} {w : World} {a : Option Addr} {zs : List Int} (h : Own B w (.slice a n c) zs) : zs.length ≤ c ∧ Spot a := by
  rcases h with ⟨hv, rfl⟩ | ⟨g, cap, hv, -, -, hl, -⟩
  · simp only [Value.slice.injEq] at hv
    exact ⟨by simp, .inl hv.1⟩
  · simp only [Value.slice.injEq] at hv
    exact ⟨by omega, .inr ⟨_, _, hv.1⟩⟩
theorem chiX_none {rs ms : List Int} (h : (chiX rs ms).2.2 = false) : chiX rs ms = (0, 0, false) := by
  unfold chiX at h ⊢
  by_cases h1 : (modB ms && decide (rs.length = ms.length) && nums rs) = true
  · rw [if_pos h1] at h; cases h
  · rw [if_neg h1]
/-- The residues are numbers. -/
theorem chi_nums {rs ms : List Int} (h1 : nums rs = true) (h2 : rs.length = ms.length) {i : Nat} (hi : i < ms.length) : -400000000 ≤ rs.getD i 0 ∧ rs.getD i 0 ≤ 400000000 := nums_at h1 (by rw [h2]; exact hi)
theorem roads_steps {r c e : Int} {xs : List Int} (h1 : (stepsOf r c xs).1 = e) (h2 : (stepsOf r c xs).2 = true) (h3 : (imX r c xs).2 = true) : e = (imX r c xs).1 := by
  obtain ⟨-, n, rfl, rfl, e2⟩ := imX_det h3
  unfold stepsOf at h1 h2
  by_cases hs : isSq (n : Int) (n : Int) xs = true
  · rw [if_pos hs] at h1 h2
    obtain ⟨m, hm, -, -, hl, -⟩ := isSq_says hs
    obtain rfl : n = m := by omega
    rw [e2, ← h1]
    exact stepsM_det hl (Prod.ext rfl h2)
  · rw [if_neg hs] at h2; cases h2
theorem roads_four {r c : Int} {xs : List Int} (h3 : (imX r c xs).2 = true) : (bndX r c xs).2 = true := (imX_det h3).1
theorem det_small {r c d : Int} {xs : List Int} (h1 : (detOf r c xs).1 = d) : -400000000 ≤ d ∧ d ≤ 400000000 := by
  have := detOf_num r c xs
  rw [h1] at this
  exact this
end Go.Proofs.Ytgemkfcapkfdbaa
end

section
/-
  Frames: what they keep of a cursor.
-/
namespace Go.Proofs.Ytgemkfcapkfdbaa
open Go.RowKit

/-- A new matrix of zeros, of which all is known. -/
theorem sNewC (R C : Nat) (w : World) (hR : R ≤ 4096) (hC : C ≤ 4096) :
    Calls Try.prog 93 #[.int .i64 R, .int .i64 C] w (fun e w' => ∃ g, e = .returned (.agg #[.int .i64 R, .int .i64 C, .slice (some ⟨g, 0, none⟩) (R * C) (R * C)]) ∧ w.heap.size ≤ g ∧ IntsC w' g (R * C) (List.replicate (R * C) 0) ∧ Below w.heap.size w w') := by
  have hm : R * C ≤ 4096 * 4096 := Nat.mul_le_mul hR hC
  have hmk := makeProd R C (by omega)
  have hp1 : (0 : Int) ≤ (R : Int) * (C : Int) := by rw [← Int.natCast_mul]; omega
  have hp2 : (R : Int) * (C : Int) ≤ 16777216 := by rw [← Int.natCast_mul]; omega
  go_enter Try.func93, Try.ntmps93
  go_wp2_with fail
  refine bodyPost_ret (v := .agg #[.int .i64 R, .int .i64 C, .slice (some ⟨w.heap.size + 1, 0, none⟩) (R * C) (R * C)]) (by simp [results, Try.results93, go_sem]) rfl ⟨w.heap.size + 1, rfl, by omega, ?_, ?_⟩
  · exact IntsC.made _ (by omega) (by simp)
  · exact ((Below.refl _ _).alloc (Nat.le_refl _) _).alloc (by simp) _
theorem Cur.frs {w w' : World} {cb : Nat} {p : Nat → Prop} (h : Cur w cb) (hf : FrS p w w') (hb : ∀ k, k ≤ cb → ¬ p k) : Cur w' cb := by
  obtain ⟨a, len, cap, i, x, hk, hi, hl, hby⟩ := h
  refine ⟨a, len, cap, i, x, hk.frs hf (hb _ (Nat.le_refl _)), hi, hl, fun k hkl => ?_⟩
  obtain ⟨b, o, z, ha, hx, h0, h1, hne⟩ := hby k hkl
  have hlt := World.block_lt_of_cell? w _ hx
  exact ⟨b, o, z, ha, (World.cell?_of_block (w := w) (hf.block b (by simpa using hlt) (hb b (by omega)))).trans hx, h0, h1, hne⟩
end Go.Proofs.Ytgemkfcapkfdbaa
end

section
/-
  The drawing of matrices: of what was there only the cursor has changed.
-/
namespace Go.Proofs.Ytgemkfcapkfdbaa
set_option maxRecDepth 100000
open Go.RowKit

/-! ### l3Draw -/
set_option maxHeartbeats 1000000 in
theorem l3Draw (w : World) (cb R C most : Nat) (hc : Cur w cb) (hR : R ≤ 24) (hC : C ≤ 24) (hm : most ≤ 100) :
    Calls Try.prog 74 #[.pointer (some ⟨cb, 0, none⟩), .int .i64 R, .int .i64 C, .int .i64 most] w (fun e w' => ∃ (g : Nat) (zs : List Int), e = .returned (.agg #[.int .i64 R, .int .i64 C, .slice (some ⟨g, 0, none⟩) (R * C) (R * C)]) ∧ w.heap.size ≤ g ∧ zs.length = R * C ∧ IntsC w' g (R * C) zs ∧ Cur w' cb ∧ w.grownBy w' (some cb)) := by
  have hlt := hc.lt
  have hle : R * C ≤ 24 * 24 := Nat.mul_le_mul hR hC
  have B0 : ∀ o, Below w.heap.size w (w.alloc o) := fun o => (Below.refl _ _).alloc (Nat.le_refl _) o
  have BH := Lib.hid B0
  have C0 := Lib.hid hc
  clear B0 hc
  go_enter Try.func74, Try.ntmps74
  go_wp2_with fail
  refine (sNewC R C _ (by omega) (by omega)).mono ?_
  rintro e w1 ⟨g, rfl, hg, hi, hb⟩
  have hg : w.heap.size < g := by simp at hg; exact hg
  have K2 : Hid (Blk3 w1 w.heap.size 34 (.int .i64 0) (.int .i64 0) (.slice none 0 0)) := (Blk3.at_ _ _ _ _ rfl).keep hb (by simp)
  have F : Hid (FrS (fun k => k = cb ∨ w.heap.size ≤ k) w w1) := (FrS.of_below (BH.out (.cells #[.int .i64 0, .int .i64 0, .slice none 0 0] 34))).trans (FrS.of_below hb)
  have C1 := Lib.hid ((C0.out.alloc (.cells #[.int .i64 0, .int .i64 0, .slice none 0 0] 34)).grown (row := none) (grown_of_below hb _) (by simp))
  obtain ⟨N, hN⟩ : ∃ N, R * C = N := ⟨_, rfl⟩
  have HN := Lib.hid hN
  rw [hN] at hi hle ⊢
  have I1 := Lib.hid hi
  have gl := hi.lt
  have kl := K2.out.lt
  clear hN hi hb C0
  have K2 := Lib.hid (K2.out.old (.cells #[.int .i64 R, .int .i64 C, .slice (some ⟨g, 0, none⟩) N N] 34))
  have K6 : Hid (Blk3 (w1.alloc (.cells #[.int .i64 R, .int .i64 C, .slice (some ⟨g, 0, none⟩) N N] 34)) w1.heap.size 34 (.int .i64 R) (.int .i64 C) (.slice (some ⟨g, 0, none⟩) N N)) := Blk3.at_ _ _ _ _ rfl
  have I1 := Lib.hid (I1.out.old (.cells #[.int .i64 R, .int .i64 C, .slice (some ⟨g, 0, none⟩) N N] 34))
  have C1 := Lib.hid (C1.out.alloc (.cells #[.int .i64 R, .int .i64 C, .slice (some ⟨g, 0, none⟩) N N] 34))
  have F := Lib.hid (F.out.alloc (.cells #[.int .i64 R, .int .i64 C, .slice (some ⟨g, 0, none⟩) N N] 34))
  go_wp2_with fail
  go_loopw [10] (fun i wr => ∃ (k : Nat) (zs : List Int), i = .int .i64 k ∧ k ≤ N ∧ zs.length = N ∧ IntsC wr g N zs ∧ Cur wr cb ∧ FrS (fun k => k = cb ∨ k = g) (w1.alloc (.cells #[.int .i64 R, .int .i64 C, .slice (some ⟨g, 0, none⟩) N N] 34)) wr) (fun i _ => N - (intOf i).toNat)
  case atStart => exact ⟨0, _, rfl, by omega, by simp, I1.out, C1.out, FrS.refl _ _⟩
  case round =>
    obtain ⟨k, zs, rfl, hk, hz, hi, hcu, hfr⟩ := hrel
    have I := Lib.hid hi
    have CU := Lib.hid hcu
    have FR := Lib.hid hfr
    have HZ := Lib.hid hz
    clear hi hcu hfr hz
    have R6 := Lib.hid (K6.out.frs FR.out (by omega))
    have lc := CU.out.lt
    obtain ⟨r0, r1, r2, -, -, -⟩ := R6.out.all
    by_cases hlt2 : k < N
    · have v1 : IntKind.i64.wrap (2 * (most : Int)) = 2 * (most : Int) := IntWalk.i64_in _ (by omega)
      have v2 : IntKind.i64.wrap (2 * (most : Int) + 1) = 2 * (most : Int) + 1 := IntWalk.i64_in _ (by omega)
      go_upto_region 5 with fail
      refine wp_region_held_drew (S := fun w' => FrS (fun k => k = cb ∨ k = g) wr w') (by kernel_rfl) (FrS.refl _ _).drew (fun hH => ?_)
      refine wpAnyH_take (i := 0) (v := ?_) (by simp only [List.getElem?_toArray, List.getElem?_cons_zero]; rfl) (by kernel_rfl) (by kernel_rfl) (by kernel_rfl) (by exact fun _ _ _ h => h) (Or.inl ⟨by rfl, ?_⟩) hH ?_
      rotate_left
      · (intro wS hS; clear hS; go_simp; try rfl)
      try simp only [Act.put, List.setIfInBounds_toArray, List.set_cons_zero, List.set_cons_succ]
      refine wpAnyH_take (i := 1) (v := ?_) (by simp only [List.getElem?_toArray, List.getElem?_cons_succ, List.getElem?_cons_zero]; rfl) (by kernel_rfl) (by kernel_rfl) (by kernel_rfl) (by exact fun _ _ _ h => h) (Or.inl ⟨by rfl, ?_⟩) hH ?_
      rotate_left
      · (intro wS hS; (try dsimp only at hS); obtain ⟨k1, k2, k3⟩ := sevenF R6.out hS (by omega); go_simp; try rfl)
      try simp only [Act.put, List.setIfInBounds_toArray, List.set_cons_zero, List.set_cons_succ]
      refine wpAnyH_take (i := 2) (v := ?_) (by simp only [List.getElem?_toArray, List.getElem?_cons_succ, List.getElem?_cons_zero]; rfl) (by kernel_rfl) (by kernel_rfl) (by kernel_rfl) (by exact fun _ _ _ h => h) (Or.inl ⟨by rfl, ?_⟩) hH ?_
      rotate_left
      · (intro wS hS; clear hS; go_simp; try rfl)
      try simp only [Act.put, List.setIfInBounds_toArray, List.set_cons_zero, List.set_cons_succ]
      refine wpAnyH_take (i := 3) (v := ?_) (by simp only [List.getElem?_toArray, List.getElem?_cons_succ, List.getElem?_cons_zero]; rfl) (by kernel_rfl) (by kernel_rfl) (by kernel_rfl) (by exact fun _ _ _ h => h) (Or.inl ⟨by rfl, ?_⟩) hH ?_
      rotate_left
      · (intro wS hS; clear hS; go_simp; try rfl)
      try simp only [Act.put, List.setIfInBounds_toArray, List.set_cons_zero, List.set_cons_succ]
      refine wpAnyH_take (i := 4) (v := ?_) (by simp only [List.getElem?_toArray, List.getElem?_cons_succ, List.getElem?_cons_zero]; rfl) (by kernel_rfl) (by kernel_rfl) (by kernel_rfl) (by exact fun _ _ _ h => h) (Or.inl ⟨by rfl, ?_⟩) hH ?_
      rotate_left
      · (intro wS hS; clear hS; go_simp; try rfl)
      try simp only [Act.put, List.setIfInBounds_toArray, List.set_cons_zero, List.set_cons_succ]
      refine wpAnyH_take (i := 5) (v := ?_) (by simp only [List.getElem?_toArray, List.getElem?_cons_succ, List.getElem?_cons_zero]; rfl) (by kernel_rfl) (by kernel_rfl) (by kernel_rfl) (by exact fun _ _ _ h => h) (Or.inl ⟨by rfl, ?_⟩) hH ?_
      rotate_left
      · (intro wS hS; clear hS; go_simp; try rfl)
      try simp only [Act.put, List.setIfInBounds_toArray, List.set_cons_zero, List.set_cons_succ]
      refine wpAnyH_take (i := 6) (v := ?_) (by simp only [List.getElem?_toArray, List.getElem?_cons_succ, List.getElem?_cons_zero]; rfl) (by kernel_rfl) (by kernel_rfl) (by kernel_rfl) (by exact fun _ _ _ h => h) (Or.inl ⟨by rfl, ?_⟩) hH ?_
      rotate_left
      · (intro wS hS; clear hS; go_simp; try rfl)
      try simp only [Act.put, List.setIfInBounds_toArray, List.set_cons_zero, List.set_cons_succ]
      refine wpAnyH_take (i := 8) (v := ?_) (by simp only [List.getElem?_toArray, List.getElem?_cons_succ, List.getElem?_cons_zero]; rfl) (by kernel_rfl) (by kernel_rfl) (by kernel_rfl) (by exact fun _ _ _ h => h) (Or.inl ⟨by rfl, ?_⟩) hH ?_
      rotate_left
      · (intro wS hS; clear hS; go_simp; try rfl)
      try simp only [Act.put, List.setIfInBounds_toArray, List.set_cons_zero, List.set_cons_succ]
      refine wpAnyH_ready (rs := [7]) (by kernel_rfl) (by simp) ?_
      refine AllReadyH.cons (by simp only [List.getElem?_toArray, List.getElem?_cons_succ, List.getElem?_cons_zero]; rfl) (fun KK hKK => ?_) AllReadyH.nil
      go_simp
      refine (l1Below _ cb _ (by exact CU.out) (by omega)).mono ?_
      rintro e w2 ⟨z, ⟨z0, z1⟩, rfl, hc2, hg2⟩
      have v3 : IntKind.i64.wrap (z - (most : Int)) = z - (most : Int) := IntWalk.i64_in _ (by omega)
      have I2 := Lib.hid (I.out.move (hg2.block g I.out.lt (by simp; omega)))
      have C2 := Lib.hid hc2
      have F1 : Hid (FrS (fun k => k = cb ∨ k = g) wr w2) := (FrS.refl _ wr).drew.trans (FrS.of_one hg2 (.inl rfl))
      clear hc2
      try dsimp only
      refine hKK.out _ _ ?_ (fun hH2 => ?_)
      · exact F1.out
      clear hKK KK
      have hO := hH
      clear hH
      have hH := hH2
      clear hH2
      try simp only [Act.put, List.setIfInBounds_toArray, List.set_cons_zero, List.set_cons_succ]
      refine wpAnyH_take (i := 9) (v := ?_) (by simp only [List.getElem?_toArray, List.getElem?_cons_succ, List.getElem?_cons_zero]; rfl) (by kernel_rfl) (by kernel_rfl) (by kernel_rfl) (by exact fun _ _ _ h => h) (Or.inl ⟨by rfl, ?_⟩) hH ?_
      rotate_left
      · (intro wS hS; clear hS; go_simp; try rfl)
      try simp only [Act.put, List.setIfInBounds_toArray, List.set_cons_zero, List.set_cons_succ]
      refine wpAnyH_take (i := 10) (v := ?_) (by simp only [List.getElem?_toArray, List.getElem?_cons_succ, List.getElem?_cons_zero]; rfl) (by kernel_rfl) (by kernel_rfl) (by kernel_rfl) (by exact fun _ _ _ h => h) (Or.inl ⟨by rfl, ?_⟩) hH ?_
      rotate_left
      · (intro wS hS; clear hS; go_simp; try rfl)
      try simp only [Act.put, List.setIfInBounds_toArray, List.set_cons_zero, List.set_cons_succ]
      have hold := I2.out.ints.cell (i := k) (by rw [HZ.out]; exact hlt2)
      have hfr := I2.out.ints.free k
      refine wpAnyH_ready (rs := [11]) (by kernel_rfl) (by simp) ?_
      refine AllReadyH.cons (by simp only [List.getElem?_toArray, List.getElem?_cons_succ, List.getElem?_cons_zero]; rfl) (fun KK hKK => ?_) AllReadyH.nil
      go_simp
      have I2 := Lib.hid (I2.out.set k (by rw [HZ.out]; exact hlt2) (z - (most : Int)))
      have C2 := Lib.hid (C2.out.setFar (x := ⟨g, k, none⟩) (by show cb < g; omega) (.int .i64 (z - (most : Int))))
      have F2 : Hid (FrS (fun k => k = cb ∨ k = g) wr (w2.setCell ⟨g, k, none⟩ (.int .i64 (z - (most : Int))))) := F1.out.set (a := ⟨g, k, none⟩) (.inl (.inr rfl)) _
      try dsimp only
      refine hKK.out _ _ ?_ (fun hH2 => ?_)
      · exact F2.out
      clear hKK KK
      have hO := hH
      clear hH
      have hH := hH2
      clear hH2
      try simp only [Act.put, List.setIfInBounds_toArray, List.set_cons_zero, List.set_cons_succ]
      have F2 := Lib.hid (FR.out.trans F2.out)
      refine wpAnyH_done (by kernel_rfl) ?_ _
      go_wp2_with fail
      go_roundw
      case rel => exact ⟨k + 1, _, by go_num, by omega, by rw [List.length_set]; exact HZ.out, I2.out, C2.out, F2.out⟩
      case measure => simp [intOf]; omega
    · obtain rfl : N = k := by omega
      have R2 := Lib.hid (K2.out.frs FR.out (by omega))
      obtain ⟨s0, s1, s2, t0, t1, t2⟩ := R2.out.all
      go_wp2_with fail
      obtain ⟨E0, E1, E2, -, -, -⟩ := (((R2.out.set0 (.int .i64 R)).set1 (.int .i64 C)).set2 (.slice (some ⟨g, 0, none⟩) N N)).all
      have FF := Lib.hid (F.out.trans (FR.out.mono (q := fun k => k = cb ∨ w.heap.size ≤ k) (fun k hk => by omega)))
      refine bodyPost_ret (v := .agg #[.int .i64 R, .int .i64 C, .slice (some ⟨g, 0, none⟩) N N]) (by simp [results, Try.results74, go_sem, E0, E1, E2]) rfl ⟨g, zs, by rw [HN.out], by omega, by rw [HN.out]; exact HZ.out, ?_, ?_, ?_⟩
      · rw [HN.out]
        exact ((I.out.far (by show g ≠ w.heap.size; omega) _).far (by show g ≠ w.heap.size; omega) _).far (by show g ≠ w.heap.size; omega) _
      · exact ((CU.out.setFar (by show cb < w.heap.size; omega) _).setFar (by show cb < w.heap.size; omega) _).setFar (by show cb < w.heap.size; omega) _
      · exact FrS.one (((FF.out.set (a := ⟨w.heap.size, 0, none⟩) (.inr (Nat.le_refl _)) _).set (a := ⟨w.heap.size, 1, none⟩) (.inr (Nat.le_refl _)) _).set (a := ⟨w.heap.size, 2, none⟩) (.inr (Nat.le_refl _)) _) (fun k hk hp => by omega)
end Go.Proofs.Ytgemkfcapkfdbaa
end

section
/-
  The drawing of matrices: one that may be spoilt.
-/
namespace Go.Proofs.Ytgemkfcapkfdbaa
set_option maxRecDepth 100000
open Go.RowKit

/-! ### l3Spoil -/
theorem OwnC.out1 {B : Nat} {w : World} {v : Value} {zs : List Int} {b : Nat} {p q r : Value} (h : OwnC B w v zs) (k : Blk3 w b 34 p q r) (i : Nat) (x : Value) : OwnC B (w.setCell ⟨b, i, none⟩ x) v zs := by
  rcases h with h | ⟨g, cap, hv, hB, hi⟩
  · exact .inl h
  · exact .inr ⟨g, cap, hv, hB, hi.far (hi.ints.ne_blk k) x⟩
theorem OwnC.out3 {B : Nat} {w : World} {v : Value} {zs : List Int} {b : Nat} {p q r : Value} (h : OwnC B w v zs) (k : Blk3 w b 34 p q r) (x y z : Value) : OwnC B (((w.setCell ⟨b, 0, none⟩ x).setCell ⟨b, 1, none⟩ y).setCell ⟨b, 2, none⟩ z) v zs :=
  ((h.out1 k 0 x).out1 (k.set0 x) 1 y).out1 ((k.set0 x).set1 y) 2 z
/-- A matrix of whatever kind is returned, its cells from block B on; of what was there only blocks with the property p have changed. -/
def CurMat (B L cb : Nat) (p : Nat → Prop) (w : World) (e : Ending) (w' : World) : Prop := ∃ (r c : Int) (v : Value) (zs : List Int), e = .returned (.agg #[.int .i64 r, .int .i64 c, v]) ∧ OwnC B w' v zs ∧ zs.length ≤ L ∧ Cur w' cb ∧ FrS p w w'
theorem CurMat.end_ {B L cb b : Nat} {pr : Nat → Prop} {w W : World} {r c : Int} {v p q s : Value} {zs : List Int} (own : OwnC B W v zs) (hl : zs.length ≤ L) (k : Blk3 W b 34 p q s) (hc : Cur W cb) (hcb : cb < b) (hB : pr b) (f : FrS pr w W) :
    CurMat B L cb pr w (.returned (.agg #[.int .i64 r, .int .i64 c, v])) (((W.setCell ⟨b, 0, none⟩ (.int .i64 r)).setCell ⟨b, 1, none⟩ (.int .i64 c)).setCell ⟨b, 2, none⟩ v) :=
  ⟨r, c, v, zs, rfl, own.out3 k _ _ _, hl, ((hc.setFar hcb _).setFar hcb _).setFar hcb _, ((f.set (.inl hB) _).set (.inl hB) _).set (.inl hB) _⟩
set_option maxHeartbeats 2000000 in
theorem l3Spoil (w : World) (cb B g n cap : Nat) (r c : Int) (zs : List Int) (hc : Cur w cb) (hcB : cb < B) (hB : B ≤ w.heap.size) (hg : B ≤ g) (hi : IntsC w g cap zs) (hz : zs.length = n) (hn : n ≤ 600) :
    Calls Try.prog 75 #[.pointer (some ⟨cb, 0, none⟩), .agg #[.int .i64 r, .int .i64 c, .slice (some ⟨g, 0, none⟩) n cap]] w (CurMat B (n + 1) cb (fun k => k = cb ∨ k = g ∨ w.heap.size ≤ k) w) := by
  have hlt := hc.lt
  have gl := hi.lt
  have C0 := Lib.hid hc
  have I0 := Lib.hid hi
  have HZ := Lib.hid hz
  clear hc hi hz
  go_enter Try.func75, Try.ntmps75
  go_wp2_with fail
  refine (l1Below _ cb 40 ((C0.out.alloc (.cells #[.int .i64 r, .int .i64 c, .slice (some ⟨g, 0, none⟩) n cap] 34)).alloc (.cells #[.int .i64 0, .int .i64 0, .slice none 0 0] 34)) (by omega)).mono ?_
  rintro e w1 ⟨k, ⟨k0, k1⟩, rfl, hc1, hg1⟩
  have K0 : Hid (Blk3 w1 w.heap.size 34 (.int .i64 r) (.int .i64 c) (.slice (some ⟨g, 0, none⟩) n cap)) := ((Blk3.at_ _ _ _ _ rfl).old _).keepOne hg1 (by omega)
  have K2 : Hid (Blk3 w1 (w.heap.size + 1) 34 (.int .i64 0) (.int .i64 0) (.slice none 0 0)) := (Blk3.at_ _ _ _ _ (by simp)).keepOne hg1 (by omega)
  have C1 := Lib.hid hc1
  have F1 : Hid (FrS (fun k => k = cb ∨ k = g ∨ w.heap.size ≤ k) w w1) := ((((FrS.refl _ w).alloc _).alloc _).trans (FrS.of_one hg1 (.inl rfl)))
  have O1 : Hid (OwnC B w1 (.slice (some ⟨g, 0, none⟩) n cap) zs) := .inr ⟨g, cap, by rw [HZ.out], hg, (((I0.out.old _).old _)).move (hg1.block g (by simp; omega) (by simp; omega))⟩
  have I1 : Hid (IntsC w1 g cap zs) := (((I0.out.old _).old _)).move (hg1.block g (by simp; omega) (by simp; omega))
  have l1 : w.heap.size + 1 < w1.heap.size := K2.out.lt
  clear hc1 hg1 C0 I0
  obtain ⟨a0, a1, a2, a3, a4, a5⟩ := K0.out.all
  obtain ⟨b0, b1, b2, b3, b4, b5⟩ := K2.out.all
  by_cases e0 : k = 0
  · subst e0
    go_wp2_with fail
    refine (l1PickInt (fun _ => True) _ cb w1.heap.size 4 (C1.out.alloc _) ?_ (by omega) (by omega) (by omega)).mono ?_
    · exact IntList.new [-1, 0, 7, wrap64 (r + 1)] (fun _ _ => trivial) w1 3
    rintro e w2 ⟨t, -, rfl, hc2, hg2⟩
    have K0 := Lib.hid ((K0.out.old _).keepOne hg2 (by omega))
    have K2 := Lib.hid ((K2.out.old _).keepOne hg2 (by omega))
    have C2 := Lib.hid hc2
    have fx : FrS (fun k => k = cb) w1 w2 := (((FrS.refl _ w1).alloc _).trans (FrS.of_one hg2 rfl))
    have F2 := Lib.hid (F1.out.trans (fx.mono (fun k hk => .inl hk)))
    have O2 := Lib.hid (O1.out.frs fx (fun k hk => by omega))
    clear hc2 hg2 fx
    obtain ⟨s0, s1, s2, f0, f1, f2⟩ := K0.out.all
    obtain ⟨u0, u1, u2, v0, v1, v2⟩ := K2.out.all
    go_wp2_with fail
    obtain ⟨E0, E1, E2, -, -, -⟩ := ((((K2.out.far (a := ⟨w.heap.size, 0, none⟩) (by simp) (.int .i64 t)).set0 (.int .i64 t)).set1 (.int .i64 c)).set2 (.slice (some ⟨g, 0, none⟩) n cap)).all
    exact bodyPost_ret (v := .agg #[.int .i64 t, .int .i64 c, .slice (some ⟨g, 0, none⟩) n cap]) (by simp [results, Try.results75, go_sem, E0, E1, E2]) rfl (CurMat.end_ (O2.out.out1 K0.out 0 _) (by rw [HZ.out]; omega) (K2.out.far (by simp) _) (C2.out.setFar (by show cb < w.heap.size; omega) _) (by omega) (by omega) (F2.out.set (.inl (.inr (.inr (Nat.le_refl _)))) _))
  by_cases e1 : k = 1
  · subst e1
    by_cases hn0 : 0 < n
    · go_upto_region 6 with fail
      refine wp_region_held_drew (S := fun w' => FrS (fun k => k = cb ∨ k = g) w1 w') (by kernel_rfl) (FrS.refl _ _).drew (fun hH => ?_)
      refine wpAnyH_take (i := 0) (v := ?_) (by simp only [List.getElem?_toArray, List.getElem?_cons_zero]; rfl) (by kernel_rfl) (by kernel_rfl) (by kernel_rfl) (by exact fun _ _ _ h => h) (Or.inl ⟨by rfl, ?_⟩) hH ?_
      rotate_left
      · (intro wS hS; clear hS; go_simp; try rfl)
      try simp only [Act.put, List.setIfInBounds_toArray, List.set_cons_zero, List.set_cons_succ]
      refine wpAnyH_take (i := 1) (v := ?_) (by simp only [List.getElem?_toArray, List.getElem?_cons_succ, List.getElem?_cons_zero]; rfl) (by kernel_rfl) (by kernel_rfl) (by kernel_rfl) (by exact fun _ _ _ h => h) (Or.inl ⟨by rfl, ?_⟩) hH ?_
      rotate_left
      · (intro wS hS; (try dsimp only at hS); obtain ⟨k1, k2, k3⟩ := sevenF K0.out hS (by rintro (h | h); omega; exact I1.out.ints.ne_blk K0.out h.symm); go_simp; try rfl)
      try simp only [Act.put, List.setIfInBounds_toArray, List.set_cons_zero, List.set_cons_succ]
      refine wpAnyH_take (i := 2) (v := ?_) (by simp only [List.getElem?_toArray, List.getElem?_cons_succ, List.getElem?_cons_zero]; rfl) (by kernel_rfl) (by kernel_rfl) (by kernel_rfl) (by exact fun _ _ _ h => h) (Or.inl ⟨by rfl, ?_⟩) hH ?_
      rotate_left
      · (intro wS hS; clear hS; go_simp; try rfl)
      try simp only [Act.put, List.setIfInBounds_toArray, List.set_cons_zero, List.set_cons_succ]
      refine wpAnyH_ready (rs := [3]) (by kernel_rfl) (by simp) ?_
      refine AllReadyH.cons (by simp only [List.getElem?_toArray, List.getElem?_cons_succ, List.getElem?_cons_zero]; rfl) (fun KK hKK => ?_) AllReadyH.nil
      go_simp
      refine (l1Odd _ cb (by exact C1.out)).mono ?_
      rintro e w2 ⟨z, hz, rfl, hc2, hg2⟩
      have I2 := Lib.hid (I1.out.move (hg2.block g I1.out.lt (by simp; omega)))
      have C2 := Lib.hid hc2
      have f2 : FrS (fun k => k = cb ∨ k = g) w1 w2 := (FrS.refl _ w1).drew.trans (FrS.of_one hg2 (.inl rfl))
      have FX := Lib.hid f2
      clear hc2 f2 hg2
      try dsimp only
      refine hKK.out _ _ ?_ (fun hH2 => ?_)
      · exact FX.out
      clear hKK KK
      have hO := hH
      clear hH
      have hH := hH2
      clear hH2
      try simp only [Act.put, List.setIfInBounds_toArray, List.set_cons_zero, List.set_cons_succ]
      refine wpAnyH_take (i := 4) (v := ?_) (by simp only [List.getElem?_toArray, List.getElem?_cons_succ, List.getElem?_cons_zero]; rfl) (by kernel_rfl) (by kernel_rfl) (by kernel_rfl) (by exact fun _ _ _ h => h) (Or.inl ⟨by rfl, ?_⟩) hH ?_
      rotate_left
      · (intro wS hS; clear hS; go_simp; try rfl)
      try simp only [Act.put, List.setIfInBounds_toArray, List.set_cons_zero, List.set_cons_succ]
      have hold := I2.out.ints.cell (i := 0) (by rw [HZ.out]; exact hn0)
      have hfr := I2.out.ints.free 0
      refine wpAnyH_ready (rs := [5]) (by kernel_rfl) (by simp) ?_
      refine AllReadyH.cons (by simp only [List.getElem?_toArray, List.getElem?_cons_succ, List.getElem?_cons_zero]; rfl) (fun KK hKK => ?_) AllReadyH.nil
      go_simp
      have I2 := Lib.hid (I2.out.set 0 (by rw [HZ.out]; exact hn0) z)
      have C2 := Lib.hid (C2.out.setFar (x := ⟨g, 0, none⟩) (by show cb < g; omega) (.int .i64 z))
      have FX : Hid (FrS (fun k => k = cb ∨ k = g) w1 (w2.setCell ⟨g, 0, none⟩ (.int .i64 z))) := FX.out.set (a := ⟨g, 0, none⟩) (.inl (.inr rfl)) _
      try dsimp only
      refine hKK.out _ _ ?_ (fun hH2 => ?_)
      · exact FX.out
      clear hKK KK
      have hO := hH
      clear hH
      have hH := hH2
      clear hH2
      try simp only [Act.put, List.setIfInBounds_toArray, List.set_cons_zero, List.set_cons_succ]
      have K0n : ¬ (w.heap.size = cb ∨ w.heap.size = g) := by rintro (h | h); omega; exact I1.out.ints.ne_blk K0.out h.symm
      have K2n : ¬ (w.heap.size + 1 = cb ∨ w.heap.size + 1 = g) := by rintro (h | h); omega; exact I1.out.ints.ne_blk K2.out h.symm
      have K0 := Lib.hid (K0.out.frs FX.out K0n)
      have K2 := Lib.hid (K2.out.frs FX.out K2n)
      have F2 := Lib.hid (F1.out.trans (FX.out.mono (q := fun k => k = cb ∨ k = g ∨ w.heap.size ≤ k) (fun k hk => by omega)))
      have O2 : Hid (OwnC B (w2.setCell ⟨g, 0, none⟩ (.int .i64 z)) (.slice (some ⟨g, 0, none⟩) n cap) (zs.set 0 z)) := .inr ⟨g, cap, by rw [List.length_set, HZ.out], hg, I2.out⟩
      obtain ⟨s0, s1, s2, f0, f1, f2⟩ := K0.out.all
      obtain ⟨u0, u1, u2, v0, v1, v2⟩ := K2.out.all
      refine wpAnyH_done (by kernel_rfl) ?_ _
      go_wp2_with fail
      obtain ⟨E0, E1, E2, -, -, -⟩ := (((K2.out.set0 (.int .i64 r)).set1 (.int .i64 c)).set2 (.slice (some ⟨g, 0, none⟩) n cap)).all
      exact bodyPost_ret (v := .agg #[.int .i64 r, .int .i64 c, .slice (some ⟨g, 0, none⟩) n cap]) (by simp [results, Try.results75, go_sem, E0, E1, E2]) rfl (CurMat.end_ O2.out (by rw [List.length_set, HZ.out]; omega) K2.out C2.out (by omega) (by omega) F2.out)
    · obtain rfl : n = 0 := by omega
      go_wp2_with fail
      obtain ⟨E0, E1, E2, -, -, -⟩ := (((K2.out.set0 (.int .i64 r)).set1 (.int .i64 c)).set2 (.slice (some ⟨g, 0, none⟩) 0 cap)).all
      exact bodyPost_ret (v := .agg #[.int .i64 r, .int .i64 c, .slice (some ⟨g, 0, none⟩) 0 cap]) (by simp [results, Try.results75, go_sem, E0, E1, E2]) rfl (CurMat.end_ O1.out (by rw [HZ.out]; omega) K2.out C1.out (by omega) (by omega) F1.out)
  by_cases e2 : k = 2
  · subst e2
    obtain ⟨fi, hfi, hz0, hz1, hz2⟩ := facts_int
    have hown : (w1.alloc (.cells #[.int .i64 1] 3)).ownsRow B 3 1 (.slice (some ⟨g, 0, none⟩) n cap) n (zs.map (Value.int .i64)) := by
      have := (I1.out.old (.cells #[.int .i64 1] 3)).row hg
      rw [HZ.out] at this
      exact this
    have news : ∀ (j : Nat) u, [Value.int .i64 1][j]? = some u → (w1.alloc (.cells #[.int .i64 1] 3)).cell? ((⟨w1.heap.size, 0, none⟩ : Addr).add j) = some u := by
      intro j u hu
      have hj : j = 0 := by
        rcases j with _ | j
        · rfl
        · simp at hu
      subst hj
      have := heap_alloc_new w1 (.cells #[Value.int .i64 1] 3)
      have hc : (w1.alloc (.cells #[Value.int .i64 1] 3)).cell? ⟨w1.heap.size, 0, none⟩ = some (.int .i64 1) := by
        unfold World.cell?
        simp only [this]
        rfl
      have ha : (⟨w1.heap.size, 0, none⟩ : Addr).add 0 = ⟨w1.heap.size, 0, none⟩ := rfl
      rw [ha, hc]
      simpa using hu
    have HO := Lib.hid hown
    have NS := Lib.hid news
    have bs : B ≤ w1.heap.size := Nat.le_trans hB F1.out.size
    clear hown news
    go_wp2_with (at_builtin; refine wpList_append_own_at _ rfl _ _ 24 rfl B 3 fi (.int .i64 0) 1 8 underlying_ints hfi hz0 hz1 hz2 rfl (by decide) _ _ _ rfl HO.out ⟨w1.heap.size, 0, none⟩ 1 1 [.int .i64 1] ?hx ?hl ?hnews ?h1 ?h63 ?hbytes ?hbase ?hnext)
    case hx => rfl
    case hl => rfl
    case hnews => exact NS.out
    case h1 => intro u hu; simp at hu; subst hu; rfl
    case h63 => unfold maxLen; omega
    case hbytes => omega
    case hbase => simp; omega
    case hnext =>
      rintro v' w2 ho hg2 - hbk
      have O2 : Hid (OwnC B w2 v' (zs ++ [1])) := OwnC.of_row (by rw [List.length_append, HZ.out, List.map_append]; exact ho)
      have K0 := Lib.hid ((K0.out.old (.cells #[.int .i64 1] 3)).keepOne (c := g) (by simpa [Value.ownBlock] using hg2) (Ne.symm (I1.out.ints.ne_blk K0.out)))
      have K2 := Lib.hid ((K2.out.old (.cells #[.int .i64 1] 3)).keepOne (c := g) (by simpa [Value.ownBlock] using hg2) (Ne.symm (I1.out.ints.ne_blk K2.out)))
      have fx : FrS (fun k => k = cb ∨ k = g ∨ w.heap.size ≤ k) (w1.alloc (.cells #[.int .i64 1] 3)) w2 := FrS.of_one (g := g) (by simpa [Value.ownBlock] using hg2) (.inr (.inl rfl))
      have F2 := Lib.hid ((F1.out.alloc _).trans fx)
      have C2 := Lib.hid ((C1.out.alloc (.cells #[.int .i64 1] 3)).frs (FrS.of_one (p := fun k => k = g) (g := g) (by simpa [Value.ownBlock] using hg2) rfl) (fun k hk => by omega))
      obtain ⟨q2, qc2, rfl, -, -⟩ := (O2.out.own (by rw [List.length_append, HZ.out]; simp; omega)).form
      clear ho hg2 hbk fx
      obtain ⟨s0, s1, s2, f0, f1, f2⟩ := K0.out.all
      obtain ⟨u0, u1, u2, v0, v1, v2⟩ := K2.out.all
      have EL : (zs ++ [(1 : Int)]).length = n + 1 := by rw [List.length_append, HZ.out]; rfl
      rw [EL] at O2 ⊢
      go_wp2_with fail
      obtain ⟨E0, E1, E2, -, -, -⟩ := ((((K2.out.far (a := ⟨w.heap.size, 2, none⟩) (by simp) (.slice q2 (n + 1) qc2)).set0 (.int .i64 r)).set1 (.int .i64 c)).set2 (.slice q2 (n + 1) qc2)).all
      exact bodyPost_ret (v := .agg #[.int .i64 r, .int .i64 c, .slice q2 (n + 1) qc2]) (by simp [results, Try.results75, go_sem, E0, E1, E2]) rfl (CurMat.end_ (O2.out.out1 K0.out 2 _) (by rw [EL]; omega) (K2.out.far (by simp) _) (C2.out.setFar (by show cb < w.heap.size; omega) _) (by omega) (by omega) (F2.out.set (.inl (.inr (.inr (Nat.le_refl _)))) _))
  · have n0 : (k == 0) = false := by simpa using e0
    have n1 : (k == 1) = false := by simpa using e1
    have n2 : (k == 2) = false := by simpa using e2
    go_wp2_with fail
    obtain ⟨E0, E1, E2, -, -, -⟩ := (((K2.out.set0 (.int .i64 r)).set1 (.int .i64 c)).set2 (.slice (some ⟨g, 0, none⟩) n cap)).all
    exact bodyPost_ret (v := .agg #[.int .i64 r, .int .i64 c, .slice (some ⟨g, 0, none⟩) n cap]) (by simp [results, Try.results75, go_sem, E0, E1, E2]) rfl (CurMat.end_ O1.out (by rw [HZ.out]; omega) K2.out C1.out (by omega) (by omega) F1.out)
end Go.Proofs.Ytgemkfcapkfdbaa
end

section
/-
  The drawing of a square matrix once more, with a bound on its number of rows.
-/
namespace Go.Proofs.Ytgemkfcapkfdbaa
set_option maxRecDepth 100000
open Go.RowKit

def CurMatR (B L cb : Nat) (p : Nat → Prop) (w : World) (e : Ending) (w' : World) : Prop := ∃ (r c : Int) (v : Value) (zs : List Int), e = .returned (.agg #[.int .i64 r, .int .i64 c, v]) ∧ OwnC B w' v zs ∧ zs.length ≤ L ∧ r ≤ 30 ∧ Cur w' cb ∧ FrS p w w'
theorem CurMatR.end_ {B L cb b : Nat} {pr : Nat → Prop} {w W : World} {r c : Int} {v p q s : Value} {zs : List Int} (own : OwnC B W v zs) (hl : zs.length ≤ L) (k : Blk3 W b 34 p q s) (hc : Cur W cb) (hcb : cb < b) (hB : pr b) (f : FrS pr w W) (hr : r ≤ 30 := by omega) :
    CurMatR B L cb pr w (.returned (.agg #[.int .i64 r, .int .i64 c, v])) (((W.setCell ⟨b, 0, none⟩ (.int .i64 r)).setCell ⟨b, 1, none⟩ (.int .i64 c)).setCell ⟨b, 2, none⟩ v) :=
  ⟨r, c, v, zs, rfl, own.out3 k _ _ _, hl, hr, ((hc.setFar hcb _).setFar hcb _).setFar hcb _, ((f.set (.inl hB) _).set (.inl hB) _).set (.inl hB) _⟩
set_option maxHeartbeats 2000000 in
theorem l3SpoilR (w : World) (cb B g n cap : Nat) (r c : Int) (zs : List Int) (hc : Cur w cb) (hcB : cb < B) (hB : B ≤ w.heap.size) (hg : B ≤ g) (hi : IntsC w g cap zs) (hz : zs.length = n) (hn : n ≤ 600) (hr0 : 0 ≤ r) (hr1 : r ≤ 24) :
    Calls Try.prog 75 #[.pointer (some ⟨cb, 0, none⟩), .agg #[.int .i64 r, .int .i64 c, .slice (some ⟨g, 0, none⟩) n cap]] w (CurMatR B (n + 1) cb (fun k => k = cb ∨ k = g ∨ w.heap.size ≤ k) w) := by
  have hlt := hc.lt
  have gl := hi.lt
  have C0 := Lib.hid hc
  have I0 := Lib.hid hi
  have HZ := Lib.hid hz
  clear hc hi hz
  go_enter Try.func75, Try.ntmps75
  go_wp2_with fail
  refine (l1Below _ cb 40 ((C0.out.alloc (.cells #[.int .i64 r, .int .i64 c, .slice (some ⟨g, 0, none⟩) n cap] 34)).alloc (.cells #[.int .i64 0, .int .i64 0, .slice none 0 0] 34)) (by omega)).mono ?_
  rintro e w1 ⟨k, ⟨k0, k1⟩, rfl, hc1, hg1⟩
  have K0 : Hid (Blk3 w1 w.heap.size 34 (.int .i64 r) (.int .i64 c) (.slice (some ⟨g, 0, none⟩) n cap)) := ((Blk3.at_ _ _ _ _ rfl).old _).keepOne hg1 (by omega)
  have K2 : Hid (Blk3 w1 (w.heap.size + 1) 34 (.int .i64 0) (.int .i64 0) (.slice none 0 0)) := (Blk3.at_ _ _ _ _ (by simp)).keepOne hg1 (by omega)
  have C1 := Lib.hid hc1
  have F1 : Hid (FrS (fun k => k = cb ∨ k = g ∨ w.heap.size ≤ k) w w1) := ((((FrS.refl _ w).alloc _).alloc _).trans (FrS.of_one hg1 (.inl rfl)))
  have O1 : Hid (OwnC B w1 (.slice (some ⟨g, 0, none⟩) n cap) zs) := .inr ⟨g, cap, by rw [HZ.out], hg, (((I0.out.old _).old _)).move (hg1.block g (by simp; omega) (by simp; omega))⟩
  have I1 : Hid (IntsC w1 g cap zs) := (((I0.out.old _).old _)).move (hg1.block g (by simp; omega) (by simp; omega))
  have l1 : w.heap.size + 1 < w1.heap.size := K2.out.lt
  clear hc1 hg1 C0 I0
  obtain ⟨a0, a1, a2, a3, a4, a5⟩ := K0.out.all
  obtain ⟨b0, b1, b2, b3, b4, b5⟩ := K2.out.all
  by_cases e0 : k = 0
  · subst e0
    go_wp2_with fail
    refine (l1PickInt (fun t => t ≤ 30) _ cb w1.heap.size 4 (C1.out.alloc _) ?_ (by omega) (by omega) (by omega)).mono ?_
    · exact IntList.new (P := fun t => t ≤ 30) [-1, 0, 7, r + 1] (by intro z hz; simp at hz; show z ≤ 30; omega) w1 3
    rintro e w2 ⟨t, ht, rfl, hc2, hg2⟩
    have K0 := Lib.hid ((K0.out.old _).keepOne hg2 (by omega))
    have K2 := Lib.hid ((K2.out.old _).keepOne hg2 (by omega))
    have C2 := Lib.hid hc2
    have fx : FrS (fun k => k = cb) w1 w2 := (((FrS.refl _ w1).alloc _).trans (FrS.of_one hg2 rfl))
    have F2 := Lib.hid (F1.out.trans (fx.mono (fun k hk => .inl hk)))
    have O2 := Lib.hid (O1.out.frs fx (fun k hk => by omega))
    clear hc2 hg2 fx
    obtain ⟨s0, s1, s2, f0, f1, f2⟩ := K0.out.all
    obtain ⟨u0, u1, u2, v0, v1, v2⟩ := K2.out.all
    go_wp2_with fail
    obtain ⟨E0, E1, E2, -, -, -⟩ := ((((K2.out.far (a := ⟨w.heap.size, 0, none⟩) (by simp) (.int .i64 t)).set0 (.int .i64 t)).set1 (.int .i64 c)).set2 (.slice (some ⟨g, 0, none⟩) n cap)).all
    exact bodyPost_ret (v := .agg #[.int .i64 t, .int .i64 c, .slice (some ⟨g, 0, none⟩) n cap]) (by simp [results, Try.results75, go_sem, E0, E1, E2]) rfl (CurMatR.end_ (O2.out.out1 K0.out 0 _) (by rw [HZ.out]; omega) (K2.out.far (by simp) _) (C2.out.setFar (by show cb < w.heap.size; omega) _) (by omega) (by omega) (F2.out.set (.inl (.inr (.inr (Nat.le_refl _)))) _))
  by_cases e1 : k = 1
  · subst e1
    by_cases hn0 : 0 < n
    · go_upto_region 6 with fail
      refine wp_region_held_drew (S := fun w' => FrS (fun k => k = cb ∨ k = g) w1 w') (by kernel_rfl) (FrS.refl _ _).drew (fun hH => ?_)
      refine wpAnyH_take (i := 0) (v := ?_) (by simp only [List.getElem?_toArray, List.getElem?_cons_zero]; rfl) (by kernel_rfl) (by kernel_rfl) (by kernel_rfl) (by exact fun _ _ _ h => h) (Or.inl ⟨by rfl, ?_⟩) hH ?_
      rotate_left
      · (intro wS hS; clear hS; go_simp; try rfl)
      try simp only [Act.put, List.setIfInBounds_toArray, List.set_cons_zero, List.set_cons_succ]
      refine wpAnyH_take (i := 1) (v := ?_) (by simp only [List.getElem?_toArray, List.getElem?_cons_succ, List.getElem?_cons_zero]; rfl) (by kernel_rfl) (by kernel_rfl) (by kernel_rfl) (by exact fun _ _ _ h => h) (Or.inl ⟨by rfl, ?_⟩) hH ?_
      rotate_left
      · (intro wS hS; (try dsimp only at hS); obtain ⟨k1, k2, k3⟩ := sevenF K0.out hS (by rintro (h | h); omega; exact I1.out.ints.ne_blk K0.out h.symm); go_simp; try rfl)
      try simp only [Act.put, List.setIfInBounds_toArray, List.set_cons_zero, List.set_cons_succ]
      refine wpAnyH_take (i := 2) (v := ?_) (by simp only [List.getElem?_toArray, List.getElem?_cons_succ, List.getElem?_cons_zero]; rfl) (by kernel_rfl) (by kernel_rfl) (by kernel_rfl) (by exact fun _ _ _ h => h) (Or.inl ⟨by rfl, ?_⟩) hH ?_
      rotate_left
      · (intro wS hS; clear hS; go_simp; try rfl)
      try simp only [Act.put, List.setIfInBounds_toArray, List.set_cons_zero, List.set_cons_succ]
      refine wpAnyH_ready (rs := [3]) (by kernel_rfl) (by simp) ?_
      refine AllReadyH.cons (by simp only [List.getElem?_toArray, List.getElem?_cons_succ, List.getElem?_cons_zero]; rfl) (fun KK hKK => ?_) AllReadyH.nil
      go_simp
      refine (l1Odd _ cb (by exact C1.out)).mono ?_
      rintro e w2 ⟨z, hz, rfl, hc2, hg2⟩
      have I2 := Lib.hid (I1.out.move (hg2.block g I1.out.lt (by simp; omega)))
      have C2 := Lib.hid hc2
      have f2 : FrS (fun k => k = cb ∨ k = g) w1 w2 := (FrS.refl _ w1).drew.trans (FrS.of_one hg2 (.inl rfl))
      have FX := Lib.hid f2
      clear hc2 f2 hg2
      try dsimp only
      refine hKK.out _ _ ?_ (fun hH2 => ?_)
      · exact FX.out
      clear hKK KK
      have hO := hH
      clear hH
      have hH := hH2
      clear hH2
      try simp only [Act.put, List.setIfInBounds_toArray, List.set_cons_zero, List.set_cons_succ]
      refine wpAnyH_take (i := 4) (v := ?_) (by simp only [List.getElem?_toArray, List.getElem?_cons_succ, List.getElem?_cons_zero]; rfl) (by kernel_rfl) (by kernel_rfl) (by kernel_rfl) (by exact fun _ _ _ h => h) (Or.inl ⟨by rfl, ?_⟩) hH ?_
      rotate_left
      · (intro wS hS; clear hS; go_simp; try rfl)
      try simp only [Act.put, List.setIfInBounds_toArray, List.set_cons_zero, List.set_cons_succ]
      have hold := I2.out.ints.cell (i := 0) (by rw [HZ.out]; exact hn0)
      have hfr := I2.out.ints.free 0
      refine wpAnyH_ready (rs := [5]) (by kernel_rfl) (by simp) ?_
      refine AllReadyH.cons (by simp only [List.getElem?_toArray, List.getElem?_cons_succ, List.getElem?_cons_zero]; rfl) (fun KK hKK => ?_) AllReadyH.nil
      go_simp
      have I2 := Lib.hid (I2.out.set 0 (by rw [HZ.out]; exact hn0) z)
      have C2 := Lib.hid (C2.out.setFar (x := ⟨g, 0, none⟩) (by show cb < g; omega) (.int .i64 z))
      have FX : Hid (FrS (fun k => k = cb ∨ k = g) w1 (w2.setCell ⟨g, 0, none⟩ (.int .i64 z))) := FX.out.set (a := ⟨g, 0, none⟩) (.inl (.inr rfl)) _
      try dsimp only
      refine hKK.out _ _ ?_ (fun hH2 => ?_)
      · exact FX.out
      clear hKK KK
      have hO := hH
      clear hH
      have hH := hH2
      clear hH2
      try simp only [Act.put, List.setIfInBounds_toArray, List.set_cons_zero, List.set_cons_succ]
      have K0n : ¬ (w.heap.size = cb ∨ w.heap.size = g) := by rintro (h | h); omega; exact I1.out.ints.ne_blk K0.out h.symm
      have K2n : ¬ (w.heap.size + 1 = cb ∨ w.heap.size + 1 = g) := by rintro (h | h); omega; exact I1.out.ints.ne_blk K2.out h.symm
      have K0 := Lib.hid (K0.out.frs FX.out K0n)
      have K2 := Lib.hid (K2.out.frs FX.out K2n)
      have F2 := Lib.hid (F1.out.trans (FX.out.mono (q := fun k => k = cb ∨ k = g ∨ w.heap.size ≤ k) (fun k hk => by omega)))
      have O2 : Hid (OwnC B (w2.setCell ⟨g, 0, none⟩ (.int .i64 z)) (.slice (some ⟨g, 0, none⟩) n cap) (zs.set 0 z)) := .inr ⟨g, cap, by rw [List.length_set, HZ.out], hg, I2.out⟩
      obtain ⟨s0, s1, s2, f0, f1, f2⟩ := K0.out.all
      obtain ⟨u0, u1, u2, v0, v1, v2⟩ := K2.out.all
      refine wpAnyH_done (by kernel_rfl) ?_ _
      go_wp2_with fail
      obtain ⟨E0, E1, E2, -, -, -⟩ := (((K2.out.set0 (.int .i64 r)).set1 (.int .i64 c)).set2 (.slice (some ⟨g, 0, none⟩) n cap)).all
      exact bodyPost_ret (v := .agg #[.int .i64 r, .int .i64 c, .slice (some ⟨g, 0, none⟩) n cap]) (by simp [results, Try.results75, go_sem, E0, E1, E2]) rfl (CurMatR.end_ O2.out (by rw [List.length_set, HZ.out]; omega) K2.out C2.out (by omega) (by omega) F2.out)
    · obtain rfl : n = 0 := by omega
      go_wp2_with fail
      obtain ⟨E0, E1, E2, -, -, -⟩ := (((K2.out.set0 (.int .i64 r)).set1 (.int .i64 c)).set2 (.slice (some ⟨g, 0, none⟩) 0 cap)).all
      exact bodyPost_ret (v := .agg #[.int .i64 r, .int .i64 c, .slice (some ⟨g, 0, none⟩) 0 cap]) (by simp [results, Try.results75, go_sem, E0, E1, E2]) rfl (CurMatR.end_ O1.out (by rw [HZ.out]; omega) K2.out C1.out (by omega) (by omega) F1.out)
  by_cases e2 : k = 2
  · subst e2
    obtain ⟨fi, hfi, hz0, hz1, hz2⟩ := facts_int
    have hown : (w1.alloc (.cells #[.int .i64 1] 3)).ownsRow B 3 1 (.slice (some ⟨g, 0, none⟩) n cap) n (zs.map (Value.int .i64)) := by
      have := (I1.out.old (.cells #[.int .i64 1] 3)).row hg
      rw [HZ.out] at this
      exact this
    have news : ∀ (j : Nat) u, [Value.int .i64 1][j]? = some u → (w1.alloc (.cells #[.int .i64 1] 3)).cell? ((⟨w1.heap.size, 0, none⟩ : Addr).add j) = some u := by
      intro j u hu
      have hj : j = 0 := by
        rcases j with _ | j
        · rfl
        · simp at hu
      subst hj
      have := heap_alloc_new w1 (.cells #[Value.int .i64 1] 3)
      have hc : (w1.alloc (.cells #[Value.int .i64 1] 3)).cell? ⟨w1.heap.size, 0, none⟩ = some (.int .i64 1) := by
        unfold World.cell?
        simp only [this]
        rfl
      have ha : (⟨w1.heap.size, 0, none⟩ : Addr).add 0 = ⟨w1.heap.size, 0, none⟩ := rfl
      rw [ha, hc]
      simpa using hu
    have HO := Lib.hid hown
    have NS := Lib.hid news
    have bs : B ≤ w1.heap.size := Nat.le_trans hB F1.out.size
    clear hown news
    go_wp2_with (at_builtin; refine wpList_append_own_at _ rfl _ _ 24 rfl B 3 fi (.int .i64 0) 1 8 underlying_ints hfi hz0 hz1 hz2 rfl (by decide) _ _ _ rfl HO.out ⟨w1.heap.size, 0, none⟩ 1 1 [.int .i64 1] ?hx ?hl ?hnews ?h1 ?h63 ?hbytes ?hbase ?hnext)
    case hx => rfl
    case hl => rfl
    case hnews => exact NS.out
    case h1 => intro u hu; simp at hu; subst hu; rfl
    case h63 => unfold maxLen; omega
    case hbytes => omega
    case hbase => simp; omega
    case hnext =>
      rintro v' w2 ho hg2 - hbk
      have O2 : Hid (OwnC B w2 v' (zs ++ [1])) := OwnC.of_row (by rw [List.length_append, HZ.out, List.map_append]; exact ho)
      have K0 := Lib.hid ((K0.out.old (.cells #[.int .i64 1] 3)).keepOne (c := g) (by simpa [Value.ownBlock] using hg2) (Ne.symm (I1.out.ints.ne_blk K0.out)))
      have K2 := Lib.hid ((K2.out.old (.cells #[.int .i64 1] 3)).keepOne (c := g) (by simpa [Value.ownBlock] using hg2) (Ne.symm (I1.out.ints.ne_blk K2.out)))
      have fx : FrS (fun k => k = cb ∨ k = g ∨ w.heap.size ≤ k) (w1.alloc (.cells #[.int .i64 1] 3)) w2 := FrS.of_one (g := g) (by simpa [Value.ownBlock] using hg2) (.inr (.inl rfl))
      have F2 := Lib.hid ((F1.out.alloc _).trans fx)
      have C2 := Lib.hid ((C1.out.alloc (.cells #[.int .i64 1] 3)).frs (FrS.of_one (p := fun k => k = g) (g := g) (by simpa [Value.ownBlock] using hg2) rfl) (fun k hk => by omega))
      obtain ⟨q2, qc2, rfl, -, -⟩ := (O2.out.own (by rw [List.length_append, HZ.out]; simp; omega)).form
      clear ho hg2 hbk fx
      obtain ⟨s0, s1, s2, f0, f1, f2⟩ := K0.out.all
      obtain ⟨u0, u1, u2, v0, v1, v2⟩ := K2.out.all
      have EL : (zs ++ [(1 : Int)]).length = n + 1 := by rw [List.length_append, HZ.out]; rfl
      rw [EL] at O2 ⊢
      go_wp2_with fail
      obtain ⟨E0, E1, E2, -, -, -⟩ := ((((K2.out.far (a := ⟨w.heap.size, 2, none⟩) (by simp) (.slice q2 (n + 1) qc2)).set0 (.int .i64 r)).set1 (.int .i64 c)).set2 (.slice q2 (n + 1) qc2)).all
      exact bodyPost_ret (v := .agg #[.int .i64 r, .int .i64 c, .slice q2 (n + 1) qc2]) (by simp [results, Try.results75, go_sem, E0, E1, E2]) rfl (CurMatR.end_ (O2.out.out1 K0.out 2 _) (by rw [EL]; omega) (K2.out.far (by simp) _) (C2.out.setFar (by show cb < w.heap.size; omega) _) (by omega) (by omega) (F2.out.set (.inl (.inr (.inr (Nat.le_refl _)))) _))
  · have n0 : (k == 0) = false := by simpa using e0
    have n1 : (k == 1) = false := by simpa using e1
    have n2 : (k == 2) = false := by simpa using e2
    go_wp2_with fail
    obtain ⟨E0, E1, E2, -, -, -⟩ := (((K2.out.set0 (.int .i64 r)).set1 (.int .i64 c)).set2 (.slice (some ⟨g, 0, none⟩) n cap)).all
    exact bodyPost_ret (v := .agg #[.int .i64 r, .int .i64 c, .slice (some ⟨g, 0, none⟩) n cap]) (by simp [results, Try.results75, go_sem, E0, E1, E2]) rfl (CurMatR.end_ O1.out (by rw [HZ.out]; omega) K2.out C1.out (by omega) (by omega) F1.out)

set_option maxRecDepth 100000 in
set_option maxHeartbeats 2000000 in
theorem l3SquareR (w : World) (cb : Nat) (hc : Cur w cb) :
    Calls Try.prog 44 #[.pointer (some ⟨cb, 0, none⟩)] w (CurMatR w.heap.size 17 cb (fun k => k = cb ∨ w.heap.size ≤ k) w) := by
  have hlt := hc.lt
  have C0 := Lib.hid hc
  clear hc
  go_enter Try.func44, Try.ntmps44
  go_wp2_with fail
  refine (l1Below _ cb 5 (C0.out.alloc (.cells #[.int .i64 0, .int .i64 0, .slice none 0 0] 34)) (by omega)).mono ?_
  rintro e w1 ⟨R, ⟨r0, r1⟩, rfl, hc1, hg1⟩
  have K2 : Hid (Blk3 w1 w.heap.size 34 (.int .i64 0) (.int .i64 0) (.slice none 0 0)) := (Blk3.at_ _ _ _ _ rfl).keepOne hg1 (by omega)
  have C1 := Lib.hid hc1
  have F1 : Hid (FrS (fun k => k = cb ∨ w.heap.size ≤ k) w w1) := ((FrS.refl _ w).alloc _).trans (FrS.of_one hg1 (.inl rfl))
  clear hc1 hg1 C0
  have lk := K2.out.lt
  have lc := C1.out.lt
  go_wp2_with fail
  refine (l1PickInt (fun z => 1 ≤ z ∧ z ≤ 9) _ cb w1.heap.size 3 (C1.out.alloc _) ?_ (by omega) (by omega) (by omega)).mono ?_
  · exact IntList.new [1, 3, 9] (by decide) w1 3
  rintro e w3 ⟨z, ⟨z0, z1⟩, rfl, hc3, hg3⟩
  have K2 := Lib.hid ((K2.out.old _).keepOne hg3 (by omega))
  have C3 := Lib.hid hc3
  have F3 := Lib.hid ((F1.out.alloc _).trans (FrS.of_one hg3 (.inl rfl)))
  clear hc3 hg3 C1 F1 lk lc
  obtain ⟨R, rfl⟩ := Int.eq_ofNat_of_zero_le r0
  obtain ⟨z, rfl⟩ := Int.eq_ofNat_of_zero_le (show 0 ≤ z by omega)
  have lk := K2.out.lt
  have lc := C3.out.lt
  go_wp2_with fail
  refine (l3Draw _ cb R R z C3.out (by omega) (by omega) (by omega)).mono ?_
  rintro e w4 ⟨g, zs, rfl, hg, hz, hi, hc4, hg4⟩
  obtain ⟨N, hN⟩ : ∃ N, R * R = N := ⟨_, rfl⟩
  have hNle : N ≤ 16 := by rw [← hN]; exact Nat.mul_le_mul (show R ≤ 4 by omega) (show R ≤ 4 by omega)
  have HN := Lib.hid hN
  rw [hN] at hz hi ⊢
  have HZ := Lib.hid hz
  have K2 := Lib.hid ((K2.out.keepOne hg4 (by omega)).old (.cells #[.int .i64 R, .int .i64 R, .slice (some ⟨g, 0, none⟩) N N] 34))
  have K6 : Hid (Blk3 (w4.alloc (.cells #[.int .i64 R, .int .i64 R, .slice (some ⟨g, 0, none⟩) N N] 34)) w4.heap.size 34 (.int .i64 R) (.int .i64 R) (.slice (some ⟨g, 0, none⟩) N N)) := Blk3.at_ _ _ _ _ rfl
  have CU := Lib.hid (hc4.alloc (.cells #[.int .i64 R, .int .i64 R, .slice (some ⟨g, 0, none⟩) N N] 34))
  have FR := Lib.hid ((F3.out.trans (FrS.of_one hg4 (.inl rfl))).alloc (.cells #[.int .i64 R, .int .i64 R, .slice (some ⟨g, 0, none⟩) N N] 34))
  have I := Lib.hid (hi.old (.cells #[.int .i64 R, .int .i64 R, .slice (some ⟨g, 0, none⟩) N N] 34))
  have gp := hi.lt
  have wg : w.heap.size < g := by omega
  have wp : w.heap.size < w4.heap.size := by omega
  have hw4 := FR.out.size
  clear hN hz hi hc4 hg4 hg F3 C3 lk lc
  obtain ⟨x0, x1, x2, -, -, -⟩ := K6.out.all
  by_cases h1 : (1 : Int) < R
  · go_wp2_with fail
    refine (l1Once _ cb 6 CU.out (by omega)).mono ?_
    rintro e w5 ⟨b, rfl, hc5, hg5⟩
    have K2 := Lib.hid (K2.out.keepOne hg5 (by omega))
    have K6 := Lib.hid (K6.out.keepOne hg5 (by omega))
    have CU := Lib.hid hc5
    have FR := Lib.hid (FR.out.trans (FrS.of_one hg5 (.inl rfl)))
    have I := Lib.hid (I.out.move (hg5.block g I.out.lt (by simp; omega)))
    clear hc5 hg5 x0 x1 x2
    obtain ⟨x0, x1, x2, -, -, -⟩ := K6.out.all
    cases b with
    | false =>
      go_wp2_with fail
      refine (l3SpoilR _ cb w.heap.size g N N R R zs CU.out hlt FR.out.size (by omega) I.out HZ.out (by omega) (by omega) (by omega)).mono ?_
      rintro e w9 ⟨r', c', v', zs', rfl, own, hl, hr9, hc9, hf⟩
      obtain ⟨q9, qc9, rfl, -, -⟩ := (own.own (by omega)).form
      have lk9 := K2.out.lt
      have K2 := Lib.hid (K2.out.frs hf (by omega))
      have F9 := Lib.hid (FR.out.trans ((hf.mono (q := fun k => k = cb ∨ w.heap.size ≤ k) (fun k hk => by have := FR.out.size; omega))))
      have O9 := Lib.hid own
      have C9 := Lib.hid hc9
      have HL := Lib.hid hl
      clear own hl hc9 hf
      obtain ⟨y0, y1, y2, y3, y4, y5⟩ := K2.out.all
      go_wp2_with fail
      obtain ⟨E0, E1, E2, -, -, -⟩ := (((K2.out.set0 (.int .i64 r')).set1 (.int .i64 c')).set2 (.slice q9 zs'.length qc9)).all
      exact bodyPost_ret (v := .agg #[.int .i64 r', .int .i64 c', .slice q9 zs'.length qc9]) (by simp [results, Try.results44, go_sem, E0, E1, E2]) rfl (CurMatR.end_ O9.out (by have := HL.out; omega) K2.out C9.out hlt (.inr (Nat.le_refl _)) F9.out)
    | true =>
      go_wp2_with fail
      go_loopw [5] (fun i wr => ∃ (k : Nat) (zs : List Int), i = .int .i64 k ∧ k ≤ R ∧ zs.length = N ∧ IntsC wr g N zs ∧ FrS (fun k => k = g) w5 wr) (fun i _ => R - (intOf i).toNat)
      case atStart => exact ⟨0, zs, rfl, by omega, HZ.out, I.out, FrS.refl _ _⟩
      case round =>
        clear HZ
        obtain ⟨k, zs, rfl, hk, hz, hi, hfr⟩ := hrel
        have HZ := Lib.hid hz
        have I := Lib.hid hi
        have FG := Lib.hid hfr
        clear hz hi hfr x0 x1 x2
        have K6 := Lib.hid (K6.out.frs FG.out (by omega))
        obtain ⟨x0, x1, x2, -, -, -⟩ := K6.out.all
        by_cases hk2 : k < R
        · have q0 : 2 * R ≤ N := by rw [← HN.out]; exact Nat.mul_le_mul_right R (by omega)
          have q1 : R + k < N := by omega
          have q2 : k < N := by omega
          have hc1 := I.out.ints.cell (i := R + k) (by rw [HZ.out]; exact q1)
          have hc2 := I.out.ints.cell (i := k) (by rw [HZ.out]; exact q2)
          have hfr := I.out.ints.free k
          obtain ⟨x, hx⟩ : ∃ x, zs.getD (R + k) 0 = x := ⟨_, rfl⟩
          rw [hx] at hc1
          obtain ⟨y, hy⟩ : ∃ y, zs.getD k 0 = y := ⟨_, rfl⟩
          rw [hy] at hc2
          have e1 : 0 ≤ (R : Int) + (k : Int) := by omega
          have e2 : (R : Int) + (k : Int) < (N : Int) := by omega
          have e3 : ((R : Int) + (k : Int)).toNat = R + k := by omega
          have v2 : IntKind.i64.wrap ((R : Int) + (k : Int)) = (R : Int) + (k : Int) := IntWalk.i64_in _ (by omega)
          clear hx hy
          go_wp2_with fail
          go_still_tail 11, (by kernel_rfl)
          go_wp2_with fail
          go_roundw
          case rel =>
            refine ⟨k + 1, zs.set k x, by go_num, by omega, by rw [List.length_set]; exact HZ.out, ?_, ?_⟩
            · exact I.out.drew.set k (by rw [HZ.out]; exact q2) _
            · exact (FG.out.drew).set (a := ⟨g, k, none⟩) (.inl rfl) _
          case measure => simp [intOf]; omega
        · have hk3 : decide (k < R) = false := by simpa using hk2
          have K2 := Lib.hid (K2.out.frs FG.out (by omega))
          have CU := Lib.hid (CU.out.frs FG.out (fun k hk => by omega))
          have FR := Lib.hid (FR.out.trans (FG.out.mono (q := fun k => k = cb ∨ w.heap.size ≤ k) (fun k hk => by omega)))
          go_wp2_with fail
          refine (l3SpoilR _ cb w.heap.size g N N R R zs CU.out hlt FR.out.size (by omega) I.out HZ.out (by omega) (by omega) (by omega)).mono ?_
          rintro e w9 ⟨r', c', v', zs', rfl, own, hl, hr9, hc9, hf⟩
          obtain ⟨q9, qc9, rfl, -, -⟩ := (own.own (by omega)).form
          have lk9 := K2.out.lt
          have K2 := Lib.hid (K2.out.frs hf (by omega))
          have F9 := Lib.hid (FR.out.trans ((hf.mono (q := fun k => k = cb ∨ w.heap.size ≤ k) (fun k hk => by have := FR.out.size; omega))))
          have O9 := Lib.hid own
          have C9 := Lib.hid hc9
          have HL := Lib.hid hl
          clear own hl hc9 hf
          obtain ⟨y0, y1, y2, y3, y4, y5⟩ := K2.out.all
          go_wp2_with fail
          obtain ⟨E0, E1, E2, -, -, -⟩ := (((K2.out.set0 (.int .i64 r')).set1 (.int .i64 c')).set2 (.slice q9 zs'.length qc9)).all
          exact bodyPost_ret (v := .agg #[.int .i64 r', .int .i64 c', .slice q9 zs'.length qc9]) (by simp [results, Try.results44, go_sem, E0, E1, E2]) rfl (CurMatR.end_ O9.out (by have := HL.out; omega) K2.out C9.out hlt (.inr (Nat.le_refl _)) F9.out)
  · have h1' : decide ((1 : Int) < (R : Int)) = false := by simpa using h1
    go_wp2_with fail
    refine (l3SpoilR _ cb w.heap.size g N N R R zs CU.out hlt FR.out.size (by omega) I.out HZ.out (by omega) (by omega) (by omega)).mono ?_
    rintro e w9 ⟨r', c', v', zs', rfl, own, hl, hr9, hc9, hf⟩
    obtain ⟨q9, qc9, rfl, -, -⟩ := (own.own (by omega)).form
    have lk9 := K2.out.lt
    have K2 := Lib.hid (K2.out.frs hf (by omega))
    have F9 := Lib.hid (FR.out.trans ((hf.mono (q := fun k => k = cb ∨ w.heap.size ≤ k) (fun k hk => by have := FR.out.size; omega))))
    have O9 := Lib.hid own
    have C9 := Lib.hid hc9
    have HL := Lib.hid hl
    clear own hl hc9 hf
    obtain ⟨y0, y1, y2, y3, y4, y5⟩ := K2.out.all
    go_wp2_with fail
    obtain ⟨E0, E1, E2, -, -, -⟩ := (((K2.out.set0 (.int .i64 r')).set1 (.int .i64 c')).set2 (.slice q9 zs'.length qc9)).all
    exact bodyPost_ret (v := .agg #[.int .i64 r', .int .i64 c', .slice q9 zs'.length qc9]) (by simp [results, Try.results44, go_sem, E0, E1, E2]) rfl (CurMatR.end_ O9.out (by have := HL.out; omega) K2.out C9.out hlt (.inr (Nat.le_refl _)) F9.out)
end Go.Proofs.Ytgemkfcapkfdbaa
end

section
/-
  The drawing of matrices: a square one of up to 4 rows.
-/
namespace Go.Proofs.Ytgemkfcapkfdbaa
set_option maxRecDepth 100000
open Go.RowKit

set_option maxRecDepth 100000 in
set_option maxHeartbeats 2000000 in
theorem l3Square (w : World) (cb : Nat) (hc : Cur w cb) :
    Calls Try.prog 44 #[.pointer (some ⟨cb, 0, none⟩)] w (CurMat w.heap.size 17 cb (fun k => k = cb ∨ w.heap.size ≤ k) w) := by
  have hlt := hc.lt
  have C0 := Lib.hid hc
  clear hc
  go_enter Try.func44, Try.ntmps44
  go_wp2_with fail
  refine (l1Below _ cb 5 (C0.out.alloc (.cells #[.int .i64 0, .int .i64 0, .slice none 0 0] 34)) (by omega)).mono ?_
  rintro e w1 ⟨R, ⟨r0, r1⟩, rfl, hc1, hg1⟩
  have K2 : Hid (Blk3 w1 w.heap.size 34 (.int .i64 0) (.int .i64 0) (.slice none 0 0)) := (Blk3.at_ _ _ _ _ rfl).keepOne hg1 (by omega)
  have C1 := Lib.hid hc1
  have F1 : Hid (FrS (fun k => k = cb ∨ w.heap.size ≤ k) w w1) := ((FrS.refl _ w).alloc _).trans (FrS.of_one hg1 (.inl rfl))
  clear hc1 hg1 C0
  have lk := K2.out.lt
  have lc := C1.out.lt
  go_wp2_with fail
  refine (l1PickInt (fun z => 1 ≤ z ∧ z ≤ 9) _ cb w1.heap.size 3 (C1.out.alloc _) ?_ (by omega) (by omega) (by omega)).mono ?_
  · exact IntList.new [1, 3, 9] (by decide) w1 3
  rintro e w3 ⟨z, ⟨z0, z1⟩, rfl, hc3, hg3⟩
  have K2 := Lib.hid ((K2.out.old _).keepOne hg3 (by omega))
  have C3 := Lib.hid hc3
  have F3 := Lib.hid ((F1.out.alloc _).trans (FrS.of_one hg3 (.inl rfl)))
  clear hc3 hg3 C1 F1 lk lc
  obtain ⟨R, rfl⟩ := Int.eq_ofNat_of_zero_le r0
  obtain ⟨z, rfl⟩ := Int.eq_ofNat_of_zero_le (show 0 ≤ z by omega)
  have lk := K2.out.lt
  have lc := C3.out.lt
  go_wp2_with fail
  refine (l3Draw _ cb R R z C3.out (by omega) (by omega) (by omega)).mono ?_
  rintro e w4 ⟨g, zs, rfl, hg, hz, hi, hc4, hg4⟩
  obtain ⟨N, hN⟩ : ∃ N, R * R = N := ⟨_, rfl⟩
  have hNle : N ≤ 16 := by rw [← hN]; exact Nat.mul_le_mul (show R ≤ 4 by omega) (show R ≤ 4 by omega)
  have HN := Lib.hid hN
  rw [hN] at hz hi ⊢
  have HZ := Lib.hid hz
  have K2 := Lib.hid ((K2.out.keepOne hg4 (by omega)).old (.cells #[.int .i64 R, .int .i64 R, .slice (some ⟨g, 0, none⟩) N N] 34))
  have K6 : Hid (Blk3 (w4.alloc (.cells #[.int .i64 R, .int .i64 R, .slice (some ⟨g, 0, none⟩) N N] 34)) w4.heap.size 34 (.int .i64 R) (.int .i64 R) (.slice (some ⟨g, 0, none⟩) N N)) := Blk3.at_ _ _ _ _ rfl
  have CU := Lib.hid (hc4.alloc (.cells #[.int .i64 R, .int .i64 R, .slice (some ⟨g, 0, none⟩) N N] 34))
  have FR := Lib.hid ((F3.out.trans (FrS.of_one hg4 (.inl rfl))).alloc (.cells #[.int .i64 R, .int .i64 R, .slice (some ⟨g, 0, none⟩) N N] 34))
  have I := Lib.hid (hi.old (.cells #[.int .i64 R, .int .i64 R, .slice (some ⟨g, 0, none⟩) N N] 34))
  have gp := hi.lt
  have wg : w.heap.size < g := by omega
  have wp : w.heap.size < w4.heap.size := by omega
  have hw4 := FR.out.size
  clear hN hz hi hc4 hg4 hg F3 C3 lk lc
  obtain ⟨x0, x1, x2, -, -, -⟩ := K6.out.all
  by_cases h1 : (1 : Int) < R
  · go_wp2_with fail
    refine (l1Once _ cb 6 CU.out (by omega)).mono ?_
    rintro e w5 ⟨b, rfl, hc5, hg5⟩
    have K2 := Lib.hid (K2.out.keepOne hg5 (by omega))
    have K6 := Lib.hid (K6.out.keepOne hg5 (by omega))
    have CU := Lib.hid hc5
    have FR := Lib.hid (FR.out.trans (FrS.of_one hg5 (.inl rfl)))
    have I := Lib.hid (I.out.move (hg5.block g I.out.lt (by simp; omega)))
    clear hc5 hg5 x0 x1 x2
    obtain ⟨x0, x1, x2, -, -, -⟩ := K6.out.all
    cases b with
    | false =>
      go_wp2_with fail
      refine (l3Spoil _ cb w.heap.size g N N R R zs CU.out hlt FR.out.size (by omega) I.out HZ.out (by omega)).mono ?_
      rintro e w9 ⟨r', c', v', zs', rfl, own, hl, hc9, hf⟩
      obtain ⟨q9, qc9, rfl, -, -⟩ := (own.own (by omega)).form
      have lk9 := K2.out.lt
      have K2 := Lib.hid (K2.out.frs hf (by omega))
      have F9 := Lib.hid (FR.out.trans ((hf.mono (q := fun k => k = cb ∨ w.heap.size ≤ k) (fun k hk => by have := FR.out.size; omega))))
      have O9 := Lib.hid own
      have C9 := Lib.hid hc9
      have HL := Lib.hid hl
      clear own hl hc9 hf
      obtain ⟨y0, y1, y2, y3, y4, y5⟩ := K2.out.all
      go_wp2_with fail
      obtain ⟨E0, E1, E2, -, -, -⟩ := (((K2.out.set0 (.int .i64 r')).set1 (.int .i64 c')).set2 (.slice q9 zs'.length qc9)).all
      exact bodyPost_ret (v := .agg #[.int .i64 r', .int .i64 c', .slice q9 zs'.length qc9]) (by simp [results, Try.results44, go_sem, E0, E1, E2]) rfl (CurMat.end_ O9.out (by have := HL.out; omega) K2.out C9.out hlt (.inr (Nat.le_refl _)) F9.out)
    | true =>
      go_wp2_with fail
      go_loopw [5] (fun i wr => ∃ (k : Nat) (zs : List Int), i = .int .i64 k ∧ k ≤ R ∧ zs.length = N ∧ IntsC wr g N zs ∧ FrS (fun k => k = g) w5 wr) (fun i _ => R - (intOf i).toNat)
      case atStart => exact ⟨0, zs, rfl, by omega, HZ.out, I.out, FrS.refl _ _⟩
      case round =>
        clear HZ
        obtain ⟨k, zs, rfl, hk, hz, hi, hfr⟩ := hrel
        have HZ := Lib.hid hz
        have I := Lib.hid hi
        have FG := Lib.hid hfr
        clear hz hi hfr x0 x1 x2
        have K6 := Lib.hid (K6.out.frs FG.out (by omega))
        obtain ⟨x0, x1, x2, -, -, -⟩ := K6.out.all
        by_cases hk2 : k < R
        · have q0 : 2 * R ≤ N := by rw [← HN.out]; exact Nat.mul_le_mul_right R (by omega)
          have q1 : R + k < N := by omega
          have q2 : k < N := by omega
          have hc1 := I.out.ints.cell (i := R + k) (by rw [HZ.out]; exact q1)
          have hc2 := I.out.ints.cell (i := k) (by rw [HZ.out]; exact q2)
          have hfr := I.out.ints.free k
          obtain ⟨x, hx⟩ : ∃ x, zs.getD (R + k) 0 = x := ⟨_, rfl⟩
          rw [hx] at hc1
          obtain ⟨y, hy⟩ : ∃ y, zs.getD k 0 = y := ⟨_, rfl⟩
          rw [hy] at hc2
          have e1 : 0 ≤ (R : Int) + (k : Int) := by omega
          have e2 : (R : Int) + (k : Int) < (N : Int) := by omega
          have e3 : ((R : Int) + (k : Int)).toNat = R + k := by omega
          have v2 : IntKind.i64.wrap ((R : Int) + (k : Int)) = (R : Int) + (k : Int) := IntWalk.i64_in _ (by omega)
          clear hx hy
          go_wp2_with fail
          go_still_tail 11, (by kernel_rfl)
          go_wp2_with fail
          go_roundw
          case rel =>
            refine ⟨k + 1, zs.set k x, by go_num, by omega, by rw [List.length_set]; exact HZ.out, ?_, ?_⟩
            · exact I.out.drew.set k (by rw [HZ.out]; exact q2) _
            · exact (FG.out.drew).set (a := ⟨g, k, none⟩) (.inl rfl) _
          case measure => simp [intOf]; omega
        · have hk3 : decide (k < R) = false := by simpa using hk2
          have K2 := Lib.hid (K2.out.frs FG.out (by omega))
          have CU := Lib.hid (CU.out.frs FG.out (fun k hk => by omega))
          have FR := Lib.hid (FR.out.trans (FG.out.mono (q := fun k => k = cb ∨ w.heap.size ≤ k) (fun k hk => by omega)))
          go_wp2_with fail
          refine (l3Spoil _ cb w.heap.size g N N R R zs CU.out hlt FR.out.size (by omega) I.out HZ.out (by omega)).mono ?_
          rintro e w9 ⟨r', c', v', zs', rfl, own, hl, hc9, hf⟩
          obtain ⟨q9, qc9, rfl, -, -⟩ := (own.own (by omega)).form
          have lk9 := K2.out.lt
          have K2 := Lib.hid (K2.out.frs hf (by omega))
          have F9 := Lib.hid (FR.out.trans ((hf.mono (q := fun k => k = cb ∨ w.heap.size ≤ k) (fun k hk => by have := FR.out.size; omega))))
          have O9 := Lib.hid own
          have C9 := Lib.hid hc9
          have HL := Lib.hid hl
          clear own hl hc9 hf
          obtain ⟨y0, y1, y2, y3, y4, y5⟩ := K2.out.all
          go_wp2_with fail
          obtain ⟨E0, E1, E2, -, -, -⟩ := (((K2.out.set0 (.int .i64 r')).set1 (.int .i64 c')).set2 (.slice q9 zs'.length qc9)).all
          exact bodyPost_ret (v := .agg #[.int .i64 r', .int .i64 c', .slice q9 zs'.length qc9]) (by simp [results, Try.results44, go_sem, E0, E1, E2]) rfl (CurMat.end_ O9.out (by have := HL.out; omega) K2.out C9.out hlt (.inr (Nat.le_refl _)) F9.out)
  · have h1' : decide ((1 : Int) < (R : Int)) = false := by simpa using h1
    go_wp2_with fail
    refine (l3Spoil _ cb w.heap.size g N N R R zs CU.out hlt FR.out.size (by omega) I.out HZ.out (by omega)).mono ?_
    rintro e w9 ⟨r', c', v', zs', rfl, own, hl, hc9, hf⟩
    obtain ⟨q9, qc9, rfl, -, -⟩ := (own.own (by omega)).form
    have lk9 := K2.out.lt
    have K2 := Lib.hid (K2.out.frs hf (by omega))
    have F9 := Lib.hid (FR.out.trans ((hf.mono (q := fun k => k = cb ∨ w.heap.size ≤ k) (fun k hk => by have := FR.out.size; omega))))
    have O9 := Lib.hid own
    have C9 := Lib.hid hc9
    have HL := Lib.hid hl
    clear own hl hc9 hf
    obtain ⟨y0, y1, y2, y3, y4, y5⟩ := K2.out.all
    go_wp2_with fail
    obtain ⟨E0, E1, E2, -, -, -⟩ := (((K2.out.set0 (.int .i64 r')).set1 (.int .i64 c')).set2 (.slice q9 zs'.length qc9)).all
    exact bodyPost_ret (v := .agg #[.int .i64 r', .int .i64 c', .slice q9 zs'.length qc9]) (by simp [results, Try.results44, go_sem, E0, E1, E2]) rfl (CurMat.end_ O9.out (by have := HL.out; omega) K2.out C9.out hlt (.inr (Nat.le_refl _)) F9.out)
end Go.Proofs.Ytgemkfcapkfdbaa
end

section
/-
  What the drawing of a matrix gives: any matrix of the call's own, valid or not.
-/
namespace Go.Proofs.Ytgemkfcapkfdbaa
set_option maxRecDepth 100000
open Go.RowKit

/-- A matrix, whatever it is, in memory of the call's own. -/
def AnyMat (w : World) (e : Ending) (w' : World) : Prop := ∃ (r c : Int) (q : Option Addr) (qc : Nat) (zs : List Int), e = .returned (.agg #[.int .i64 r, .int .i64 c, .slice q zs.length qc]) ∧ Own w.heap.size w' (.slice q zs.length qc) zs ∧ zs.length ≤ 601 ∧ Below w.heap.size w w'
theorem AnyMat.end_ {w W : World} {B b : Nat} {r c : Int} {v p q s : Value} {zs : List Int} {pr : Nat → Prop} (own : OwnC B W v zs) (hl : zs.length ≤ 601) (k : Blk3 W b 34 p q s) (hB : w.heap.size ≤ B) (hb : w.heap.size ≤ b) (f : FrS pr w W) (hp : ∀ k, pr k → w.heap.size ≤ k) :
    ∃ (q : Option Addr) (qc : Nat), v = .slice q zs.length qc ∧ AnyMat w (.returned (.agg #[.int .i64 r, .int .i64 c, v])) (((W.setCell ⟨b, 0, none⟩ (.int .i64 r)).setCell ⟨b, 1, none⟩ (.int .i64 c)).setCell ⟨b, 2, none⟩ v) := by
  have o2 := ((own.out3 k (.int .i64 r) (.int .i64 c) v).own (by omega)).le hB
  obtain ⟨q, qc, rfl, -, -⟩ := o2.form
  refine ⟨q, qc, rfl, r, c, q, qc, zs, rfl, o2, hl, ?_⟩
  exact ((((f.below hp (Nat.le_refl _)).setCell hb _).setCell hb _).setCell hb _)
end Go.Proofs.Ytgemkfcapkfdbaa
end

section
/-
  The drawing of a modulus, and of a square matrix with one.
-/
namespace Go.Proofs.Ytgemkfcapkfdbaa
set_option maxRecDepth 100000
open Go.RowKit

/-- A matrix of at most 17 cells, whatever it is, in memory of the call's own, and a number. -/
def MatPr (w : World) (e : Ending) (w' : World) : Prop := ∃ (r c : Int) (q : Option Addr) (qc : Nat) (zs : List Int) (p : Int), e = .returned (.tuple #[.agg #[.int .i64 r, .int .i64 c, .slice q zs.length qc], .int .i64 p]) ∧ Own w.heap.size w' (.slice q zs.length qc) zs ∧ zs.length ≤ 17 ∧ (-1 ≤ p ∧ p ≤ 10007) ∧ Below w.heap.size w w'

end Go.Proofs.Ytgemkfcapkfdbaa
end

section
/-
  The drawing of a system over residues.
-/
namespace Go.Proofs.Ytgemkfcapkfdbaa
set_option maxRecDepth 100000
open Go.RowKit

theorem l1Num9 (w : World) (cb : Nat) (hc : Cur w cb) : Calls Try.prog 71 #[.pointer (some ⟨cb, 0, none⟩), .int .i64 9] w (CurInt (fun _ => True) cb w) := by
  have C0 := Lib.hid hc
  clear hc
  go_enter Try.func71, Try.ntmps71
  go_wp2_with fail
  refine (l1Once _ cb 40 C0.out (by omega)).mono ?_
  rintro e w1 ⟨b, rfl, hc1, hg1⟩
  cases b with
  | true =>
    go_wp2_with fail
    refine (l1Odd _ cb hc1).mono ?_
    rintro e w2 h
    obtain ⟨r, -, rfl, hc2, hg2⟩ := h
    have C2 := Lib.hid hc2
    have G2 := Lib.hid (hg1.trans hg2)
    clear hc1 hg1 hc2 hg2
    go_wp2_with fail
    go_ret
    exact ⟨r, trivial, rfl, C2.out, G2.out⟩
  | false =>
    go_wp2_with fail
    refine (l1Below _ cb 19 hc1 (by omega)).mono ?_
    rintro e w2 ⟨r, ⟨r0, r1⟩, rfl, hc2, hg2⟩
    have C2 := Lib.hid hc2
    have G2 := Lib.hid (hg1.trans hg2)
    have v : IntKind.i64.wrap (r - 9) = r - 9 := IntWalk.i64_in _ (by omega)
    clear hc1 hg1 hc2 hg2
    go_wp2_with fail
    go_ret
    exact ⟨r - 9, trivial, rfl, C2.out, G2.out⟩

/-- Some ints in memory of the call's own. -/
def CurLis (cb : Nat) (w : World) (e : Ending) (w' : World) : Prop := ∃ (v : Value) (l : List Int), e = .returned v ∧ w'.ownsRow w.heap.size 3 1 v l.length (l.map (Value.int .i64)) ∧ l.length ≤ 31 ∧ Cur w' cb ∧ FrS (fun k => k = cb ∨ w.heap.size ≤ k) w w'
theorem ownI_far {w : World} {B cb n : Nat} {e : TypeId} {size : Nat} {v : Value} {xs : List Value} (h : w.ownsRow B e size v n xs) (hB : cb < B) : v.ownBlock = none ∨ v.ownBlock ≠ some cb := by
  cases hv : v.ownBlock with
  | none => exact .inl rfl
  | some k => exact .inr (fun h' => by have := (h.lt k hv).1; injection h' with h'; omega)
theorem rowsI_form {w : World} {base n : Nat} {e : TypeId} {size : Nat} {v : Value} {xs : List Value} (h : w.ownsRow base e size v n xs) : ∃ a m c, v = .slice a m c := by
  obtain ⟨h1, ⟨h2, h3⟩ | ⟨g, cap, cur, e, hB, hg, rest⟩⟩ := h
  · exact ⟨_, _, _, h2⟩
  · exact ⟨_, _, _, e⟩
theorem cellI_new (w : World) (t : TypeId) (z : Int) : ∀ (j : Nat) u, [Value.int .i64 z][j]? = some u → (w.alloc (.cells #[.int .i64 z] t)).cell? ((⟨w.heap.size, 0, none⟩ : Addr).add j) = some u := by
  intro j u hu
  have hj : j = 0 := by
    rcases j with _ | j
    · rfl
    · simp at hu
  subst hj
  have := heap_alloc_new w (.cells #[Value.int .i64 z] t)
  have hc : (w.alloc (.cells #[Value.int .i64 z] t)).cell? ⟨w.heap.size, 0, none⟩ = some (.int .i64 z) := by
    unfold World.cell?
    simp only [this]
    rfl
  have ha : (⟨w.heap.size, 0, none⟩ : Addr).add 0 = ⟨w.heap.size, 0, none⟩ := rfl
  rw [ha, hc]
  simpa using hu
set_option maxHeartbeats 4000000 in
theorem l8Right (w : World) (cb : Nat) (n : Int) (hc : Cur w cb) (hn : n ≤ 30) : Calls Try.prog 35 #[.pointer (some ⟨cb, 0, none⟩), .int .i64 n] w (CurLis cb w) := by
  have hlt := hc.lt
  have C0 := Lib.hid (hc.alloc (.cells #[] 3))
  have own0 : (w.alloc (.cells #[] 3)).ownsRow w.heap.size 3 1 (.slice (some ⟨w.heap.size, 0, none⟩) 0 0) 0 (([] : List Int).map (Value.int .i64)) := ⟨rfl, .inr ⟨w.heap.size, 0, #[], rfl, Nat.le_refl _, heap_alloc_new w _, Nat.le_refl _, by decide, rfl, rfl⟩⟩
  have O0 := Lib.hid own0
  have F0 : Hid (FrS (fun k => k = cb ∨ w.heap.size ≤ k) w (w.alloc (.cells #[] 3))) := (FrS.refl _ w).alloc _
  clear hc own0
  obtain ⟨fi, hfi, hz0, hz1, hz2⟩ := facts_int
  go_enter Try.func35, Try.ntmps35
  go_wp2_with fail
  go_loopw [5, 6] (fun v5 v6 wr => ∃ (i : Nat) (l : List Int), v6 = .int .i64 i ∧ l.length = i ∧ i ≤ n.toNat ∧ wr.ownsRow w.heap.size 3 1 v5 l.length (l.map (Value.int .i64)) ∧ Cur wr cb ∧ FrS (fun k => k = cb ∨ w.heap.size ≤ k) w wr) (fun _ v6 _ => n.toNat - (intOf v6).toNat)
  case atStart => exact ⟨0, [], rfl, rfl, by omega, O0.out, C0.out, F0.out⟩
  case round =>
    obtain ⟨i, l, rfl, hl, hi, ho, hcu, hf⟩ := hrel
    have O := Lib.hid ho
    have CU := Lib.hid hcu
    have FR := Lib.hid hf
    have s0 := hf.size
    obtain ⟨va, vm, vc, rfl⟩ := rowsI_form ho
    have LE : Hid (l.length = i) := hl
    have l30 : l.length ≤ 30 := by omega
    clear ho hcu hf C0 O0 F0 hl
    by_cases hgo : (i : Int) < n
    · go_wp2_with fail
      refine (l1Num9 _ cb CU.out).mono ?_
      rintro e w2 ⟨z, -, rfl, hc2, hg2⟩
      have s2 := hg2.size
      have O2 := Lib.hid ((O.out.kept hg2 (ownI_far O.out hlt)).kept (World.grownBy_alloc w2 (.cells #[.int .i64 z] 3) none) (by cases (Value.slice va vm vc).ownBlock <;> simp))
      have F2 := Lib.hid ((FR.out.trans (FrS.of_one (p := fun k => k = cb ∨ w.heap.size ≤ k) hg2 (.inl rfl))).alloc (.cells #[.int .i64 z] 3))
      have C2 := Lib.hid (hc2.alloc (.cells #[.int .i64 z] 3))
      clear hc2 hg2
      go_wp2_with (at_builtin; refine wpList_append_own_at _ rfl _ _ 24 rfl w.heap.size 3 fi (.int .i64 0) 1 8 underlying_ints hfi hz0 hz1 hz2 rfl (by decide) _ _ _ rfl O2.out ⟨w2.heap.size, 0, none⟩ 1 1 [.int .i64 z] ?hx ?hl ?hnews ?h1 ?h63 ?hbytes ?hbase ?hnext)
      case hx => rfl
      case hl => rfl
      case hnews => exact cellI_new _ _ _
      case h1 => intro v hv; simp at hv; subst hv; rfl
      case h63 => unfold maxLen; omega
      case hbytes => omega
      case hbase => exact F2.out.size
      case hnext =>
        rintro v2 wr2 ho2 hg2 - -
        obtain ⟨ua, um, uc, rfl⟩ := rowsI_form ho2
        have hfr : FrS (fun k => w.heap.size ≤ k) (w2.alloc (.cells #[.int .i64 z] 3)) wr2 := ⟨hg2.os, hg2.tape, hg2.output, hg2.size, fun k hk hn => hg2.block k hk (fun h => hn (O2.out.lt k h.symm).1)⟩
        have O3 : Hid (wr2.ownsRow w.heap.size 3 1 (.slice ua um uc) (l ++ [z]).length ((l ++ [z]).map (Value.int .i64))) := by
          refine Lib.hid ?_
          rw [List.map_append, List.length_append]
          exact ho2
        have C3 := Lib.hid (C2.out.frs hfr (fun k hk => by omega))
        have F3 := Lib.hid (F2.out.trans (hfr.mono (q := fun k => k = cb ∨ w.heap.size ≤ k) (fun k hk => .inr hk)))
        clear ho2 hg2 hfr
        go_wp2_with fail
        go_roundw
        case rel => exact ⟨i + 1, l ++ [z], by go_num, by rw [List.length_append, LE.out]; rfl, by omega, O3.out, C3.out, F3.out⟩
        case measure => simp [intOf]; omega
    · have n1 : decide ((i : Int) < n) = false := by simp; omega
      go_wp2_with fail
      refine (l1Once _ cb 24 CU.out (by omega)).mono ?_
      rintro e w2 ⟨b, rfl, hc2, hg2⟩
      have s2 := hg2.size
      have O1 := Lib.hid (O.out.kept hg2 (ownI_far O.out hlt))
      have F1 := Lib.hid (FR.out.trans (FrS.of_one (p := fun k => k = cb ∨ w.heap.size ≤ k) hg2 (.inl rfl)))
      have C1 := Lib.hid hc2
      clear hc2 hg2
      cases b with
      | false =>
        go_wp2_with fail
        go_ret
        exact ⟨_, l, rfl, O1.out, by omega, C1.out, F1.out⟩
      | true =>
        have O2 := Lib.hid (O1.out.kept (World.grownBy_alloc w2 (.cells #[.int .i64 1] 3) none) (by cases (Value.slice va vm vc).ownBlock <;> simp))
        have F2 := Lib.hid (F1.out.alloc (.cells #[.int .i64 1] 3))
        have C2 := Lib.hid (C1.out.alloc (.cells #[.int .i64 1] 3))
        go_wp2_with (at_builtin; refine wpList_append_own_at _ rfl _ _ 24 rfl w.heap.size 3 fi (.int .i64 0) 1 8 underlying_ints hfi hz0 hz1 hz2 rfl (by decide) _ _ _ rfl O2.out ⟨w2.heap.size, 0, none⟩ 1 1 [.int .i64 1] ?hx ?hl ?hnews ?h1 ?h63 ?hbytes ?hbase ?hnext)
        case hx => rfl
        case hl => rfl
        case hnews => exact cellI_new _ _ _
        case h1 => intro v hv; simp at hv; subst hv; rfl
        case h63 => unfold maxLen; omega
        case hbytes => omega
        case hbase => exact F2.out.size
        case hnext =>
          rintro v2 wr2 ho2 hg2 - -
          obtain ⟨ua, um, uc, rfl⟩ := rowsI_form ho2
          have hfr : FrS (fun k => w.heap.size ≤ k) (w2.alloc (.cells #[.int .i64 1] 3)) wr2 := ⟨hg2.os, hg2.tape, hg2.output, hg2.size, fun k hk hn => hg2.block k hk (fun h => hn (O2.out.lt k h.symm).1)⟩
          have O3 : Hid (wr2.ownsRow w.heap.size 3 1 (.slice ua um uc) (l ++ [1]).length ((l ++ [1]).map (Value.int .i64))) := by
            refine Lib.hid ?_
            rw [List.map_append, List.length_append]
            exact ho2
          have C3 := Lib.hid (C2.out.frs hfr (fun k hk => by omega))
          have F3 := Lib.hid (F2.out.trans (hfr.mono (q := fun k => k = cb ∨ w.heap.size ≤ k) (fun k hk => .inr hk)))
          clear ho2 hg2 hfr
          go_wp2_with fail
          go_ret
          exact ⟨_, l ++ [1], rfl, O3.out, by rw [List.length_append]; simp; omega, C3.out, F3.out⟩
/-- A matrix, a list and a number, in memory of the call's own. -/
def MatSv (w : World) (e : Ending) (w' : World) : Prop := ∃ (r c : Int) (q : Option Addr) (qc : Nat) (xs : List Int) (qb : Option Addr) (qbc : Nat) (bs : List Int) (p : Int), e = .returned (.tuple #[.agg #[.int .i64 r, .int .i64 c, .slice q xs.length qc], .slice qb bs.length qbc, .int .i64 p]) ∧ Own w.heap.size w' (.slice q xs.length qc) xs ∧ xs.length ≤ 17 ∧ Own w.heap.size w' (.slice qb bs.length qbc) bs ∧ bs.length ≤ 31 ∧ (-1 ≤ p ∧ p ≤ 10007) ∧ Below w.heap.size w w'
theorem Own.far8 {B : Nat} {w : World} {v : Value} {zs : List Int} (h : Own B w v zs) {b : Nat} (hb : b < B) (x y z : Value) : Own B (((w.setCell ⟨b, 0, none⟩ x).setCell ⟨b, 1, none⟩ y).setCell ⟨b, 2, none⟩ z) v zs := ((h.far (by exact hb) _).far (by exact hb) _).far (by exact hb) _
end Go.Proofs.Ytgemkfcapkfdbaa
end

section
/-
  The drawing of moduli, of residues for them, and of a square matrix.
-/
namespace Go.Proofs.Ytgemkfcapkfdbaa
set_option maxRecDepth 100000
open Go.RowKit

/-- A few ints in memory of the call's own. -/
def CurLis4 (cb : Nat) (w : World) (e : Ending) (w' : World) : Prop := ∃ (v : Value) (l : List Int), e = .returned v ∧ w'.ownsRow w.heap.size 3 1 v l.length (l.map (Value.int .i64)) ∧ l.length ≤ 4 ∧ Cur w' cb ∧ FrS (fun k => k = cb ∨ w.heap.size ≤ k) w w'
set_option maxHeartbeats 4000000 in
theorem l9Moduli (w : World) (cb : Nat) (hc : Cur w cb) : Calls Try.prog 34 #[.pointer (some ⟨cb, 0, none⟩)] w (CurLis4 cb w) := by
  have hlt := hc.lt
  have C0 := Lib.hid (hc.alloc (.cells #[] 3))
  have own0 : (w.alloc (.cells #[] 3)).ownsRow w.heap.size 3 1 (.slice (some ⟨w.heap.size, 0, none⟩) 0 0) 0 (([] : List Int).map (Value.int .i64)) := ⟨rfl, .inr ⟨w.heap.size, 0, #[], rfl, Nat.le_refl _, heap_alloc_new w _, Nat.le_refl _, by decide, rfl, rfl⟩⟩
  have O0 := Lib.hid own0
  have F0 : Hid (FrS (fun k => k = cb ∨ w.heap.size ≤ k) w (w.alloc (.cells #[] 3))) := (FrS.refl _ w).alloc _
  clear hc own0
  obtain ⟨fi, hfi, hz0, hz1, hz2⟩ := facts_int
  go_enter Try.func34, Try.ntmps34
  go_wp2_with fail
  refine (l1Below _ cb 4 C0.out (by omega)).mono ?_
  rintro e w1 ⟨N, ⟨N0, N1⟩, rfl, hc1, hg1⟩
  obtain ⟨N, rfl⟩ := Int.eq_ofNat_of_zero_le N0
  have O1 := Lib.hid (O0.out.kept hg1 (ownI_far O0.out hlt))
  have F1 := Lib.hid (F0.out.trans (FrS.of_one (p := fun k => k = cb ∨ w.heap.size ≤ k) hg1 (.inl rfl)))
  have C1 := Lib.hid hc1
  clear hc1 hg1 O0 F0 C0
  go_wp2_with fail
  go_loopw [3, 4] (fun v3 v4 wr => ∃ (i : Nat) (l : List Int), v4 = .int .i64 i ∧ i + l.length ≤ 3 ∧ wr.ownsRow w.heap.size 3 1 v3 l.length (l.map (Value.int .i64)) ∧ Cur wr cb ∧ FrS (fun k => k = cb ∨ w.heap.size ≤ k) w wr) (fun _ v4 _ => (intOf v4).toNat)
  case atStart => exact ⟨N, [], rfl, by simp; omega, O1.out, C1.out, F1.out⟩
  case round =>
    obtain ⟨i, l, rfl, hi, ho, hcu, hf⟩ := hrel
    have O := Lib.hid ho
    have CU := Lib.hid hcu
    have FR := Lib.hid hf
    have s0 := hf.size
    obtain ⟨va, vm, vc, rfl⟩ := rowsI_form ho
    obtain ⟨j, hj⟩ : ∃ j, l.length = j := ⟨_, rfl⟩
    have LE := Lib.hid hj
    rw [hj] at hi
    have lcb := hcu.lt
    clear ho hcu hf O1 F1 C1 hj
    by_cases hgo : 0 < i
    · have p1 : (0 : Int) < (i : Int) := by omega
      go_wp2_with fail
      refine (l1PickInt (fun _ => True) _ cb wr.heap.size 9 (CU.out.alloc _) ?_ (by omega) (by omega) (by omega)).mono ?_
      · exact IntList.new [2, 3, 5, 7, 9, 11, 16, 25, 101] (by decide) wr 3
      rintro e w2 ⟨z, -, rfl, hc2, hg2⟩
      have s2 := hg2.size
      simp at s2
      have O2 := Lib.hid (((O.out.alloc _).kept hg2 (ownI_far O.out hlt)).alloc (.cells #[.int .i64 z] 3))
      have F2 := Lib.hid (((FR.out.alloc _).trans (FrS.of_one (p := fun k => k = cb ∨ w.heap.size ≤ k) hg2 (.inl rfl))).alloc (.cells #[.int .i64 z] 3))
      have C2 := Lib.hid (hc2.alloc (.cells #[.int .i64 z] 3))
      clear hc2 hg2
      go_wp2_with (at_builtin; refine wpList_append_own_at _ rfl _ _ 24 rfl w.heap.size 3 fi (.int .i64 0) 1 8 underlying_ints hfi hz0 hz1 hz2 rfl (by decide) _ _ _ rfl O2.out ⟨w2.heap.size, 0, none⟩ 1 1 [.int .i64 z] ?hx ?hl ?hnews ?h1 ?h63 ?hbytes ?hbase ?hnext)
      case hx => rfl
      case hl => rfl
      case hnews => exact cellI_new _ _ _
      case h1 => intro v hv; simp at hv; subst hv; rfl
      case h63 => have := LE.out; unfold maxLen; omega
      case hbytes => have := LE.out; omega
      case hbase => exact F2.out.size
      case hnext =>
        rintro v2 wr2 ho2 hg2 - -
        obtain ⟨ua, um, uc, rfl⟩ := rowsI_form ho2
        have hfr : FrS (fun k => w.heap.size ≤ k) (w2.alloc (.cells #[.int .i64 z] 3)) wr2 := ⟨hg2.os, hg2.tape, hg2.output, hg2.size, fun k hk hn => hg2.block k hk (fun h => hn (O2.out.lt k h.symm).1)⟩
        have O3 : Hid (wr2.ownsRow w.heap.size 3 1 (.slice ua um uc) (l ++ [z]).length ((l ++ [z]).map (Value.int .i64))) := by
          refine Lib.hid ?_
          rw [List.map_append, List.length_append]
          exact ho2
        have C3 := Lib.hid (C2.out.frs hfr (fun k hk => by omega))
        have F3 := Lib.hid (F2.out.trans (hfr.mono (q := fun k => k = cb ∨ w.heap.size ≤ k) (fun k hk => .inr hk)))
        have LX : Hid ((l ++ [z]).length = j + 1) := by show _ = _; rw [List.length_append, LE.out]; rfl
        obtain ⟨i', hi'⟩ : ∃ i', i = i' + 1 := ⟨i - 1, by omega⟩
        have wi : IntKind.i64.wrap ((i : Int) - 1) = ((i' : Nat) : Int) := by rw [show (i : Int) - 1 = ((i' : Nat) : Int) by omega]; exact IntWalk.i64_in _ (by omega)
        clear ho2 hg2 hfr
        go_wp2_with fail
        go_roundw
        case rel => exact ⟨i', l ++ [z], rfl, by have := LX.out; omega, O3.out, C3.out, F3.out⟩
        case measure => simp [intOf]; omega
    · obtain rfl : i = 0 := by omega
      clear hgo
      go_wp2_with fail
      refine (l1Once _ cb 14 CU.out (by omega)).mono ?_
      rintro e w2 ⟨b, rfl, hc2, hg2⟩
      have s2 := hg2.size
      have O1 := Lib.hid (O.out.kept hg2 (ownI_far O.out hlt))
      have F1 := Lib.hid (FR.out.trans (FrS.of_one (p := fun k => k = cb ∨ w.heap.size ≤ k) hg2 (.inl rfl)))
      have C1 := Lib.hid hc2
      clear hc2 hg2
      cases b with
      | false =>
        go_wp2_with fail
        go_ret
        exact ⟨_, l, rfl, O1.out, by have := LE.out; omega, C1.out, F1.out⟩
      | true =>
        go_wp2_with fail
        refine (l1Odd _ cb C1.out).mono ?_
        rintro e w3 ⟨z, -, rfl, hc3, hg3⟩
        have s3 := hg3.size
        have O2 := Lib.hid ((O1.out.kept hg3 (ownI_far O1.out hlt)).alloc (.cells #[.int .i64 z] 3))
        have F2 := Lib.hid ((F1.out.trans (FrS.of_one (p := fun k => k = cb ∨ w.heap.size ≤ k) hg3 (.inl rfl))).alloc (.cells #[.int .i64 z] 3))
        have C2 := Lib.hid (hc3.alloc (.cells #[.int .i64 z] 3))
        clear hc3 hg3
        go_wp2_with (at_builtin; refine wpList_append_own_at _ rfl _ _ 24 rfl w.heap.size 3 fi (.int .i64 0) 1 8 underlying_ints hfi hz0 hz1 hz2 rfl (by decide) _ _ _ rfl O2.out ⟨w3.heap.size, 0, none⟩ 1 1 [.int .i64 z] ?hx ?hl ?hnews ?h1 ?h63 ?hbytes ?hbase ?hnext)
        case hx => rfl
        case hl => rfl
        case hnews => exact cellI_new _ _ _
        case h1 => intro v hv; simp at hv; subst hv; rfl
        case h63 => have := LE.out; unfold maxLen; omega
        case hbytes => have := LE.out; omega
        case hbase => exact F2.out.size
        case hnext =>
          rintro v2 wr2 ho2 hg2 - -
          obtain ⟨ua, um, uc, rfl⟩ := rowsI_form ho2
          have hfr : FrS (fun k => w.heap.size ≤ k) (w3.alloc (.cells #[.int .i64 z] 3)) wr2 := ⟨hg2.os, hg2.tape, hg2.output, hg2.size, fun k hk hn => hg2.block k hk (fun h => hn (O2.out.lt k h.symm).1)⟩
          have O3 : Hid (wr2.ownsRow w.heap.size 3 1 (.slice ua um uc) (l ++ [z]).length ((l ++ [z]).map (Value.int .i64))) := by
            refine Lib.hid ?_
            rw [List.map_append, List.length_append]
            exact ho2
          have C3 := Lib.hid (C2.out.frs hfr (fun k hk => by omega))
          have F3 := Lib.hid (F2.out.trans (hfr.mono (q := fun k => k = cb ∨ w.heap.size ≤ k) (fun k hk => .inr hk)))
          clear ho2 hg2 hfr
          go_wp2_with fail
          go_ret
          exact ⟨_, l ++ [z], rfl, O3.out, by rw [List.length_append]; have := LE.out; simp; omega, C3.out, F3.out⟩
/-- Residues and moduli, in memory of the call's own. -/
def ResMod (w : World) (e : Ending) (w' : World) : Prop := ∃ (q : Option Addr) (qc : Nat) (rs : List Int) (qm : Option Addr) (qmc : Nat) (ms : List Int), e = .returned (.tuple #[.slice q rs.length qc, .slice qm ms.length qmc]) ∧ Own w.heap.size w' (.slice q rs.length qc) rs ∧ rs.length ≤ 31 ∧ Own w.heap.size w' (.slice qm ms.length qmc) ms ∧ ms.length ≤ 4 ∧ Below w.heap.size w w'
theorem drawChi (w : World) (a : Option Addr) (len cap : Nat) (hc : CodeIn w a len) : Calls Try.prog 11 #[.slice a len cap] w (ResMod w) := by
  have HC := Lib.hid hc
  clear hc
  go_enter Try.func11, Try.ntmps11
  go_wp2_with fail
  refine (l1New _ a len cap HC.out).mono ?_
  rintro e w1 ⟨cb, rfl, hcb, hc1, hb1⟩
  have CB := Lib.hid hcb
  have C1 := Lib.hid hc1
  have B1 := Lib.hid hb1
  clear hcb hc1 hb1
  go_wp2_with fail
  refine (l9Moduli _ cb C1.out).mono ?_
  rintro e w2 ⟨v, ms, rfl, ho, hl, hc2, hf2⟩
  have cl := C1.out.lt
  have cb0 := CB.out
  have s1 := B1.out.size
  have s2 := hf2.size
  obtain ⟨qm, qmc, rfl, -, -⟩ := (Own.of_row ho (by omega)).form
  have O2 := Lib.hid ho
  have C2 := Lib.hid hc2
  have F2 : Hid (FrS (fun k => w.heap.size ≤ k) w w2) := (FrS.of_below B1.out).trans (hf2.mono (q := fun k => w.heap.size ≤ k) (fun k hk => by omega))
  have HL := Lib.hid hl
  clear ho hc2 hf2
  go_wp2_with fail
  refine (l8Right _ cb _ C2.out (by omega)).mono ?_
  rintro e w3 ⟨v, rs, rfl, ho3, hl3, hc3, hf3⟩
  obtain ⟨q, qc, rfl, -, -⟩ := (Own.of_row ho3 (by omega)).form
  have O3 := Lib.hid ((Own.of_row ho3 (by omega)).le (B' := w.heap.size) (by omega))
  have M3 : Hid (Own w.heap.size w3 (.slice qm ms.length qmc) ms) := by
    refine Lib.hid (Own.le (B := w1.heap.size) ?_ (by omega))
    have k3 : w3.ownsRow w1.heap.size 3 1 (.slice qm ms.length qmc) ms.length (ms.map (Value.int .i64)) := by
      have h2 := O2.out
      obtain ⟨h1, ⟨h2, h3⟩ | ⟨g, cap, cur, e, hB, hg, rest⟩⟩ := h2
      · exact ⟨h1, .inl ⟨h2, h3⟩⟩
      · exact ⟨h1, .inr ⟨g, cap, cur, e, hB, (hf3.block g (lt_of_block hg) (by have := lt_of_block hg; omega)).trans hg, rest⟩⟩
    exact Own.of_row k3 (by have := HL.out; omega)
  have F3 : Hid (FrS (fun k => w.heap.size ≤ k) w w3) := F2.out.trans (hf3.mono (q := fun k => w.heap.size ≤ k) (fun k hk => by omega))
  clear ho3 hc3 hf3
  go_wp2_with fail
  exact bodyPost_ret (v := .tuple #[.slice q rs.length qc, .slice qm ms.length qmc]) (by simp [results, Try.results11, go_sem]) rfl ⟨q, qc, rs, qm, qmc, ms, rfl, O3.out, hl3, M3.out, HL.out, F3.out.below (fun k hk => hk) (Nat.le_refl _)⟩
set_option maxRecDepth 100000 in
set_option maxHeartbeats 1000000 in
theorem drawImg (w : World) (a : Option Addr) (len cap : Nat) (hc : CodeIn w a len) : Calls Try.prog 17 #[.slice a len cap] w (AnyMat w) := by
  have HC := Lib.hid hc
  clear hc
  go_enter Try.func17, Try.ntmps17
  go_wp2_with fail
  refine (l1New _ a len cap (HC.out.below ((Below.refl _ _).alloc (Nat.le_refl _) _))).mono ?_
  rintro e w1 ⟨cb, rfl, hcb, hc1, hb1⟩
  have CB : w.heap.size < cb := by simp at hcb; omega
  have K2 : Hid (Blk3 w1 w.heap.size 34 (.int .i64 0) (.int .i64 0) (.slice none 0 0)) := (Blk3.at_ _ _ _ _ rfl).keep hb1 (by simp)
  have F1 : Hid (FrS (fun k => w.heap.size ≤ k) w w1) := ((FrS.refl _ w).alloc _).trans (FrS.of_below hb1)
  have C1 := Lib.hid hc1
  clear hcb hc1 hb1
  go_wp2_with fail
  refine (l3Square _ cb C1.out).mono ?_
  rintro e w2 ⟨r, c, v, xs, rfl, own, hl, hc2, hf⟩
  have s1 := F1.out.size
  have K2 := Lib.hid (K2.out.frs hf (by have := K2.out.lt; omega))
  have F2 := Lib.hid (F1.out.trans (hf.mono2 (q := fun k => w.heap.size ≤ k) (fun k _ hk => by omega)))
  obtain ⟨q, qc, rfl, en⟩ := AnyMat.end_ (w := w) (r := r) (c := c) own (by omega) K2.out (by omega) (Nat.le_refl _) F2.out (fun k hk => hk)
  have EN := Lib.hid en
  clear own hc2 hf en
  obtain ⟨y0, y1, y2, y3, y4, y5⟩ := K2.out.all
  go_wp2_with fail
  obtain ⟨E0, E1, E2, -, -, -⟩ := (((K2.out.set0 (.int .i64 r)).set1 (.int .i64 c)).set2 (.slice q xs.length qc)).all
  exact bodyPost_ret (v := .agg #[.int .i64 r, .int .i64 c, .slice q xs.length qc]) (by simp [results, Try.results17, go_sem, E0, E1, E2]) rfl EN.out
end Go.Proofs.Ytgemkfcapkfdbaa
end
