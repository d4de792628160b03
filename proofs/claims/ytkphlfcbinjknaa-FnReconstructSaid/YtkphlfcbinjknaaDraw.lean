/-
  The drawing of inputs (chapter 1 of the model): the cursor over a code's bytes, and what each drawing function returns: a number in its range, with nothing written but the cursor.
-/
import Derived.Test.YtkphlfcbinjknaaRows
import Derived.Test.YtkphlfcbinjknaaBlk
import Derived.WalkKit
import Derived.BigQuiet
import Derived.Deep.QuietTactic
namespace Go.Proofs.Ytkphlfcbinjknaa
open Go.RowKit

/-- The bytes that a slice shows: each in its range, each block older than block cb. -/
def Bytes (w : World) (cb : Nat) (a : Option Addr) (len : Nat) : Prop :=
  ∀ k : Nat, k < len → ∃ (b o : Nat) (z : Int), a = some ⟨b, o, none⟩ ∧ w.cell? ⟨b, o + k, none⟩ = some (.int .u8 z) ∧ 0 ≤ z ∧ z ≤ 255 ∧ b < cb
/-- Block cb is a cursor. -/
def Cur (w : World) (cb : Nat) : Prop :=
  ∃ (a : Option Addr) (len cap i : Nat) (h : Int), Blk3 w cb 55 (.slice a len cap) (.int .i64 i) (.int .i64 h) ∧ i ≤ len ∧ len ≤ maxLen ∧ Bytes w cb a len

/-- An int with the property P is returned, and of all that was there only the cursor has changed. -/
def CurInt (P : Int → Prop) (cb : Nat) (w : World) (e : Ending) (w' : World) : Prop := ∃ r : Int, P r ∧ e = .returned (.int .i64 r) ∧ Cur w' cb ∧ w.grownBy w' (some cb)

theorem Bytes.one {w w' : World} {cb : Nat} {a : Option Addr} {len : Nat} (h : Bytes w cb a len) (hg : w.grownBy w' (some cb)) : Bytes w' cb a len := fun k hk => by
  obtain ⟨b, o, z, ha, hx, h0, h1, hne⟩ := h k hk
  exact ⟨b, o, z, ha, hg.cell hx (by simp; omega), h0, h1, hne⟩
theorem and255 (x : Int) : 0 ≤ bits .and .i64 x 255 ∧ bits .and .i64 x 255 ≤ 255 := by
  have h : (BitVec.ofInt 64 x &&& BitVec.ofInt 64 255).toNat ≤ 255 := by rw [BitVec.toNat_and]; exact Nat.le_trans Nat.and_le_right (by decide)
  show 0 ≤ IntKind.i64.wrap ((BitVec.ofInt 64 x &&& BitVec.ofInt 64 255).toNat : Int) ∧ IntKind.i64.wrap ((BitVec.ofInt 64 x &&& BitVec.ofInt 64 255).toNat : Int) ≤ 255
  rw [IntKind.wrap_i64]
  omega
theorem curInt_end {P : Int → Prop} {w W : World} {cb len cap i : Nat} {a : Option Addr} {h r : Int} (hr : P r) (hb : Blk3 W cb 55 (.slice a len cap) (.int .i64 i) (.int .i64 h))
    (hi : i ≤ len) (hl : len ≤ maxLen) (hby : Bytes w cb a len) (hg : w.grownBy W (some cb)) : CurInt P cb w (.returned (.int .i64 r)) W :=
  ⟨r, hr, rfl, ⟨a, len, cap, i, h, hb, hi, hl, hby.one hg⟩, hg⟩

set_option maxHeartbeats 400000 in
theorem l1Byte (w : World) (cb : Nat) (hc : Cur w cb) :
    Calls Try.prog 41 #[.pointer (some ⟨cb, 0, none⟩)] w (CurInt (fun r => 0 ≤ r ∧ r ≤ 255) cb w) := by
  obtain ⟨a, len, cap, i, h, hb, hi, hl, hby⟩ := hc
  obtain ⟨c0, c1, c2, f0, f1, f2⟩ := hb.all
  have HB := Lib.hid hb
  have HL := Lib.hid hl
  have HY := Lib.hid hby
  unfold maxLen at hl
  by_cases hlt : i < len
  · obtain ⟨xb, xo, z, rfl, hx, hz0, hz1, hne⟩ := hby i hlt
    have hne' : cb ≠ xb := by omega
    clear hb hby
    go_enter Try.func41, Try.ntmps41
    go_wp2_with (fail)
    generalize wrap64 (wrap64 (h * 6364136223846793005) + 1442695040888963407) = h'
    go_quiet (fail)
    go_wp2_with (fail)
    go_quiet (fail)
    go_wp2_with (fail)
    go_quiet (fail)
    go_wp2_with (fail)
    go_ret
    refine curInt_end (cap := cap) (i := i + 1) (h := h') (and255 _) ?_ (by omega) HL.out HY.out ?_
    · exact (((HB.out.set2 _).drewN _).set1 _)
    · repeat (first | exact World.grownBy.refl _ _ | refine grown_set_one ?_ (by exact rfl) _ | refine grown_drewN_one ?_ _)
  · clear hb hby
    have hlt' : decide (i < len) = false := by simpa using hlt
    go_enter Try.func41, Try.ntmps41
    go_wp2_with (fail)
    generalize wrap64 (wrap64 (h * 6364136223846793005) + 1442695040888963407) = h'
    go_quiet (fail)
    go_wp2_with (fail)
    go_quiet (fail)
    go_wp2_with (fail)
    go_ret
    refine curInt_end (cap := cap) (i := i) (h := h') (and255 _) ?_ (by omega) HL.out HY.out ?_
    · first | exact HB.out.set2 _ | exact (HB.out.set2 _).drewN _
    · repeat (first | exact World.grownBy.refl _ _ | refine grown_set_one ?_ (by exact rfl) _ | refine grown_drewN_one ?_ _)

/-- A bool is returned, and of all that was there only the cursor has changed. -/
def CurBool (cb : Nat) (w : World) (e : Ending) (w' : World) : Prop := ∃ r : Bool, e = .returned (.bool r) ∧ Cur w' cb ∧ w.grownBy w' (some cb)
theorem CurInt.mono {P Q : Int → Prop} {cb : Nat} {w w' : World} {e : Ending} (h : CurInt P cb w e w') (k : ∀ r, P r → Q r) : CurInt Q cb w e w' := by
  obtain ⟨r, hr, he, hc, hg⟩ := h
  exact ⟨r, k r hr, he, hc, hg⟩
theorem mod_range (x n : Int) (hn : 0 < n) : 0 ≤ x % n ∧ x % n < n := ⟨Int.emod_nonneg x (by omega), Int.emod_lt_of_pos x hn⟩

set_option maxHeartbeats 400000 in
theorem l1Below_small (w : World) (cb : Nat) (n : Int) (hc : Cur w cb) (h1 : 0 < n) (h2 : n ≤ 256) :
    Calls Try.prog 34 #[.pointer (some ⟨cb, 0, none⟩), .int .i64 n] w (CurInt (fun r => 0 ≤ r ∧ r < n) cb w) := by
  have HC := Lib.hid hc
  clear hc
  have hn : (n == 0) = false := by simp; omega
  go_enter Try.func34, Try.ntmps34
  go_wp2_with (fail)
  refine (l1Byte w cb HC.out).mono ?_
  rintro e w1 ⟨r, ⟨r0, r1⟩, rfl, hc1, hg1⟩
  have C1 := Lib.hid hc1
  have G1 := Lib.hid hg1
  clear hc1 hg1
  go_wp2_with (fail)
  go_ret
  exact ⟨r % n, mod_range r n h1, rfl, C1.out, G1.out⟩

set_option maxHeartbeats 400000 in
theorem l1Below_large (w : World) (cb : Nat) (n : Int) (hc : Cur w cb) (h2 : 256 < n) :
    Calls Try.prog 34 #[.pointer (some ⟨cb, 0, none⟩), .int .i64 n] w (CurInt (fun r => 0 ≤ r ∧ r < n) cb w) := by
  have HC := Lib.hid hc
  clear hc
  have hn : (n == 0) = false := by simp; omega
  go_enter Try.func34, Try.ntmps34
  go_wp2_with (fail)
  refine (l1Byte w cb HC.out).mono ?_
  rintro e w1 ⟨r, ⟨r0, r1⟩, rfl, hc1, hg1⟩
  have C1 := Lib.hid hc1
  have G1 := Lib.hid hg1
  clear hc1 hg1
  go_wp2_with (fail)
  refine (l1Byte w1 cb C1.out).mono ?_
  rintro e w2 ⟨s, ⟨s0, s1⟩, rfl, hc2, hg2⟩
  have C2 := Lib.hid hc2
  have G2 := Lib.hid (G1.out.trans hg2)
  clear hc2 hg2
  go_wp2_with (fail)
  refine (l1Byte w2 cb C2.out).mono ?_
  rintro e w3 ⟨t, ⟨t0, t1⟩, rfl, hc3, hg3⟩
  have C3 := Lib.hid hc3
  have G3 := Lib.hid (G2.out.trans hg3)
  clear hc3 hg3
  go_wp2_with (fail)
  refine (l1Byte w3 cb C3.out).mono ?_
  rintro e w4 ⟨u, ⟨u0, u1⟩, rfl, hc4, hg4⟩
  have C4 := Lib.hid hc4
  have G4 := Lib.hid (G3.out.trans hg4)
  clear hc4 hg4
  go_wp2_with (fail)
  go_ret
  exact ⟨_, mod_range (r * 16777216 + s * 65536 + t * 256 + u) n (by omega), rfl, C4.out, G4.out⟩

theorem l1Below (w : World) (cb : Nat) (n : Int) (hc : Cur w cb) (h1 : 0 < n) :
    Calls Try.prog 34 #[.pointer (some ⟨cb, 0, none⟩), .int .i64 n] w (CurInt (fun r => 0 ≤ r ∧ r < n) cb w) := by
  rcases Int.lt_or_le 256 n with h | h
  · exact l1Below_large w cb n hc h
  · exact l1Below_small w cb n hc h1 h

/-- A list of ints lies in block lb, each with the property P. -/
def IntList (P : Int → Prop) (w : World) (lb n : Nat) : Prop := ∀ k : Nat, k < n → ∃ z : Int, w.cell? ⟨lb, k, none⟩ = some (.int .i64 z) ∧ P z
theorem IntList.one {P : Int → Prop} {w w' : World} {lb n cb : Nat} (h : IntList P w lb n) (hg : w.grownBy w' (some cb)) (hne : lb ≠ cb) : IntList P w' lb n := fun k hk => by
  obtain ⟨z, hz, hp⟩ := h k hk
  exact ⟨z, hg.cell hz (by simpa using hne), hp⟩

set_option maxHeartbeats 400000 in
theorem l1PickInt (P : Int → Prop) (w : World) (cb lb n : Nat) (hc : Cur w cb) (hl : IntList P w lb n) (h1 : 0 < n) (h2 : n ≤ 1000000) (hne : lb ≠ cb) :
    Calls Try.prog 36 #[.pointer (some ⟨cb, 0, none⟩), .slice (some ⟨lb, 0, none⟩) n n] w (CurInt P cb w) := by
  have HC := Lib.hid hc
  have HL := Lib.hid hl
  clear hc hl
  go_enter Try.func36, Try.ntmps36
  go_wp2_with (fail)
  refine (l1Below w cb n HC.out (by omega)).mono ?_
  rintro e w1 ⟨r, ⟨r0, r1⟩, rfl, hc1, hg1⟩
  obtain ⟨k, rfl⟩ := Int.eq_ofNat_of_zero_le r0
  obtain ⟨z, hz, hp⟩ := (HL.out.one hg1 hne) k (by omega)
  have C1 := Lib.hid hc1
  have G1 := Lib.hid hg1
  have HP := Lib.hid hp
  have hk : k < n := by omega
  clear hc1 hg1 hp
  go_wp2_with (fail)
  go_ret
  exact ⟨z, HP.out, rfl, C1.out, G1.out⟩

theorem IntList.new {P : Int → Prop} (zs : List Int) (hz : ∀ z, z ∈ zs → P z) (w : World) (t : TypeId) : IntList P (w.alloc (.cells (zs.map (Value.int .i64)).toArray t)) w.heap.size zs.length := fun k hk => by
  refine ⟨zs[k], ?_, hz _ (List.getElem_mem hk)⟩
  have e : (w.alloc (.cells (zs.map (Value.int .i64)).toArray t)).heap[w.heap.size]? = some (.cells (zs.map (Value.int .i64)).toArray t) := heap_alloc_new w _
  unfold World.cell?
  rw [e]
  simp [hk]
theorem Cur.lt {w : World} {cb : Nat} (h : Cur w cb) : cb < w.heap.size := by
  obtain ⟨a, len, cap, i, h, hb, _⟩ := h
  exact hb.lt
theorem Cur.grown {w w' : World} {cb : Nat} {row : Option Nat} (hc : Cur w cb) (hg : w.grownBy w' row) (hr : ∀ j, row = some j → w.heap.size ≤ j) : Cur w' cb := by
  obtain ⟨a, len, cap, i, h, hb, hi, hl, hby⟩ := hc
  refine ⟨a, len, cap, i, h, (hg.block cb hb.lt (fun e => by have := hr cb e.symm; have := hb.lt; omega)).trans hb, hi, hl, fun k hk => ?_⟩
  obtain ⟨b, o, z, ha, hx, h0, h1, hne⟩ := hby k hk
  exact ⟨b, o, z, ha, hg.cell hx (fun e => by have := hr b e.symm; have := World.block_lt_of_cell? w _ hx; simp at this; omega), h0, h1, hne⟩
theorem Cur.setFar {w : World} {cb : Nat} (hc : Cur w cb) {x : Addr} (hx : cb < x.block) (u : Value) : Cur (w.setCell x u) cb := by
  obtain ⟨a, len, cap, i, h, hb, hi, hl, hby⟩ := hc
  refine ⟨a, len, cap, i, h, hb.far (by omega) u, hi, hl, fun k hk => ?_⟩
  obtain ⟨b, o, z, ha, hcell, h0, h1, hne⟩ := hby k hk
  exact ⟨b, o, z, ha, (((Below.refl x.block w).setCell (Nat.le_refl _) u).cell (p := ⟨b, o + k, none⟩) (by show b < x.block; omega)).trans hcell, h0, h1, hne⟩
theorem Cur.alloc {w : World} {cb : Nat} (hc : Cur w cb) (o : Obj) : Cur (w.alloc o) cb := hc.grown (World.grownBy_alloc w o none) (by simp)

set_option maxHeartbeats 400000 in
theorem l1Odd (w : World) (cb : Nat) (hc : Cur w cb) :
    Calls Try.prog 35 #[.pointer (some ⟨cb, 0, none⟩)] w (CurInt (fun r => -9223372036854775808 ≤ r ∧ r ≤ 9223372036854775807) cb w) := by
  have HC := Lib.hid hc
  have hlt := hc.lt
  clear hc
  go_enter Try.func35, Try.ntmps35
  go_wp2_with (fail)
  refine (l1PickInt (fun r => -9223372036854775808 ≤ r ∧ r ≤ 9223372036854775807) _ cb w.heap.size 11 (HC.out.alloc _) ?_ (by omega) (by omega) (by omega)).mono ?_
  · exact IntList.new [0, 1, -1, 2, 400000000, -400000000, 400000001, -400000001, 399999999, 9223372036854775807, -9223372036854775808] (by decide) w 3
  rintro e w1 ⟨r, hr, rfl, hc1, hg1⟩
  have C1 := Lib.hid hc1
  have G1 := Lib.hid hg1
  have R := Lib.hid hr
  clear hc1 hg1 hr
  go_wp2_with (fail)
  go_ret
  exact ⟨r, R.out, rfl, C1.out, (World.grownBy_alloc w _ _).trans G1.out⟩

/-- The bytes of a code that came in. -/
def CodeIn (w : World) (a : Option Addr) (len : Nat) : Prop :=
  len ≤ maxLen ∧ ∀ k : Nat, k < len → ∃ (b o : Nat) (z : Int), a = some ⟨b, o, none⟩ ∧ w.cell? ⟨b, o + k, none⟩ = some (.int .u8 z) ∧ 0 ≤ z ∧ z ≤ 255
theorem CodeIn.below {w w' : World} {a : Option Addr} {len : Nat} (h : CodeIn w a len) (hb : Below w.heap.size w w') : CodeIn w' a len :=
  ⟨h.1, fun k hk => by
    obtain ⟨b, o, z, ha, hx, h0, h1⟩ := h.2 k hk
    exact ⟨b, o, z, ha, (hb.cell (World.block_lt_of_cell? w _ hx)).trans hx, h0, h1⟩⟩
/-- A new cursor is returned; of what was there nothing has changed. -/
def CurNew (w : World) (e : Ending) (w' : World) : Prop := ∃ cb : Nat, e = .returned (.pointer (some ⟨cb, 0, none⟩)) ∧ w.heap.size ≤ cb ∧ Cur w' cb ∧ Below w.heap.size w w'

set_option maxHeartbeats 400000 in
theorem l1New (w : World) (a : Option Addr) (len cap : Nat) (hc : CodeIn w a len) :
    Calls Try.prog 18 #[.slice a len cap] w (CurNew w) := by
  have hl := hc.1
  have HC := Lib.hid hc
  clear hc
  unfold maxLen at hl
  go_enter Try.func18, Try.ntmps18
  go_wp2_with (fail)
  generalize wrap64 (10101 + (len : Int)) = q0
  go_loop [3, 4] (fun t s => ∃ (q : Int) (k : Nat), t = .int .i64 q ∧ s = .int .i64 k ∧ k ≤ len ∧ k ≤ 4000) (fun _ s => (len - intOf s).toNat)
  case atStart => exact ⟨q0, 0, rfl, rfl, by omega, by omega⟩
  case round =>
    obtain ⟨q, k, rfl, rfl, hk, hk2⟩ := hrel
    by_cases h1 : k < len
    · by_cases h2 : k < 4000
      · obtain ⟨b, o, z, ha, hx, hz0, hz1⟩ := HC.out.2 k h1
        subst ha
        have h3 : (k : Int) < 4000 := by omega
        have H2 := Lib.hid h2
        have H4 := Lib.hid hk2
        clear h2 hk2
        go_wp2_with (fail)
        go_round
        case rel => exact ⟨_, k + 1, rfl, by go_num, by omega, by have := H2.out; omega⟩
        case measure => simp [intOf]; omega
      · have h3 : decide ((k : Int) < 4000) = false := by simp; omega
        clear h2 hk2
        go_wp2_with (fail)
        go_ret
        refine ⟨w.heap.size, rfl, Nat.le_refl _, ⟨a, len, cap, 0, q, Blk3.new _ _ _ _ _, by omega, HC.out.1, fun j hj => ?_⟩, (Below.refl _ _).alloc (Nat.le_refl _) _⟩
        obtain ⟨b, o, z, ha, hx, hz0, hz1⟩ := HC.out.2 j hj
        have hlt := World.block_lt_of_cell? w _ hx
        exact ⟨b, o, z, ha, (World.grownBy_alloc w _ none).cell hx (by simp), hz0, hz1, by simp at hlt; omega⟩
    · have h1' : decide (k < len) = false := by simpa using h1
      go_wp2_with (fail)
      go_ret
      refine ⟨w.heap.size, rfl, Nat.le_refl _, ⟨a, len, cap, 0, q, Blk3.new _ _ _ _ _, by omega, HC.out.1, fun j hj => ?_⟩, (Below.refl _ _).alloc (Nat.le_refl _) _⟩
      obtain ⟨b, o, z, ha, hx, hz0, hz1⟩ := HC.out.2 j hj
      have hlt := World.block_lt_of_cell? w _ hx
      exact ⟨b, o, z, ha, (World.grownBy_alloc w _ none).cell hx (by simp), hz0, hz1, by simp at hlt; omega⟩

/-- Two ints are returned; of what was there nothing has changed. -/
def TwoInts (P : Int → Int → Prop) (w : World) (e : Ending) (w' : World) : Prop := ∃ r s : Int, P r s ∧ e = .returned (.tuple #[.int .i64 r, .int .i64 s]) ∧ Below w.heap.size w w'

end Go.Proofs.Ytkphlfcbinjknaa
