/-
  slices.Grow of nothing and slices.Concat of two slices of ints.
-/
import Derived.Test.YtpladgojeijihaaMatI5
import Derived.Test.YtpladgojeijihaaMatS10
import Derived.Test.YtpladgojeijihaaShelfG
namespace Go.Proofs.Ytpladgojeijihaa
open Go.RowKit

/-- Room for n ints in memory of the call's own. -/
def Room (w : World) (e : Ending) (w' : World) : Prop := ∃ v, e = .returned v ∧ w'.ownsRow w.heap.size 3 1 v 0 [] ∧ Below w.heap.size w w'
theorem iGrow (n : Nat) (w : World) (hn : n ≤ 16777216) :
    Calls Try.prog 79 #[.slice none 0 0, .int .i64 n] w (Room w) := by
  rcases Nat.eq_zero_or_pos n with rfl | hp
  · exact (Any8.slices_Grow_room Try.growI none 0 0 0 w (by omega) (by omega) (by omega) (by omega)).mono fun e w' ⟨h1, h2⟩ => ⟨_, h1, ⟨rfl, .inl ⟨rfl, rfl⟩⟩, by rw [h2]; exact Below.refl _ _⟩
  · obtain ⟨fi, hfi, hz0, hz1, hz2⟩ := facts_int
    refine (Any8.slices_Grow_grow Try.growI fi (.int .i64 0) hfi hz0 (by omega) none 0 0 n [] w (by omega) (by omega) (by rw [hz2]; omega) (by omega) (by simp) (fun _ => rfl) (fun a h => by cases h)).mono ?_
    rintro e w' ⟨rfl, rfl⟩
    have hge := grownCap_ge w (0 + n) 0 3
    have hle := grownCap_le_maxLen w (0 + n) 0 3 (by unfold maxLen; omega)
    refine ⟨_, rfl, ⟨rfl, .inr ⟨w.heap.size, _, _, rfl, Nat.le_refl _, heap_alloc_new w.drew _, Nat.zero_le _, hle, ?_, rfl⟩⟩, ((Below.refl _ w).drew).alloc (Nat.le_refl _) _⟩
    show Array.size (_ ++ _ ++ _) = grownCap w (0 + n) 0 3 * 1
    rw [Array.size_append, Array.size_append, size_zeroCells, size_zeroCells]
    simp only [Value.cells, Nat.mul_one]
    show 0 + (0 + n - 0) * 1 + (grownCap w (0 + n) 0 3 - (0 + n)) * 1 = _
    omega

theorem ownBlock_ge {w : World} {base n k : Nat} {e : TypeId} {size : Nat} {v : Value} {xs : List Value} (h : w.ownsRow base e size v n xs) (hk : v.ownBlock = some k) : base ≤ k := by
  rcases h.2 with ⟨rfl, -⟩ | ⟨g, cap, cur, rfl, hB, -⟩
  · cases hk
  · simp [Value.ownBlock] at hk; omega
/-- What the first k of two lists come to. -/
def lens (a b : Nat) : Nat → Nat | 0 => 0 | 1 => a | _ => a + b
def cats (xs ys : List Int) : Nat → List Int | 0 => [] | 1 => xs | _ => xs ++ ys

set_option maxHeartbeats 1000000 in
theorem iConcat (p ga oa gb ob m n na nb : Nat) (xs ys : List Int) (w : World) (hx : xs.length = na) (hy : ys.length = nb) (hp0 : w.cell? ⟨p, 0, none⟩ = some (.slice (some ⟨ga, oa, none⟩) na m)) (hp1 : w.cell? ⟨p, 1, none⟩ = some (.slice (some ⟨gb, ob, none⟩) nb n))
    (h : Rd w (some ⟨ga, oa, none⟩) xs) (h' : Rd w (some ⟨gb, ob, none⟩) ys) (ha : na ≤ 1048576) (hb : nb ≤ 1048576) :
    Calls Try.prog 72 #[.slice (some ⟨p, 0, none⟩) 2 2] w (Copy (xs ++ ys) w) := by
  have HX := Lib.hid hx
  have HY := Lib.hid hy
  have H := Lib.hid h
  have H' := Lib.hid h'
  have P0 := Lib.hid hp0
  have P1 := Lib.hid hp1
  clear hx hy h h' hp0 hp1
  go_enter Try.func72, Try.ntmps72
  go_wp2_with fail
  go_loop [3, 5, 11] (fun sz _ i => ∃ k : Nat, i = .int .i64 k ∧ k ≤ 2 ∧ sz = .int .i64 (lens na nb k)) (fun _ _ i => 2 - (intOf i).toNat)
  case atStart => exact ⟨0, rfl, by omega, rfl⟩
  case round =>
    obtain ⟨k, rfl, hk, rfl⟩ := hrel
    have P0 := P0.out
    have P1 := P1.out
    match k, hk with
    | 0, _ =>
      simp only [lens]
      go_wp2_with fail
      go_round
      case rel => exact ⟨1, rfl, by omega, by simp⟩
      case measure => simp [intOf]
    | 1, _ =>
      simp only [lens]
      go_wp2_with fail
      go_round
      case rel => exact ⟨2, rfl, by omega, by simp⟩
      case measure => simp [intOf]
    | 2, _ =>
      simp only [lens]
      go_wp2_with fail
      clear P0 P1
      rw [← Int.natCast_add]
      refine (iGrow (na + nb) _ (by omega)).mono ?_
      rintro e w1 ⟨v0, rfl, own, hbl⟩
      have OW := Lib.hid own
      have B := Lib.hid hbl
      obtain ⟨fi, hfi, hz0, hz1, hz2⟩ := facts_int
      clear own hbl
      go_wp2_with fail
      go_loopw [6, 8, 27] (fun s6 _ i wr => ∃ (k : Nat) (v : Value), v = s6 ∧ i = .int .i64 k ∧ k ≤ 2 ∧ wr.ownsRow w.heap.size 3 1 v (lens na nb k) ((cats xs ys k).map (Value.int .i64)) ∧ Below w.heap.size w wr) (fun _ _ i _ => 2 - (intOf i).toNat)
      case atStart => exact ⟨0, _, rfl, rfl, by omega, OW.out, B.out⟩
      case round =>
      clear OW B
      obtain ⟨k, v, rfl, rfl, hk, own, hbl⟩ := hrel
      have OW := Lib.hid own
      have B := Lib.hid hbl
      clear own hbl

      match k, hk with
      | 0, _ =>
        have hown : wr.ownsRow w.heap.size 3 1 v 0 ([]) := OW.out
        have PC : wr.cell? ⟨p, 0, none⟩ = some (.slice (some ⟨ga, oa, none⟩) na m) := (B.out.cell (p := ⟨p, 0, none⟩) (World.block_lt_of_cell? w _ P0.out)).trans P0.out
        have news : ∀ (j : Nat) u, (xs.map (Value.int .i64))[j]? = some u → wr.cell? ((⟨ga, oa, none⟩ : Addr).add j) = some u := by
          intro j u hu
          obtain ⟨hj, rfl⟩ := news_ints _ j u hu
          have hc := H.out.cells j hj
          have hc := (B.out.cell (World.block_lt_of_cell? w _ hc)).trans hc
          rw [show (⟨ga, oa, none⟩ : Addr).add j = ⟨ga, oa + j, none⟩ by simp only [Addr.add]; split <;> simp_all]
          exact hc
        have n1 : ∀ u ∈ xs.map (Value.int .i64), u.oneCell' = true := by
          intro u hu
          obtain ⟨z, -, rfl⟩ := List.mem_map.mp hu
          rfl
        have ln : (xs.map (Value.int .i64)).length = na := by rw [List.length_map, HX.out]
        obtain ⟨NW, hNW⟩ : ∃ l, xs.map (Value.int .i64) = l := ⟨_, rfl⟩
        rw [hNW] at news n1 ln
        have EN := Lib.hid hNW
        have N1 := Lib.hid n1
        have LN := Lib.hid ln
        have NS := Lib.hid news
        have HO := Lib.hid hown
        clear hNW n1 ln news hown OW
        go_wp2_with (at_builtin; refine wpList_append_own_at _ rfl _ _ 24 rfl w.heap.size 3 fi (.int .i64 0) 1 8 underlying_ints hfi hz0 hz1 hz2 rfl (by decide) _ _ _ rfl HO.out ⟨ga, oa, none⟩ na m NW ?hx ?hl ?hnews ?h1 ?h63 ?hbytes ?hbase ?hnext)
        case hx => rfl
        case hl => rw [LN.out, Nat.mul_one]
        case hnews => exact NS.out
        case h1 => exact N1.out
        case h63 => unfold maxLen; omega
        case hbytes => omega
        case hbase => exact B.out.size
        case hnext =>
          rintro v2 wr2 ho hg - -
          have O2 : wr2.ownsRow w.heap.size 3 1 v2 na (xs.map (Value.int .i64)) := by have := ho; rw [← EN.out] at this; simpa using this
          have B2 := Lib.hid (B.out.grown hg B.out.size (fun k hk => ownBlock_ge HO.out hk))
          have O2 := Lib.hid O2
          clear ho hg
          go_wp2_with fail
          go_roundw
          case rel => exact ⟨1, _, rfl, rfl, by omega, O2.out, B2.out⟩
          case measure => simp [intOf]
      | 1, _ =>
        have hown : wr.ownsRow w.heap.size 3 1 v na (xs.map (Value.int .i64)) := OW.out
        have PC : wr.cell? ⟨p, 1, none⟩ = some (.slice (some ⟨gb, ob, none⟩) nb n) := (B.out.cell (p := ⟨p, 1, none⟩) (World.block_lt_of_cell? w _ P1.out)).trans P1.out
        have news : ∀ (j : Nat) u, (ys.map (Value.int .i64))[j]? = some u → wr.cell? ((⟨gb, ob, none⟩ : Addr).add j) = some u := by
          intro j u hu
          obtain ⟨hj, rfl⟩ := news_ints _ j u hu
          have hc := H'.out.cells j hj
          have hc := (B.out.cell (World.block_lt_of_cell? w _ hc)).trans hc
          rw [show (⟨gb, ob, none⟩ : Addr).add j = ⟨gb, ob + j, none⟩ by simp only [Addr.add]; split <;> simp_all]
          exact hc
        have n1 : ∀ u ∈ ys.map (Value.int .i64), u.oneCell' = true := by
          intro u hu
          obtain ⟨z, -, rfl⟩ := List.mem_map.mp hu
          rfl
        have ln : (ys.map (Value.int .i64)).length = nb := by rw [List.length_map, HY.out]
        obtain ⟨NW, hNW⟩ : ∃ l, ys.map (Value.int .i64) = l := ⟨_, rfl⟩
        rw [hNW] at news n1 ln
        have EN := Lib.hid hNW
        have N1 := Lib.hid n1
        have LN := Lib.hid ln
        have NS := Lib.hid news
        have HO := Lib.hid hown
        clear hNW n1 ln news hown OW
        go_wp2_with (at_builtin; refine wpList_append_own_at _ rfl _ _ 24 rfl w.heap.size 3 fi (.int .i64 0) 1 8 underlying_ints hfi hz0 hz1 hz2 rfl (by decide) _ _ _ rfl HO.out ⟨gb, ob, none⟩ nb n NW ?hx ?hl ?hnews ?h1 ?h63 ?hbytes ?hbase ?hnext)
        case hx => rfl
        case hl => rw [LN.out, Nat.mul_one]
        case hnews => exact NS.out
        case h1 => exact N1.out
        case h63 => unfold maxLen; omega
        case hbytes => omega
        case hbase => exact B.out.size
        case hnext =>
          rintro v2 wr2 ho hg - -
          have O2 : wr2.ownsRow w.heap.size 3 1 v2 (na + nb) ((xs ++ ys).map (Value.int .i64)) := by have := ho; rw [← EN.out] at this; rw [List.map_append]; exact this
          have B2 := Lib.hid (B.out.grown hg B.out.size (fun k hk => ownBlock_ge HO.out hk))
          have O2 := Lib.hid O2
          clear ho hg
          go_wp2_with fail
          go_roundw
          case rel => exact ⟨2, _, rfl, rfl, by omega, O2.out, B2.out⟩
          case measure => simp [intOf]
      | 2, _ =>
        have own : Own w.heap.size wr v (xs ++ ys) := Own.of_row (by have := OW.out; simp only [lens, cats] at this; rw [List.length_append, HX.out, HY.out]; exact this) (by rw [List.length_append, HX.out, HY.out]; omega)
        have OO := Lib.hid own
        clear own OW
        go_wp2_with fail
        go_ret
        exact ⟨_, rfl, OO.out, B.out⟩
end Go.Proofs.Ytpladgojeijihaa
