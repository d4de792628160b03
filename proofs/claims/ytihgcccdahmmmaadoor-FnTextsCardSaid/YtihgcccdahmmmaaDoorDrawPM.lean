/-
  The drawing of a matrix's text, spoiled or not.
-/
import Derived.Test.YtihgcccdahmmmaaDoorDraw
import Derived.Test.YtihgcccdahmmmaaDoorDraw5
import Derived.Test.YtihgcccdahmmmaaDoorTextRead
import Derived.Deep.RegionWith
namespace Go.Proofs.YtihgcccdahmmmaaDoor
open Go.RowKit
open Go.Lib (decDigits itoa nDigits)

/-- A list of texts of at most m bytes lies in block lb. -/
def TxtList (m : Nat) (w : World) (lb n : Nat) : Prop := ∀ k : Nat, k < n → ∃ z : List UInt8, w.cell? ⟨lb, k, none⟩ = some (.string ⟨z.toArray⟩) ∧ z.length ≤ m
theorem TxtList.one {m : Nat} {w w' : World} {lb n cb : Nat} (h : TxtList m w lb n) (hg : w.grownBy w' (some cb)) (hne : lb ≠ cb) : TxtList m w' lb n := fun k hk => by
  obtain ⟨z, hz, hp⟩ := h k hk
  exact ⟨z, hg.cell hz (by simpa using hne), hp⟩
/-- A text of at most m bytes; only the cursor has moved. -/
def CurTxt (m cb : Nat) (w : World) (e : Ending) (w' : World) : Prop := ∃ z : List UInt8, z.length ≤ m ∧ e = .returned (.string ⟨z.toArray⟩) ∧ Cur w' cb ∧ w.grownBy w' (some cb)

set_option maxRecDepth 20000 in
set_option maxHeartbeats 400000 in
theorem l1PickTxt (m : Nat) (w : World) (cb lb n : Nat) (hc : Cur w cb) (hl : TxtList m w lb n) (h1 : 0 < n) (h2 : n ≤ 1000000) (hne : lb ≠ cb) :
    Calls Tryd.prog 49 #[.pointer (some ⟨cb, 0, none⟩), .slice (some ⟨lb, 0, none⟩) n n] w (CurTxt m cb w) := by
  have HC := Lib.hid hc
  have HL := Lib.hid hl
  clear hc hl
  go_enter Tryd.func49, Tryd.ntmps49
  go_wp2_with (fail)
  refine (l1Below w cb n HC.out (by omega)).mono ?_
  rintro e w1 ⟨r, ⟨r0, r1⟩, rfl, hc1, hg1⟩
  obtain ⟨k, rfl⟩ := Int.eq_ofNat_of_zero_le r0
  obtain ⟨z, hz, hp⟩ := (HL.out.one hg1 hne) k (by omega)
  have C1 := Lib.hid hc1
  have G1 := Lib.hid hg1
  have HP := Lib.hid hp
  have hk : k < n := by omega
  clear hc1 hg1 hp
  go_wp2_with (fail)
  go_ret
  exact ⟨z, HP.out, rfl, C1.out, G1.out⟩
theorem TxtList.new {m : Nat} (zs : List (List UInt8)) (hz : ∀ z, z ∈ zs → z.length ≤ m) (w : World) (t : TypeId) : TxtList m (w.alloc (.cells (zs.map fun z => Value.string ⟨z.toArray⟩).toArray t)) w.heap.size zs.length := fun k hk => by
  refine ⟨zs[k], ?_, hz _ (List.getElem_mem hk)⟩
  have e := heap_alloc_new w (.cells (zs.map fun z => Value.string ⟨z.toArray⟩).toArray t)
  unfold World.cell?
  simp only [e]
  simp [hk]

theorem fmtM_len (r c : Int) (xs : List Int) : (fmtM r c xs).length ≤ 8000 := by
  unfold fmtM
  split
  · rename_i h
    obtain ⟨⟨r1, r2⟩, ⟨c1, c2⟩, -, -⟩ := isMat_says h
    obtain ⟨R, rfl⟩ := Int.eq_ofNat_of_zero_le r1
    obtain ⟨C, rfl⟩ := Int.eq_ofNat_of_zero_le c1
    exact matText_len h
  · exact Nat.zero_le _
/-- Some text of at most m bytes; of what was there nothing has changed. -/
def SomeTxt (m : Nat) (w : World) (e : Ending) (w' : World) : Prop := ∃ z : List UInt8, z.length ≤ m ∧ e = .returned (.string ⟨z.toArray⟩) ∧ Below w.heap.size w w'

set_option maxRecDepth 20000 in
set_option maxHeartbeats 1000000 in
theorem drawPM (w : World) (a : Option Addr) (len cap : Nat) (hc : CodeIn w a len) : Calls Tryd.prog 15 #[.slice a len cap] w (SomeTxt 8001 w) := by
  have HC := Lib.hid hc
  clear hc
  go_enter Tryd.func15, Tryd.ntmps15
  go_wp2_with fail
  refine (l1New _ a len cap HC.out).mono ?_
  rintro e w1 ⟨cb, rfl, hcb, hc1, hb1⟩
  have C1 := Lib.hid hc1
  have B1 := Lib.hid hb1
  have CB := Lib.hid hcb
  clear hc1 hb1 hcb
  go_wp2_with fail
  refine (l3Any _ cb C1.out).mono ?_
  rintro e w2 ⟨r, c, v, xs, rfl, own, hl, hc2, hf⟩
  obtain ⟨q, qc, rfl, hrd, -⟩ := (own.own (by omega)).form
  have C2 := Lib.hid hc2
  have F := Lib.hid hf
  have R2 := Lib.hid hrd
  have hx : xs.length ≤ 16777216 := by omega
  have FM := sFormatMatrix r c q qc xs w2 hrd hx
  have ft := fmtM_len r c xs
  obtain ⟨t, ht⟩ : ∃ t, fmtM r c xs = t := ⟨_, rfl⟩
  rw [ht] at FM ft
  clear ht hc2 hf hrd own hx hl
  go_wp2_with fail
  refine FM.mono ?_
  clear FM
  rintro e w3 ⟨rfl, hb3⟩
  have C3 : Hid (Cur w3 cb) := Lib.hid (C2.out.grown (grown_of_below hb3 none) (by simp))
  have B3 : Hid (Below w.heap.size w w3) := Lib.hid ((B1.out.trans (F.out.below (fun k hk => by
    have := CB.out
    have := B1.out.size
    rcases hk with rfl | hk <;> omega) B1.out.size)).trans (hb3.mono (by have := B1.out.size; have := F.out.size; omega)))
  clear hb3
  have FT : Hid (t.length ≤ 8000) := Lib.hid ft
  have f1 : (t.length : Int) ≤ 8000 := by omega
  clear ft
  rcases Nat.eq_zero_or_pos t.length with h0 | h0
  · have d0 : decide ((0 : Int) < t.length) = false := decide_eq_false (by omega)
    have d1 : decide (0 < t.length) = false := decide_eq_false (by omega)
    go_wp2_with fail
    go_ret
    exact ⟨t, by have := FT.out; omega, rfl, B3.out⟩
  · have d0 : decide ((0 : Int) < t.length) = true := decide_eq_true (by omega)
    have H0 := Lib.hid h0
    clear h0
    go_wp2_with fail
    refine (l1Once w3 cb 3 C3.out (by omega)).mono ?_
    rintro e w4 ⟨rb, rfl, hc4, hg4⟩
    have C4 := Lib.hid hc4
    have B4 : Hid (Below w.heap.size w w4) := Lib.hid (B3.out.grown hg4 B3.out.size (fun k hk => by injection hk with hk; have := CB.out; omega))
    clear hc4 hg4
    cases rb with
    | false =>
      go_wp2_with fail
      go_ret
      exact ⟨t, by have := FT.out; omega, rfl, B4.out⟩
    | true =>
      go_wp2_with fail
      refine (l1Below w4 cb t.length C4.out (by have := H0.out; omega)).mono ?_
      rintro e w5 ⟨rk, ⟨k0, k1⟩, rfl, hc5, hg5⟩
      obtain ⟨k, rfl⟩ := Int.eq_ofNat_of_zero_le k0
      have C5 := Lib.hid hc5
      have B5 : Hid (Below w.heap.size w w5) := Lib.hid (B4.out.grown hg5 B4.out.size (fun k hk => by injection hk with hk; have := CB.out; omega))
      have LT := hc5.lt
      clear hc5 hg5
      obtain ⟨t1, e1⟩ : ∃ t1, t.take k = t1 := ⟨_, rfl⟩
      obtain ⟨t2, e2⟩ : ∃ t2, t.drop (k + 1) = t2 := ⟨_, rfl⟩
      have s1 : ∀ w : World, (Instr.slice 9 (.string ⟨t.toArray⟩) none (some (.int .i64 k)) none).run Tryd.prog w = .ok (.string ⟨t1.toArray⟩) w := by
        intro w
        have e := run_slice_string_h (P := Tryd.prog) (t := 9) (w := w) (ht := Tryd.underlying9) (s := ⟨t.toArray⟩) .i64 (k : Int) (by omega) (by show (k : Int) ≤ t.length; omega)
        rw [e, ByteArray.extract_mk, ← e1]
        rfl
      have s2 : ∀ w : World, (Instr.slice 9 (.string ⟨t.toArray⟩) (some (.int .i64 ((k : Int) + 1))) none none).run Tryd.prog w = .ok (.string ⟨t2.toArray⟩) w := by
        intro w
        have e := run_slice_string_l (P := Tryd.prog) (t := 9) (w := w) (ht := Tryd.underlying9) (s := ⟨t.toArray⟩) .i64 ((k : Int) + 1) (by omega) (by show (k : Int) + 1 ≤ t.length; omega)
        rw [e, ByteArray.extract_mk, ← e2]
        show Result.ok (Value.string ⟨((t.drop (k + 1)).take (t.length - (k + 1))).toArray⟩) w = _
        rw [List.take_of_length_le (by simp)]
      have q1 : t1.length ≤ k := by rw [← e1]; simp; omega
      have q2 : t2.length + k + 1 = t.length := by rw [← e2]; simp; omega
      have CA := Lib.hid (fun z (hz : z.length ≤ 1) => cat_eq t1 z (t1 ++ z) rfl (by have := FT.out; omega))
      have CZ := Lib.hid (fun z (hz : z.length ≤ 1) => cat_eq (t1 ++ z) t2 (t1 ++ z ++ t2) rfl (by have := FT.out; rw [List.length_append]; omega))
      have Q : Hid (∀ z : List UInt8, z.length ≤ 1 → (t1 ++ z ++ t2).length ≤ 8001) := Lib.hid (fun z hz => by have := FT.out; rw [List.length_append, List.length_append]; omega)
      have LX : Hid (∀ n, TxtList 1 ((w5.alloc (.cells ([[], [32], [59], [48], [45], [120]].map fun z : List UInt8 => Value.string ⟨z.toArray⟩).toArray 9)).drewN n) w5.heap.size 6) := Lib.hid (fun n => TxtList.new (m := 1) [[], [32], [59], [48], [45], [120]] (by decide) w5 9)
      have CX : Hid (∀ n, Cur ((w5.alloc (.cells ([[], [32], [59], [48], [45], [120]].map fun z : List UInt8 => Value.string ⟨z.toArray⟩).toArray 9)).drewN n) cb) := Lib.hid (fun n => C5.out.alloc _)
      have B6 : Hid (∀ n, Below w.heap.size w ((w5.alloc (.cells ([[], [32], [59], [48], [45], [120]].map fun z : List UInt8 => Value.string ⟨z.toArray⟩).toArray 9)).drewN n)) := Lib.hid (fun n => ⟨B5.out.os, B5.out.tape, B5.out.output, (B5.out.alloc B5.out.size _).size, (B5.out.alloc B5.out.size _).block⟩)
      have kk : (k : Int) ≤ 8000 := by omega
      have wk : IntKind.i64.wrap ((k : Int) + 1) = (k : Int) + 1 := IntWalk.i64_in _ (by omega)
      clear e1 e2 q1 q2
      go_wp2_with fail
      go_region_with (first | (go_at_call 49; refine (l1PickTxt 1 _ cb w5.heap.size 6 (CX.out 1) (LX.out 1) (by omega) (by omega) (by omega)).mono ?_; rintro e w6 ⟨z, hz, rfl, hc6, hg6⟩; have ca := CA.out z hz; have cz := CZ.out z hz; have B7 := Lib.hid ((B6.out 1).grown hg6 (by have := B5.out.size; simp; omega) (fun k hk => by injection hk with hk; have := CB.out; omega)); have QZ := Lib.hid (Q.out z hz); clear hz hc6 hg6))
      go_wp2_with fail
      go_ret
      exact ⟨t1 ++ (z ++ t2), by rw [← List.append_assoc]; exact QZ.out, rfl, B7.out⟩
end Go.Proofs.YtihgcccdahmmmaaDoor
