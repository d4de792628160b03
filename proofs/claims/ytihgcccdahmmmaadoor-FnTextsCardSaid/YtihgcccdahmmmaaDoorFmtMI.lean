/-
  Chapter 4, in the program: the cells of a matrix as text: gapBefore, the step of the fold, the fold.
-/
import Derived.Test.YtihgcccdahmmmaaDoorFmtM
import Derived.Test.YtihgcccdahmmmaaDoorMatI
import Derived.Test.YtihgcccdahmmmaaDoorFr
import Derived.Lib.AppendStr
import Derived.StillTailTactics
import Derived.IntWalk
namespace Go.Proofs.YtihgcccdahmmmaaDoor
open Go.RowKit
open Go.Lib (decDigits itoa nDigits)

/-- What stands ahead of the cell in this row and column. -/
def gapT (r c : Nat) : List UInt8 := if 0 < c then [32] else if 0 < r then [59] else []
theorem gapT_len (r c : Nat) : (gapT r c).length ≤ 1 := by
  unfold gapT
  split
  · simp
  · split <;> simp
theorem iGap (r c : Nat) (w : World) : Calls Tryd.prog 40 #[.int .i64 r, .int .i64 c] w fun e w' => e = .returned (.string ⟨(gapT r c).toArray⟩) ∧ w = w' := by
  go_enter Tryd.func40, Tryd.ntmps40
  go_wp2_with fail
  all_goals
    go_ret
    exact ⟨by unfold gapT; simp_all, rfl⟩

theorem underlying_bys : Tryd.prog.underlying 22 = some (.slice 5) := by kernel_rfl
theorem underlying_str : Tryd.prog.underlying 9 = some .string := by kernel_rfl
theorem underlying_by : Tryd.prog.underlying 5 = some (.int .u8) := by kernel_rfl
theorem info_by : (Tryd.prog.info? 5).map (fun i => (i.zero, i.size, i.bytes)) = some (some (.int .u8 0), 1, 1) := by kernel_rfl
theorem facts_by : ∃ i, Tryd.prog.info? 5 = some i ∧ i.zero = some (.int .u8 0) ∧ i.size = 1 ∧ i.bytes = 1 := by
  obtain ⟨i, h, e⟩ := Option.map_eq_some_iff.mp info_by
  injection e with e1 e2
  injection e2 with e2 e3
  exact ⟨i, h, e1, e2, e3⟩
/-- The slice value v shows the bytes l, in a block of the call's own. -/
def Bys (B : Nat) (w : World) (v : Value) (l : List UInt8) : Prop := w.ownsRow B 5 1 v l.length (Lib.strCells ⟨l.toArray⟩)
theorem Bys.le {B : Nat} {w : World} {v : Value} {l : List UInt8} (h : Bys B w v l) {k : Nat} (hk : v.ownBlock = some k) : B ≤ k := by
  rcases h.2 with ⟨rfl, -⟩ | ⟨g, cap, cur, rfl, hB, -⟩
  · cases hk
  · simp [Value.ownBlock] at hk; omega
theorem Bys.ne_blk {B : Nat} {w : World} {v : Value} {l : List UInt8} {b : Nat} {p q r : Value} (h : Bys B w v l) (hb : Blk3 w b 26 p q r) {k : Nat} (hk : v.ownBlock = some k) : k ≠ b := by
  rcases h.2 with ⟨rfl, -⟩ | ⟨g, cap, cur, rfl, hB, hg, -⟩
  · cases hk
  · simp only [Value.ownBlock, Option.some.injEq] at hk
    subst hk
    rintro rfl
    unfold Blk3 at hb
    rw [hg] at hb
    injection hb with hb
    injection hb with _ h2 _
    exact absurd h2 (by decide)
theorem Bys.keep {B : Nat} {w w' : World} {v : Value} {l : List UInt8} (h : Bys B w v l) (hb : Below w.heap.size w w') : Bys B w' v l := by
  obtain ⟨h1, ⟨h2, h3⟩ | ⟨g, cap, cur, e, hB, hg, rest⟩⟩ := h
  · exact ⟨h1, .inl ⟨h2, h3⟩⟩
  · exact ⟨h1, .inr ⟨g, cap, cur, e, hB, (hb.block g (lt_of_block hg)).trans hg, rest⟩⟩
theorem Bys.drew {B : Nat} {w : World} {v : Value} {l : List UInt8} (h : Bys B w v l) : Bys B w.drew v l := h
theorem Bys.more {B : Nat} {w' : World} {v' : Value} {l p : List UInt8} (h : w'.ownsRow B 5 1 v' (l.length + (⟨p.toArray⟩ : ByteArray).size) (Lib.strCells ⟨l.toArray⟩ ++ Lib.strCells ⟨p.toArray⟩)) : Bys B w' v' (l ++ p) := by
  unfold Bys
  have e : Lib.strCells ⟨(l ++ p).toArray⟩ = Lib.strCells ⟨l.toArray⟩ ++ Lib.strCells ⟨p.toArray⟩ := by simp [Lib.strCells]
  rw [e, List.length_append]
  exact h
theorem Bys.form {B : Nat} {w : World} {v : Value} {l : List UInt8} (h : Bys B w v l) : ∃ a c, v = .slice a l.length c := by
  obtain ⟨h1, ⟨h2, h3⟩ | ⟨g, cap, cur, e, hB, hg, rest⟩⟩ := h
  · exact ⟨_, _, by rw [h2, h3]⟩
  · exact ⟨_, _, e⟩
theorem Bys.frs {w w' : World} {v : Value} {p : Nat → Prop} (hg : w.grownBy w' v.ownBlock) (hp : ∀ k, v.ownBlock = some k → p k) : FrS p w w' :=
  ⟨hg.os, hg.tape, hg.output, hg.size, fun k hk hn => hg.block k hk (fun e => hn (hp k e.symm))⟩
theorem Bys.new (w : World) (t : TypeId) (ht : t = 5) : Bys w.heap.size (w.alloc (.cells #[] t)) (.slice (some ⟨w.heap.size, 0, none⟩) 0 0) [] := by
  subst ht
  exact ⟨rfl, .inr ⟨w.heap.size, 0, #[], rfl, Nat.le_refl _, heap_alloc_new w _, Nat.le_refl _, by decide, rfl, rfl⟩⟩

/-- Where the step of the fold may write: from B on, but not into the matrix. -/
def AtB (B k0 : Nat) (k : Nat) : Prop := B ≤ k ∧ k ≠ k0

set_option maxRecDepth 20000 in
set_option maxHeartbeats 1000000 in
theorem iFM1 (B k0 r c : Nat) (z : Int) (l : List UInt8) (v p q s : Value) (w : World) (hv : Bys B w v l) (hk : Blk3 w k0 26 p q s) (hB : B ≤ w.heap.size) (hl : l.length ≤ 1000000) (hz : -9223372036854775808 ≤ z ∧ z ≤ 9223372036854775807) (tb : Tab w) (ht : 1 < B) :
    Calls Tryd.prog 39 #[v, .int .i64 r, .int .i64 c, .int .i64 z] w
      (fun e w' => ∃ v', e = .returned v' ∧ Bys B w' v' (l ++ gapT r c ++ itoa z) ∧ FrS (AtB B k0) w w') := by
  obtain ⟨fi, hfi, hz0, hz1, hz2⟩ := facts_by
  obtain ⟨g, hg⟩ : ∃ g, gapT r c = g := ⟨_, rfl⟩
  have gl : g.length ≤ 1 := by rw [← hg]; exact gapT_len r c
  have IG : ∀ w, Calls Tryd.prog 40 #[.int .i64 r, .int .i64 c] w fun e w' => e = .returned (.string ⟨g.toArray⟩) ∧ w = w' := fun w => by rw [← hg]; exact iGap r c w
  rw [hg]
  obtain ⟨hz3, hz4⟩ := hz
  have zl := itoa_len z hz3 hz4
  have SF : ∀ w, Tab w → Calls Tryd.prog 41 #[.int .i64 z] w (Gives (.string ⟨(itoa z).toArray⟩) w) := fun w tb => iFmt z w hz3 hz4 tb
  obtain ⟨q', hq'⟩ : ∃ q', itoa z = q' := ⟨_, rfl⟩
  rw [hq'] at zl SF ⊢
  have V := Lib.hid hv
  have K := Lib.hid hk
  have TB := Lib.hid tb
  have HB := Lib.hid hB
  have HT := Lib.hid ht
  have L := Lib.hid hl
  have GL := Lib.hid gl
  have ZL := Lib.hid zl
  have SFH := Lib.hid SF
  obtain ⟨a, cp, rfl⟩ := hv.form
  clear hv hk tb hB ht hl gl zl SF hg hq' hz3 hz4
  go_enter Tryd.func39, Tryd.ntmps39
  go_wp2_with fail
  refine (IG _).mono ?_
  rintro e w1 ⟨rfl, rfl⟩
  go_wp2_with (at_builtin; refine Lib.wpList_append_own_string _ rfl _ _ 22 9 rfl B 5 fi underlying_bys underlying_str hfi hz0 hz1 hz2 _ _ _ rfl V.out ⟨g.toArray⟩ rfl ?h63 ?hbytes ?hbase ?hnext)
  case h63 => have := L.out; have := GL.out; unfold maxLen; show l.length + g.length ≤ _; omega
  case hbytes => have := L.out; have := GL.out; show l.length + g.length ≤ _; omega
  case hbase => exact HB.out
  case hnext =>
    rintro v1 w1 ho hg -
    have V0 : Bys B w1 v1 (l ++ g) := Bys.more ho
    have M0 : (l ++ g).length ≤ 1000001 := by have := L.out; have := GL.out; rw [List.length_append]; omega
    obtain ⟨m1, hm1⟩ : ∃ m1, l ++ g = m1 := ⟨_, rfl⟩
    rw [hm1] at V0 M0
    have V1 : Hid (Bys B w1 v1 m1) := V0
    have ML := Lib.hid M0
    have HM := Lib.hid hm1
    have F1 : Hid (FrS (AtB B k0) w w1) := Bys.frs hg (fun k hk => ⟨V.out.le hk, V.out.ne_blk K.out hk⟩)
    have K1 : Hid (Blk3 w1 k0 26 p q s) := K.out.frs F1.out (fun h => h.2 rfl)
    have T1 : Hid (Tab w1) := var?_below (F1.out.below (B := B) (fun k h => h.1) HB.out) gTab HT.out TB.out
    obtain ⟨a1, c1, rfl⟩ := V1.out.form
    clear ho hg V0 M0 hm1
    go_wp2_with fail
    refine (SFH.out _ T1.out).mono ?_
    rintro e w2 ⟨rfl, hb⟩
    have V2 : Hid (Bys B w2 (.slice a1 m1.length c1) m1) := V1.out.keep hb
    have F2 : Hid (FrS (AtB B k0) w w2) := F1.out.trans (FrS.of_below hb)
    have K2 : Hid (Blk3 w2 k0 26 p q s) := K1.out.keep hb K1.out.lt
    clear hb
    go_wp2_with (at_builtin; refine Lib.wpList_append_own_string _ rfl _ _ 22 9 rfl B 5 fi underlying_bys underlying_str hfi hz0 hz1 hz2 _ _ _ rfl V2.out ⟨q'.toArray⟩ rfl ?h63 ?hbytes ?hbase ?hnext)
    case h63 => have := ML.out; have := ZL.out; unfold maxLen; show m1.length + q'.length ≤ _; omega
    case hbytes => have := ML.out; have := ZL.out; show m1.length + q'.length ≤ _; omega
    case hbase => exact Nat.le_trans HB.out F2.out.size
    case hnext =>
      rintro v3 w3 ho hg -
      have V3 : Hid (Bys B w3 v3 (l ++ g ++ q')) := by rw [HM.out]; exact Bys.more ho
      have F3 : Hid (FrS (AtB B k0) w w3) := F2.out.trans (Bys.frs hg (fun k hk => ⟨V2.out.le hk, V2.out.ne_blk K2.out hk⟩))
      clear ho hg
      go_wp2_with fail
      go_ret
      exact ⟨_, rfl, V3.out, F3.out⟩
theorem mtx_gap (C : Nat) (xs : List Int) (k : Nat) (hC : 0 < C) : mtx [] C xs (k + 1) = mtx [] C xs k ++ gapT (k / C) (k % C) ++ itoa (xs.getD k 0) := by
  have e : mtx [] C xs (k + 1) = (if 0 < k ∧ k % C = 0 then mtx [] C xs k ++ [59] else if 0 < k then mtx [] C xs k ++ [32] else mtx [] C xs k) ++ itoa (xs.getD k 0) := rfl
  rw [e]
  congr 1
  unfold gapT
  rcases Nat.eq_zero_or_pos k with h | h
  · subst h
    rw [Nat.zero_mod, Nat.zero_div]
    simp
  · rcases Nat.eq_zero_or_pos (k % C) with h2 | h2
    · have h3 : 0 < k / C := Nat.div_pos (Nat.le_of_dvd h (Nat.dvd_of_mod_eq_zero h2)) hC
      rw [if_pos ⟨h, h2⟩, if_neg (by omega), if_pos h3]
    · rw [if_neg (by omega), if_pos h, if_pos h2]
theorem mtx_head (t : List UInt8) (C : Nat) (xs : List Int) (i : Nat) : mtx t C xs i = t ++ mtx [] C xs i := by
  induction i with
  | zero => simp [mtx]
  | succ i ih =>
    unfold mtx
    rw [ih]
    split
    · simp
    · split <;> simp

set_option maxRecDepth 20000 in
set_option maxHeartbeats 1000000 in
theorem iFoldY (B R C n : Nat) (a : Option Addr) (cap : Nat) (zs : List Int) (v0 : Value) (w : World) (hx : zs.length = n) (h : Rd w a zs) (hn : n = R * C) (hR : R ≤ 24) (hC : C ≤ 24) (hv : Bys B w v0 []) (hz : ∀ b o : Nat, a = some ⟨b, o, none⟩ → 0 < n → b < B) (hr : I64 zs) (hB : B ≤ w.heap.size) (tb : Tab w) (ht : 1 < B) :
    Calls Tryd.prog 38 #[.agg #[.int .i64 R, .int .i64 C, .slice a n cap], v0, .func (.func 39) #[] #[]] w
      (fun e w' => ∃ v, e = .returned v ∧ Bys B w' v (mtx [] C zs n) ∧ FrS (fun k => B ≤ k) w w') := by
  have H := Lib.hid h
  have HZ := Lib.hid hz
  have HI := Lib.hid hr
  have HB := Lib.hid hB
  have HT := Lib.hid ht
  have TB := Lib.hid (tb.below ((Below.refl _ _).alloc (Nat.le_refl _) (.cells #[.int .i64 R, .int .i64 C, .slice a n cap] 26)))
  have hle : R * C ≤ 24 * 24 := Nat.mul_le_mul hR hC
  have HN := Lib.hid hx
  rw [← hn] at hle
  have HM := Lib.hid hn
  have V0 : Hid (Bys B (w.alloc (.cells #[.int .i64 R, .int .i64 C, .slice a n cap] 26)) v0 []) := hv.keep ((Below.refl _ _).alloc (Nat.le_refl _) _)
  have B0 : Hid (Below w.heap.size w (w.alloc (.cells #[.int .i64 R, .int .i64 C, .slice a n cap] 26))) := (Below.refl _ _).alloc (Nat.le_refl _) _
  have K0 : Hid (Blk3 (w.alloc (.cells #[.int .i64 R, .int .i64 C, .slice a n cap] 26)) w.heap.size 26 (.int .i64 R) (.int .i64 C) (.slice a n cap)) := Blk3.at_ _ _ _ _ rfl
  obtain ⟨a0, c0, rfl⟩ := hv.form
  clear h hz hx hn hv hr hB tb ht
  go_enter Tryd.func38, Tryd.ntmps38
  go_wp2_with fail
  go_loopw [7, 8, 9, 14] (fun v _ _ i wr => ∃ (k : Nat) (v' : Value), v' = v ∧ i = .int .i64 k ∧ k ≤ n ∧ Bys B wr v' (mtx [] C zs k) ∧ FrS (AtB B w.heap.size) (w.alloc (.cells #[.int .i64 R, .int .i64 C, .slice a n cap] 26)) wr) (fun _ _ _ i _ => n - (intOf i).toNat)
  case atStart => exact ⟨0, _, rfl, rfl, by omega, V0.out, FrS.refl _ _⟩
  case round =>
    clear V0
    obtain ⟨k, v, rfl, rfl, hk, hv, hf⟩ := hrel
    have V := Lib.hid hv
    have F := Lib.hid hf
    have KB : Hid (Blk3 wr w.heap.size 26 (.int .i64 R) (.int .i64 C) (.slice a n cap)) := K0.out.frs hf (fun h => h.2 rfl)
    have BW : Hid (Below B w wr) := (Below.mono B0.out HB.out).trans (hf.below (B := B) (fun k h => h.1) (by have := HB.out; simp; omega))
    have TW : Hid (Tab wr) := var?_below (hf.below (B := B) (fun k h => h.1) (by have := HB.out; simp; omega)) gTab HT.out TB.out
    obtain ⟨l, hl⟩ : ∃ l, mtx [] C zs k = l := ⟨_, rfl⟩
    have LN : Hid (l.length ≤ 1000000) := by
      have := mtx_len (t := []) (C := C) HI.out k
      rw [hl] at this
      exact Lib.hid (by simp only [List.length_nil] at this; omega)
    rw [hl] at V
    have LE := Lib.hid hl
    clear hv hf hl
    by_cases hlt : k < n
    · have hC0 : 0 < C := by
        rcases Nat.eq_zero_or_pos C with e | e
        · have := HM.out; rw [e, Nat.mul_zero] at this; omega
        · exact e
      have c0 : ((C : Int) == 0) = false := by simp; omega
      obtain ⟨b, o, rfl, hcell⟩ := H.out k (by rw [HN.out]; exact hlt)
      have hcell := (BW.out.cell (p := ⟨b, o + k, none⟩) (HZ.out b o rfl (by omega))).trans hcell
      have d1 : (k : Int) / (C : Int) = ((k / C : Nat) : Int) := (Int.natCast_ediv k C).symm
      have d2 : (k : Int) % (C : Int) = ((k % C : Nat) : Int) := (Int.natCast_emod k C).symm
      have d3 : k / C ≤ k := Nat.div_le_self k C
      have d4 : k % C ≤ k := Nat.mod_le k C
      have d5 : 0 ≤ (k : Int) / (C : Int) := by rw [d1]; exact Int.natCast_nonneg _
      have d6 : (k : Int) / (C : Int) ≤ 600 := by rw [d1]; exact Int.ofNat_le.mpr (show k / C ≤ 600 by omega)
      have c1 : ¬ C = 0 := by omega
      have w1 : IntKind.i64.wrap ((k : Int) / (C : Int)) = (k : Int) / (C : Int) := IntWalk.i64_in _ (by omega)
      have e2 : Int.tmod (k : Int) (C : Int) = (k : Int) % (C : Int) := Int.tmod_eq_emod_of_nonneg (by omega)
      have e3 : Int.tdiv (k : Int) (C : Int) = (k : Int) / (C : Int) := Int.tdiv_eq_ediv_of_nonneg (by omega)
      have DD := Lib.hid (And.intro d1 d2)
      clear d1 d2
      obtain ⟨z, hz⟩ : ∃ z, zs.getD k 0 = z := ⟨_, rfl⟩
      rw [hz] at hcell
      have Z := Lib.hid hz
      have ZI : Hid (-9223372036854775808 ≤ z ∧ z ≤ 9223372036854775807) := by rw [← hz]; exact Lib.hid (HI.out k)
      have NX : Hid (mtx [] C zs (k + 1) = l ++ gapT (k / C) (k % C) ++ itoa z) := by rw [← LE.out, ← hz]; exact Lib.hid (mtx_gap C zs k hC0)
      clear hz
      obtain ⟨r0, r1, r2, -, -, -⟩ := KB.out.all
      obtain ⟨va, vc, rfl⟩ := V.out.form
      go_wp2_with fail
      go_still_tail 11, (by kernel_rfl)
      go_wp2_with fail
      rw [DD.out.1, DD.out.2]
      refine (iFM1 B w.heap.size (k / C) (k % C) z l _ _ _ _ _ V.out.drew KB.out.drew (Nat.le_trans HB.out (by have := F.out.size; simp at this ⊢; omega)) LN.out ZI.out TW.out HT.out).mono ?_
      rintro e w2 ⟨v2, rfl, hv2, hf2⟩
      have V2 := Lib.hid hv2
      have F2 := Lib.hid (F.out.drew.trans hf2)
      clear hv2 hf2
      go_wp2_with fail
      go_roundw
      case rel => exact ⟨k + 1, _, rfl, by go_num, by omega, by rw [NX.out]; exact V2.out, F2.out⟩
      case measure => simp [intOf]; omega
    · obtain rfl : n = k := by omega
      obtain ⟨va, vc, rfl⟩ := V.out.form
      have FW : Hid (FrS (fun k => B ≤ k) w wr) := (FrS.of_below B0.out).trans (F.out.mono fun k h => h.1)
      go_wp2_with fail
      go_ret
      exact ⟨_, rfl, by rw [LE.out]; exact V.out, FW.out⟩
end Go.Proofs.YtihgcccdahmmmaaDoor
