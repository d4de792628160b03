/-
  Chapter 4, in the model: a text cut at marks.
-/
import Derived.Test.YtihgcccdahmmmaaDoorBlk
import Derived.Test.YtihgcccdahmmmaaDoorSplitMath
import Derived.Maps.AppendAt
import Derived.OwnWalk
import Derived.BigQuiet
import Derived.Deep.QuietTactic
import Derived.KernelRfl
namespace Go.Proofs.YtihgcccdahmmmaaDoor
open Go.RowKit

theorem underlying_strs : Tryd.prog.underlying 71 = some (.slice 9) := by kernel_rfl
theorem info_str : (Tryd.prog.info? 9).map (fun i => (i.zero, i.size, i.bytes)) = some (some (.string ⟨#[]⟩), 1, 16) := by kernel_rfl
theorem facts_str : ∃ i, Tryd.prog.info? 9 = some i ∧ i.zero = some (.string ⟨#[]⟩) ∧ i.size = 1 ∧ i.bytes = 16 := by
  obtain ⟨i, h, e⟩ := Option.map_eq_some_iff.mp info_str
  injection e with e1 e2
  injection e2 with e2 e3
  exact ⟨i, h, e1, e2, e3⟩
/-- A text as a value. -/
def strV (l : List UInt8) : Value := .string ⟨l.toArray⟩
theorem ownB_ge {w : World} {base n k : Nat} {e : TypeId} {size : Nat} {v : Value} {xs : List Value} (h : w.ownsRow base e size v n xs) (hk : v.ownBlock = some k) : base ≤ k := by
  rcases h.2 with ⟨rfl, -⟩ | ⟨g, cap, cur, rfl, hB, -⟩
  · cases hk
  · simp [Value.ownBlock] at hk; omega
/-- A slice of texts of the call's own. -/
def Texts (B : Nat) (w : World) (v : Value) (ls : List (List UInt8)) : Prop := w.ownsRow B 9 1 v ls.length (ls.map strV)
theorem Texts.keep {B : Nat} {w w' : World} {v : Value} {ls : List (List UInt8)} (h : Texts B w v ls) (hb : Below w.heap.size w w') : Texts B w' v ls := by
  unfold Texts at h ⊢
  rcases h with ⟨h1, ⟨h2, h3⟩ | ⟨g, cap, cur, e, hB, hg, rest⟩⟩
  · exact ⟨h1, .inl ⟨h2, h3⟩⟩
  · exact ⟨h1, .inr ⟨g, cap, cur, e, hB, (hb.block g (lt_of_block hg)).trans hg, rest⟩⟩
theorem Texts.more {B : Nat} {w' : World} {v' : Value} {ls : List (List UInt8)} {p : List UInt8} (h : w'.ownsRow B 9 1 v' (ls.length + 1) (ls.map strV ++ [strV p])) : Texts B w' v' (ls ++ [p]) := by
  unfold Texts
  rw [List.length_append, List.map_append]
  exact h

set_option maxRecDepth 20000 in
set_option maxHeartbeats 1000000 in
theorem sSplit (s ms : List UInt8) (w : World) (hs : s.length ≤ 16777216) (hm : ms.length ≤ 1000) :
    Calls Tryd.prog 57 #[.string ⟨s.toArray⟩, .string ⟨ms.toArray⟩] w fun e w' => ∃ v, e = .returned v ∧ Texts w.heap.size w' v (split ms s) ∧ Below w.heap.size w w' := by
  obtain ⟨fi, hfi, hz0, hz1, hz2⟩ := facts_str
  have hs1 : (s.length : Int) ≤ 16777216 := by omega
  have hm1 : (ms.length : Int) ≤ 1000 := by omega
  clear hs hm
  have own0 : (w.alloc (.cells #[] 9)).ownsRow w.heap.size 9 1 (.slice (some ⟨w.heap.size, 0, none⟩) 0 0) 0 [] :=
    ⟨rfl, .inr ⟨w.heap.size, 0, #[], rfl, Nat.le_refl _, heap_alloc_new w _, Nat.le_refl _, by decide, rfl, rfl⟩⟩
  have OW0 := Lib.hid own0
  have B0 : Hid (Below w.heap.size w (w.alloc (.cells #[] 9))) := Lib.hid ((Below.refl _ _).alloc (Nat.le_refl _) _)
  clear own0
  go_enter Tryd.func57, Tryd.ntmps57
  go_wp2_with fail
  go_loopw [5, 6, 7] (fun s5 f x wr => ∃ (i g : Nat) (v : Value), v = s5 ∧ f = .int .i64 g ∧ x = .int .i64 i ∧ i ≤ s.length + 1 ∧ Open ms s i g ∧ Texts w.heap.size wr v (pcs ms s i) ∧ Below w.heap.size w wr) (fun _ _ x _ => s.length + 1 - (intOf x).toNat)
  case atStart => exact ⟨0, 0, _, rfl, rfl, rfl, by omega, open_zero _ _, by show Texts _ _ _ []; exact OW0.out, B0.out⟩
  case round =>
    clear OW0 B0
    obtain ⟨i, g, v, rfl, rfl, rfl, hi, hop, htx, hbl⟩ := hrel
    have OP := Lib.hid hop
    have TX := Lib.hid htx
    have B := Lib.hid hbl
    clear hop htx hbl
    rcases Nat.lt_trichotomy i s.length with hlt | heq | hgt
    · obtain ⟨b, hb⟩ : ∃ b, s[i]'hlt = b := ⟨_, rfl⟩
      have i0 : (0 : Int) ≤ i := by omega
      have i1 : (i : Int) ≤ s.length := by omega
      have i2 : (i : Int) < s.length := by omega
      have i3 : ((i : Int) == (s.length : Int)) = false := by simp; omega
      have ix : ∀ w : World, (Instr.index 9 (.string ⟨s.toArray⟩) (.int .i64 i)).run Tryd.prog w = .ok (.int .u8 b.toNat) w := by
        intro w
        rw [run_index_string w 9 _ _ _ Tryd.underlying9, dif_pos ⟨i0, i2⟩, ← hb]
        rfl
      have HI : Hid (i + 1 ≤ s.length + 1) := Lib.hid (by omega)
      have PL : Hid ((pcs ms s i).length ≤ 16777217) := Lib.hid (by
        have h1 := pcs_len ms s i
        unfold pcs
        rw [if_pos (by omega)]
        omega)
      have GI : Hid (g ≤ i) := Lib.hid (OP.out (by omega)).1
      have CUT : Hid (ms.contains b = true → Open ms s (i + 1) (i + 1) ∧ pcs ms s (i + 1) = pcs ms s i ++ [(s.drop g).take (i - g)]) := Lib.hid (fun h => open_cut OP.out hlt (by rw [hb]; exact h))
      have SKIP : Hid (ms.contains b = false → Open ms s (i + 1) g ∧ pcs ms s (i + 1) = pcs ms s i) := Lib.hid (fun h => open_skip OP.out hlt (by rw [hb]; exact h))
      have SL : Hid (∀ w : World, (Instr.slice 9 (.string ⟨s.toArray⟩) (some (.int .i64 g)) (some (.int .i64 i)) none).run Tryd.prog w = .ok (.string ⟨((s.drop g).take (i - g)).toArray⟩) w) := Lib.hid (fun w => by
        have h1 := GI.out
        rw [run_slice_string (P := Tryd.prog) w 9 ⟨s.toArray⟩ .i64 .i64 (g : Int) (i : Int) Tryd.underlying9 (by omega) (by omega) (by show (i : Int) ≤ s.length; omega), ByteArray.extract_mk]
        rfl)
      clear hb hlt hi
      go_wp2_with fail
      go_loopw [8, 9] (fun c x wr2 => ∃ (k m : Nat), x = .int .i64 k ∧ c = .bool ((ms.take k).contains b) ∧ k ≤ ms.length ∧ wr2 = wr.drewN m) (fun _ x _ => ms.length - (intOf x).toNat)
      case atStart => exact ⟨0, 0, rfl, by simp, Nat.zero_le _, rfl⟩
      case round =>
        obtain ⟨k, m, rfl, rfl, hk, rfl⟩ := hrel
        rcases Nat.lt_or_ge k ms.length with hkl | hkg
        · have k2 : (k : Int) < ms.length := by omega
          have k0 : (0 : Int) ≤ k := by omega
          have AT := Lib.hid (any_take ms b k hkl)
          obtain ⟨y, hy⟩ : ∃ y, ms[k]'hkl = y := ⟨_, rfl⟩
          have iy : ∀ w : World, (Instr.index 9 (.string ⟨ms.toArray⟩) (.int .i64 k)).run Tryd.prog w = .ok (.int .u8 y.toNat) w := by
            intro w
            rw [run_index_string w 9 _ _ _ Tryd.underlying9, dif_pos ⟨k0, k2⟩, ← hy]
            rfl
          have AT2 : Hid ((ms.take (k + 1)).contains b = ((ms.take k).contains b || (y.toNat == b.toNat))) := Lib.hid (by rw [AT.out, hy])
          have HK := Lib.hid hkl
          clear AT hy hkl hk
          obtain ⟨c, hc⟩ : ∃ c, (ms.take k).contains b = c := ⟨_, rfl⟩
          have C := Lib.hid hc
          rw [hc]
          clear hc
          cases c with
          | true =>
            go_wp2_with fail
            go_quiet (fail)
            go_wp2_with fail
            go_roundw
            case rel => exact ⟨k + 1, _, by go_num, by rw [AT2.out, C.out]; rfl, HK.out, rfl⟩
            case measure => have := HK.out; simp [intOf]; omega
          | false =>
            go_wp2_with fail
            go_quiet (fail)
            go_wp2_with fail
            go_roundw
            case rel => exact ⟨k + 1, _, by go_num, by rw [AT2.out, C.out, Bool.false_or]; exact congrArg Value.bool (by rw [Bool.eq_iff_iff, beq_iff_eq, beq_iff_eq]; omega), HK.out, rfl⟩
            case measure => have := HK.out; simp [intOf]; omega
        · obtain rfl : k = ms.length := by omega
          rw [List.take_length]
          have BW : ∀ o, Below wr.heap.size wr ((wr.drewN m).alloc o) := fun o => ⟨rfl, rfl, rfl, by simp, fun k hk => Below.heap_alloc (wr.drewN m) o k hk⟩
          clear ix hkg hk
          obtain ⟨c, hc⟩ : ∃ c, ms.contains b = c := ⟨_, rfl⟩
          have C := Lib.hid hc
          rw [hc]
          clear hc
          cases c with
          | false =>
            have NX := Lib.hid (SKIP.out C.out)
            have O2 : Hid (Texts w.heap.size (wr.drewN m) v (pcs ms s (i + 1))) := Lib.hid (by rw [NX.out.2]; exact TX.out)
            have B2 : Hid (Below w.heap.size w (wr.drewN m)) := Lib.hid ⟨B.out.os, B.out.tape, B.out.output, B.out.size, B.out.block⟩
            clear BW
            go_wp2_with fail
            go_roundw
            case rel => exact ⟨i + 1, g, _, rfl, rfl, by go_num, HI.out, NX.out.1, O2.out, B2.out⟩
            case measure => have := HI.out; simp [intOf]; omega
          | true =>
            have NX := Lib.hid (CUT.out C.out)
            obtain ⟨p, hp⟩ : ∃ p, (s.drop g).take (i - g) = p := ⟨_, rfl⟩
            rw [hp] at SL NX
            have BWH := Lib.hid BW
            clear BW hp CUT SKIP
            have sl : ∀ w : World, (Instr.slice 9 (.string ⟨s.toArray⟩) (some (.int .i64 g)) (some (.int .i64 i)) none).run Tryd.prog w = .ok (.string ⟨p.toArray⟩) w := fun w => SL.out w
            have TX2 : Hid (Texts w.heap.size ((wr.drewN m).alloc (.cells #[.string ⟨p.toArray⟩] 9)) v (pcs ms s i)) := Lib.hid (TX.out.keep (BWH.out _))
            go_wp2_with (at_builtin; refine wpList_append_own_at _ rfl _ _ 71 rfl w.heap.size 9 fi (.string ⟨#[]⟩) 1 16 underlying_strs hfi hz0 hz1 hz2 rfl (by decide) _ _ _ rfl TX2.out ⟨(wr.drewN m).heap.size, 0, none⟩ 1 1 [strV p] ?hx ?hl ?hnews ?h1 ?h63 ?hbytes ?hbase ?hnext)
            case hx => rfl
            case hl => rfl
            case hnews => exact cell_one_new _ _ _
            case h1 => intro u hu; obtain rfl := List.mem_singleton.mp hu; rfl
            case h63 => have := PL.out; unfold maxLen; omega
            case hbytes => have := PL.out; omega
            case hbase => have := B.out.size; simp; omega
            case hnext =>
              rintro v2 wr2 ho hg - -
              have O2 : Hid (Texts w.heap.size wr2 v2 (pcs ms s (i + 1))) := by
                refine Lib.hid ?_
                rw [NX.out.2]
                exact Texts.more ho
              have B2 : Hid (Below w.heap.size w wr2) := Lib.hid ((B.out.trans ((BWH.out _).mono B.out.size)).grown hg (by have := B.out.size; simp; omega) (fun k hk => ownB_ge TX.out hk))
              clear ho hg
              go_wp2_with fail
              go_roundw
              case rel => exact ⟨i + 1, i + 1, _, rfl, by go_num, by go_num, HI.out, NX.out.1, O2.out, B2.out⟩
              case measure => have := HI.out; simp [intOf]; omega
    · subst heq
      have HI : Hid (s.length + 1 ≤ s.length + 1) := Lib.hid (by omega)
      have PL : Hid ((pcs ms s s.length).length ≤ 16777217) := Lib.hid (by
        have h1 := pcs_len ms s s.length
        unfold pcs
        rw [if_pos (by omega)]
        omega)
      have GI : Hid (g ≤ s.length) := Lib.hid (OP.out (by omega)).1
      have NX := Lib.hid (open_end OP.out rfl)
      have SL : Hid (∀ w : World, (Instr.slice 9 (.string ⟨s.toArray⟩) (some (.int .i64 g)) (some (.int .i64 (s.length : Int))) none).run Tryd.prog w = .ok (.string ⟨((s.drop g).take (s.length - g)).toArray⟩) w) := Lib.hid (fun w => by
        have h1 := GI.out
        rw [run_slice_string (P := Tryd.prog) w 9 ⟨s.toArray⟩ .i64 .i64 (g : Int) (s.length : Int) Tryd.underlying9 (by omega) (by omega) (by show (s.length : Int) ≤ s.length; omega), ByteArray.extract_mk]
        rfl)
      obtain ⟨p, hp⟩ : ∃ p, (s.drop g).take (s.length - g) = p := ⟨_, rfl⟩
      rw [hp] at SL NX
      have BWH : Hid (∀ o, Below wr.heap.size wr (wr.alloc o)) := Lib.hid (fun o => ⟨rfl, rfl, rfl, by simp, fun k hk => Below.heap_alloc wr o k hk⟩)
      have d1 : decide (s.length < s.length) = false := decide_eq_false (by omega)
      have d2 : decide ((s.length : Int) < s.length) = false := decide_eq_false (by omega)
      clear hp hi OP
      go_wp2_with fail
      go_loopw [8, 9] (fun c x wr2 => x = .int .i64 0 ∧ c = .bool true ∧ wr2 = wr) (fun _ x _ => (intOf x).toNat)
      case atStart => exact ⟨rfl, rfl, rfl⟩
      case round =>
      obtain ⟨rfl, rfl, rfl⟩ := hrel
      rcases Nat.eq_zero_or_pos ms.length with m0 | m0
      · have e1 : decide ((0 : Int) < ms.length) = false := decide_eq_false (by omega)
        have sl : ∀ w : World, (Instr.slice 9 (.string ⟨s.toArray⟩) (some (.int .i64 g)) (some (.int .i64 (s.length : Int))) none).run Tryd.prog w = .ok (.string ⟨p.toArray⟩) w := fun w => SL.out w
        have TX2 : Hid (Texts w.heap.size (wr.alloc (.cells #[.string ⟨p.toArray⟩] 9)) v (pcs ms s s.length)) := Lib.hid (TX.out.keep (BWH.out _))
        go_wp2_with (at_builtin; refine wpList_append_own_at _ rfl _ _ 71 rfl w.heap.size 9 fi (.string ⟨#[]⟩) 1 16 underlying_strs hfi hz0 hz1 hz2 rfl (by decide) _ _ _ rfl TX2.out ⟨wr.heap.size, 0, none⟩ 1 1 [strV p] ?hx ?hl ?hnews ?h1 ?h63 ?hbytes ?hbase ?hnext)
        case hx => rfl
        case hl => rfl
        case hnews => exact cell_one_new _ _ _
        case h1 => intro u hu; obtain rfl := List.mem_singleton.mp hu; rfl
        case h63 => have := PL.out; unfold maxLen; omega
        case hbytes => have := PL.out; omega
        case hbase => have := B.out.size; simp; omega
        case hnext =>
          rintro v2 wr2 ho hg - -
          have O2 : Hid (Texts w.heap.size wr2 v2 (pcs ms s (s.length + 1))) := by
            refine Lib.hid ?_
            rw [NX.out.2]
            exact Texts.more ho
          have B2 : Hid (Below w.heap.size w wr2) := Lib.hid ((B.out.trans ((BWH.out _).mono B.out.size)).grown hg (by have := B.out.size; simp; omega) (fun k hk => ownB_ge TX.out hk))
          clear ho hg
          go_wp2_with fail
          go_roundw
          case rel => exact ⟨s.length + 1, s.length + 1, _, rfl, by go_num, by go_num, HI.out, NX.out.1, O2.out, B2.out⟩
          case measure => simp [intOf]
      · have e1 : decide ((0 : Int) < ms.length) = true := decide_eq_true (by omega)
        have sl : ∀ w : World, (Instr.slice 9 (.string ⟨s.toArray⟩) (some (.int .i64 g)) (some (.int .i64 (s.length : Int))) none).run Tryd.prog w = .ok (.string ⟨p.toArray⟩) w := fun w => SL.out w
        have TX2 : Hid (Texts w.heap.size (wr.alloc (.cells #[.string ⟨p.toArray⟩] 9)) v (pcs ms s s.length)) := Lib.hid (TX.out.keep (BWH.out _))
        go_wp2_with (at_builtin; refine wpList_append_own_at _ rfl _ _ 71 rfl w.heap.size 9 fi (.string ⟨#[]⟩) 1 16 underlying_strs hfi hz0 hz1 hz2 rfl (by decide) _ _ _ rfl TX2.out ⟨wr.heap.size, 0, none⟩ 1 1 [strV p] ?hx ?hl ?hnews ?h1 ?h63 ?hbytes ?hbase ?hnext)
        case hx => rfl
        case hl => rfl
        case hnews => exact cell_one_new _ _ _
        case h1 => intro u hu; obtain rfl := List.mem_singleton.mp hu; rfl
        case h63 => have := PL.out; unfold maxLen; omega
        case hbytes => have := PL.out; omega
        case hbase => have := B.out.size; simp; omega
        case hnext =>
          rintro v2 wr2 ho hg - -
          have O2 : Hid (Texts w.heap.size wr2 v2 (pcs ms s (s.length + 1))) := by
            refine Lib.hid ?_
            rw [NX.out.2]
            exact Texts.more ho
          have B2 : Hid (Below w.heap.size w wr2) := Lib.hid ((B.out.trans ((BWH.out _).mono B.out.size)).grown hg (by have := B.out.size; simp; omega) (fun k hk => ownB_ge TX.out hk))
          clear ho hg
          go_wp2_with fail
          go_roundw
          case rel => exact ⟨s.length + 1, s.length + 1, _, rfl, by go_num, by go_num, HI.out, NX.out.1, O2.out, B2.out⟩
          case measure => simp [intOf]
    · have E : Hid (pcs ms s i = split ms s) := Lib.hid (if_neg (by omega))
      have N : Hid (¬ i ≤ s.length) := Lib.hid (by omega)
      have TE : Hid (Texts w.heap.size wr v (split ms s)) := Lib.hid (by rw [← E.out]; exact TX.out)
      clear hi hgt OP hs1 hm1
      go_wp2_with fail
      all_goals first | exact absurd ‹i ≤ s.length› N.out | exact bodyPost_ret (v := v) (by simp [results, Tryd.results57, go_sem]) rfl ⟨_, rfl, TE.out, B.out⟩
end Go.Proofs.YtihgcccdahmmmaaDoor
