/-
  Chapter 4, in the model: ParseMatrix.
-/
import Derived.Test.YtihgcccdahmmmaaDoorParRMath
import Derived.Test.YtihgcccdahmmmaaDoorFmtM
namespace Go.Proofs.YtihgcccdahmmmaaDoor
open Go.RowKit
open Go.Lib (decDigits itoa nDigits)

/-- The first k cells that the pieces say. -/
noncomputable def cellsT (ls : List (List UInt8)) : Nat → List Int
  | 0 => []
  | k + 1 => if (numT (ls.getD (k + 2) [])).2 = true then cellsT ls k ++ [(numT (ls.getD (k + 2) [])).1] else cellsT ls k
theorem cellsT_len (ls : List (List UInt8)) (k : Nat) : (cellsT ls k).length ≤ k := by
  induction k with
  | zero => exact Nat.le_refl _
  | succ k ih =>
    unfold cellsT
    split
    · simp only [List.length_append, List.length_cons, List.length_nil]; omega
    · omega
/-- The pieces of a matrix's text. -/
def pcsM (s : List UInt8) : List (List UInt8) := split [120, 91, 93, 59, 32] s
/-- What the pieces say. -/
noncomputable def rowsT (s : List UInt8) : Int := (numT ((pcsM s).getD 0 [])).1
noncomputable def colsT (s : List UInt8) : Int := (numT ((pcsM s).getD 1 [])).1
noncomputable def allT (s : List UInt8) : List Int := cellsT (pcsM s) ((pcsM s).length - 3)
def SaysM (s : List UInt8) : Prop := 4 ≤ (pcsM s).length ∧ s.length ≤ 8000 ∧ fmtM (rowsT s) (colsT s) (allT s) = s
open Classical in
/-- What the model's ParseMatrix answers. -/
noncomputable def parM (s : List UInt8) : MR := if SaysM s then ⟨true, rowsT s, colsT s, allT s⟩ else MR.no
theorem parM_yes {s : List UInt8} (h : SaysM s) : parM s = ⟨true, rowsT s, colsT s, allT s⟩ := if_pos h
theorem parM_no {s : List UInt8} (h : ¬ SaysM s) : parM s = MR.no := if_neg h

theorem ownB_ge2 {w : World} {base n k : Nat} {e : TypeId} {size : Nat} {v : Value} {xs : List Value} (h : w.ownsRow base e size v n xs) (hk : v.ownBlock = some k) : base ≤ k := (h.lt k hk).1
theorem rows_far {w : World} {base n : Nat} {e : TypeId} {size : Nat} {v : Value} {xs : List Value} (h : w.ownsRow base e size v n xs) {a : Addr} (ha : a.block < base) (u : Value) : (w.setCell a u).ownsRow base e size v n xs := by
  obtain ⟨h1, ⟨h2, h3⟩ | ⟨g, cap, cur, e, hB, hg, rest⟩⟩ := h
  · exact ⟨h1, .inl ⟨h2, h3⟩⟩
  · exact ⟨h1, .inr ⟨g, cap, cur, e, hB, (Below.heap_setCell w a u g (by omega)).trans hg, rest⟩⟩
theorem rows_keep {w w' : World} {base n : Nat} {e : TypeId} {size : Nat} {v : Value} {xs : List Value} (h : w.ownsRow base e size v n xs) (hb : Below w.heap.size w w') : w'.ownsRow base e size v n xs := by
  obtain ⟨h1, ⟨h2, h3⟩ | ⟨g, cap, cur, e, hB, hg, rest⟩⟩ := h
  · exact ⟨h1, .inl ⟨h2, h3⟩⟩
  · exact ⟨h1, .inr ⟨g, cap, cur, e, hB, (hb.block g (lt_of_block hg)).trans hg, rest⟩⟩
theorem rows_form {w : World} {base n : Nat} {e : TypeId} {size : Nat} {v : Value} {xs : List Value} (h : w.ownsRow base e size v n xs) : ∃ a m c, v = .slice a m c := by
  obtain ⟨h1, ⟨h2, h3⟩ | ⟨g, cap, cur, e, hB, hg, rest⟩⟩ := h
  · exact ⟨_, _, _, h2⟩
  · exact ⟨_, _, _, e⟩

set_option maxRecDepth 20000 in
set_option maxHeartbeats 1000000 in
theorem sParseMatrix (s : List UInt8) (w : World) (hs : s.length ≤ 16777216) : Calls Tryd.prog 24 #[.string ⟨s.toArray⟩] w (MatRes (parM s) w) := by
  have SP : ∀ w : World, Calls Tryd.prog 57 #[.string ⟨s.toArray⟩, .string ⟨#[120, 91, 93, 59, 32]⟩] w fun e w' => ∃ v, e = .returned v ∧ Texts w.heap.size w' v (pcsM s) ∧ Below w.heap.size w w' := fun w => sSplit s [120, 91, 93, 59, 32] w hs (by decide)
  have hlen : (pcsM s).length ≤ s.length + 1 := split_len _ s
  have hne : pcsM s ≠ [] := split_ne _ s
  have P : ∀ (i : Nat) (w : World), Calls Tryd.prog 58 #[.string ⟨((pcsM s).getD i []).toArray⟩] w fun e w' => e = .returned (.tuple #[.int .i64 (numT ((pcsM s).getD i [])).1, .bool (numT ((pcsM s).getD i [])).2]) ∧ w = w' := fun i w => sParse _ w (by have : ((pcsM s).getD i []).length ≤ s.length := split_at _ s i; omega)
  have NO : ∀ w' : World, ¬ SaysM s → Below w.heap.size w w' → MatRes (parM s) w (.returned (.tuple #[.agg #[.int .i64 0, .int .i64 0, .slice none 0 0], .bool false])) w' := fun w' h hb => by
    rw [parM_no h]; exact ⟨_, rfl, .inl ⟨rfl, rfl⟩, hb⟩
  have YES : ∀ (w' : World) (v : Value), SaysM s → Below w.heap.size w w' → Own w.heap.size w' v (allT s) → MatRes (parM s) w (.returned (.tuple #[.agg #[.int .i64 (rowsT s), .int .i64 (colsT s), v], .bool true])) w' := fun w' v h hb ho => by
    rw [parM_yes h]; exact ⟨_, rfl, ho, hb⟩
  have SY : Hid (SaysM s ↔ 4 ≤ (pcsM s).length ∧ s.length ≤ 8000 ∧ fmtM (rowsT s) (colsT s) (allT s) = s) := Lib.hid Iff.rfl
  have AL : Hid (allT s = cellsT (pcsM s) ((pcsM s).length - 3)) := Lib.hid rfl
  have RT : Hid (rowsT s = (numT ((pcsM s).getD 0 [])).1) := Lib.hid rfl
  have CT : Hid (colsT s = (numT ((pcsM s).getD 1 [])).1) := Lib.hid rfl
  obtain ⟨ls, hls⟩ : ∃ l, pcsM s = l := ⟨_, rfl⟩
  rw [hls] at SP hlen hne P SY AL RT CT
  clear hls
  have NOH := Lib.hid NO
  have YESH := Lib.hid YES
  have PH := Lib.hid P
  have NE := Lib.hid hne
  have Z0 := Lib.hid (List.length_pos_iff.mpr hne)
  have s0 : (s.length : Int) ≤ 16777216 := by omega
  have n1' : (ls.length : Int) ≤ 16777217 := by omega
  have n0' : (0 : Int) < ls.length := by have := Z0.out; omega
  obtain ⟨fi, hfi, hz0, hz1, hz2⟩ := facts_int
  clear NO YES P hs hlen hne
  go_enter Tryd.func24, Tryd.ntmps24
  go_wp2_with fail
  refine (SP _).mono ?_
  clear SP
  rintro e w1 ⟨v, rfl, tx, hb⟩
  have K1 : Hid (Blk3 w1 w.heap.size 26 (.int .i64 0) (.int .i64 0) (.slice none 0 0)) := (Blk3.at_ _ _ _ _ rfl).keep hb (by simp)
  have B : Hid (Below w.heap.size w w1) := ((Below.refl _ _).alloc (Nat.le_refl _) _).trans (hb.mono (by simp))
  obtain ⟨g, cap, rfl, hg, hcap, hc⟩ := tx.form NE.out
  have HC := Lib.hid hc
  have GB : Hid (g < w1.heap.size) := Lib.hid (World.block_lt_of_cell? w1 _ (hc 0 Z0.out))
  clear tx hb hc hg hcap
  obtain ⟨k0, k1, k2, kf0, kf1, kf2⟩ := K1.out.all
  rcases Nat.lt_or_ge ls.length 4 with h4 | h4
  · -- too few pieces
    have N := Lib.hid (show ¬ SaysM s from fun h => by have := (SY.out.mp h).1; omega)
    have d4 : (ls.length : Int) < 4 := by omega
    clear h4
    go_wp2_with fail
    obtain ⟨E0, E1, E2, -, -, -⟩ := (((K1.out.set0 (.int .i64 0)).set1 (.int .i64 0)).set2 (.slice none 0 0)).all
    exact bodyPost_ret (v := .tuple #[.agg #[.int .i64 0, .int .i64 0, .slice none 0 0], .bool false]) (by simp [results, Tryd.results24, go_sem, E0, E1, E2]) rfl (NOH.out _ N.out (((B.out.setCell (Nat.le_refl _) _).setCell (Nat.le_refl _) _).setCell (Nat.le_refl _) _))
  · rcases Nat.lt_or_ge 8000 s.length with h8 | h8
    · have N := Lib.hid (show ¬ SaysM s from fun h => by have := (SY.out.mp h).2.1; omega)
      have d4 : decide ((ls.length : Int) < 4) = false := decide_eq_false (by omega)
      have d8 : (8000 : Int) < s.length := by omega
      clear h4 h8
      go_wp2_with fail
      obtain ⟨E0, E1, E2, -, -, -⟩ := (((K1.out.set0 (.int .i64 0)).set1 (.int .i64 0)).set2 (.slice none 0 0)).all
      exact bodyPost_ret (v := .tuple #[.agg #[.int .i64 0, .int .i64 0, .slice none 0 0], .bool false]) (by simp [results, Tryd.results24, go_sem, E0, E1, E2]) rfl (NOH.out _ N.out (((B.out.setCell (Nat.le_refl _) _).setCell (Nat.le_refl _) _).setCell (Nat.le_refl _) _))
    · have d4 : decide ((ls.length : Int) < 4) = false := decide_eq_false (by omega)
      have d8 : decide ((8000 : Int) < s.length) = false := decide_eq_false (by omega)
      have c0 := HC.out 0 Z0.out
      have c1 := HC.out 1 (by omega)
      have n1 : (1 : Int) < ls.length := by omega
      have P0 := PH.out 0
      have P1 := PH.out 1
      have H4 := Lib.hid h4
      have H8 := Lib.hid h8
      obtain ⟨R, hR⟩ : ∃ r, numT (ls.getD 0 []) = r := ⟨_, rfl⟩
      obtain ⟨C, hC⟩ : ∃ r, numT (ls.getD 1 []) = r := ⟨_, rfl⟩
      obtain ⟨q0, hq0⟩ : ∃ q, ls.getD 0 [] = q := ⟨_, rfl⟩
      obtain ⟨q1, hq1⟩ : ∃ q, ls.getD 1 [] = q := ⟨_, rfl⟩
      rw [hR] at P0 RT
      rw [hC] at P1 CT
      rw [hq0] at P0 c0
      rw [hq1] at P1 c1
      obtain ⟨R, b0⟩ := R
      obtain ⟨C, b1⟩ := C
      clear h4 h8 hR hC hq0 hq1
      go_wp2_with (go_at_call 58; (first | (with_reducible refine (P0 _).mono ?_) | (with_reducible refine (P1 _).mono ?_)); rintro e w' ⟨rfl, rfl⟩)
      have LB : Hid (ls.length ≤ 16777217) := Lib.hid (by omega)
      clear c0 c1 P0 P1
      go_loopw [10] (fun x wr => ∃ (i : Nat) (v : Value), x = .int .i64 i ∧ 2 ≤ i ∧ i + 1 ≤ ls.length ∧ wr.ownsRow (w1.heap.size + 1) 3 1 v (cellsT ls (i - 2)).length ((cellsT ls (i - 2)).map (Value.int .i64)) ∧ Blk3 wr w1.heap.size 26 (.int .i64 R) (.int .i64 C) v ∧ Below w1.heap.size w1 wr) (fun x _ => ls.length - (intOf x).toNat)
      case atStart => exact ⟨2, _, rfl, by omega, by have := H4.out; omega, World.ownsRow_nil _ _ _ _, Blk3.at_ _ _ _ _ rfl, (Below.refl _ _).alloc (Nat.le_refl _) _⟩
      case round =>
        obtain ⟨i, v, rfl, hi2, hi, ho, hbk, hbl⟩ := hrel
        obtain ⟨va, vm, vc, rfl⟩ := rows_form ho
        have HO := Lib.hid ho
        have K := Lib.hid hbk
        have BL := Lib.hid hbl
        have I2 := Lib.hid hi2
        obtain ⟨p0, p1, p2, pf0, pf1, pf2⟩ := K.out.all
        have CL := Lib.hid (cellsT_len ls (i - 2))
        have i0 : (0 : Int) ≤ i := by omega
        clear ho hbk hbl
        rcases Nat.lt_or_ge (i + 1) ls.length with hlt | hge
        · have c := HC.out i (by omega)
          have c' : wr.cell? ⟨g, i, none⟩ = some (.string ⟨(ls.getD i []).toArray⟩) := (BL.out.cell (p := ⟨g, i, none⟩) GB.out).trans c
          have Pi := PH.out i
          have i1 : (i : Int) < ls.length - 1 := by omega
          have i3 : (i : Int) < ls.length := by omega
          have CS : Hid (cellsT ls (i + 1 - 2) = if (numT (ls.getD i [])).2 = true then cellsT ls (i - 2) ++ [(numT (ls.getD i [])).1] else cellsT ls (i - 2)) := Lib.hid (by
            rw [show i + 1 - 2 = (i - 2) + 1 by omega]
            conv => lhs; unfold cellsT
            rw [show i - 2 + 2 = i by omega])
          obtain ⟨z, hz⟩ : ∃ z, numT (ls.getD i []) = z := ⟨_, rfl⟩
          obtain ⟨q, hq⟩ : ∃ q, ls.getD i [] = q := ⟨_, rfl⟩
          rw [hz] at Pi CS
          rw [hq] at Pi c'
          obtain ⟨z, is⟩ := z
          have HI : Hid (i + 2 ≤ ls.length) := Lib.hid hlt
          clear c hz hq hlt hi hi2
          cases is with
          | false =>
            have CS2 : Hid (cellsT ls (i + 1 - 2) = cellsT ls (i - 2)) := Lib.hid CS.out
            go_wp2_with (go_at_call 58; refine (Pi _).mono ?_; rintro e w' ⟨rfl, rfl⟩)
            go_roundw
            case rel => exact ⟨i + 1, _, by go_num, by have := I2.out; omega, HI.out, by rw [CS2.out]; exact HO.out, K.out, BL.out⟩
            case measure => have := HI.out; simp [intOf]; omega
          | true =>
            have CS2 : Hid (cellsT ls (i + 1 - 2) = cellsT ls (i - 2) ++ [z]) := Lib.hid CS.out
            have BA : ∀ o, Below wr.heap.size wr (wr.alloc o) := fun o => (Below.refl _ _).alloc (Nat.le_refl _) _
            have HO2 : Hid ((wr.alloc (.cells #[.int .i64 z] 3)).ownsRow (w1.heap.size + 1) 3 1 (.slice va vm vc) (cellsT ls (i - 2)).length ((cellsT ls (i - 2)).map (Value.int .i64))) := Lib.hid (rows_keep HO.out (BA _))
            have K2 : Hid (Blk3 (wr.alloc (.cells #[.int .i64 z] 3)) w1.heap.size 26 (.int .i64 R) (.int .i64 C) (.slice va vm vc)) := Lib.hid (K.out.old _)
            have BL2 : Hid (Below w1.heap.size w1 (wr.alloc (.cells #[.int .i64 z] 3))) := Lib.hid (BL.out.alloc BL.out.size _)
            clear BA
            go_wp2_with (first | (go_at_call 58; refine (Pi _).mono ?_; rintro e w' ⟨rfl, rfl⟩) | (at_builtin; refine wpList_append_own_at _ rfl _ _ 24 rfl (w1.heap.size + 1) 3 fi (.int .i64 0) 1 8 underlying_ints hfi hz0 hz1 hz2 rfl (by decide) _ _ _ rfl HO2.out ⟨wr.heap.size, 0, none⟩ 1 1 [.int .i64 z] ?hx ?hl ?hnews ?h1 ?h63 ?hbytes ?hbase ?hnext))
            case hx => rfl
            case hl => rfl
            case hnews => exact cell_one_new _ _ _
            case h1 => intro u hu; obtain rfl := List.mem_singleton.mp hu; rfl
            case h63 => have := CL.out; have := LB.out; have := HI.out; unfold maxLen; omega
            case hbytes => have := CL.out; have := LB.out; have := HI.out; omega
            case hbase => have := K.out.lt; simp; omega
            case hnext =>
              rintro v2 wr2 ho2 hg2 - -
              obtain ⟨ua, um, uc, rfl⟩ := rows_form ho2
              have K3 : Hid (Blk3 wr2 w1.heap.size 26 (.int .i64 R) (.int .i64 C) (.slice va vm vc)) := Lib.hid ((hg2.block _ K2.out.lt (fun e => by have := ownB_ge2 HO2.out e.symm; omega)).trans K2.out)
              have O3 : Hid (wr2.ownsRow (w1.heap.size + 1) 3 1 (.slice ua um uc) (cellsT ls (i + 1 - 2)).length ((cellsT ls (i + 1 - 2)).map (Value.int .i64))) := by
                refine Lib.hid ?_
                rw [CS2.out, List.length_append, List.map_append]
                exact ho2
              have B3 : Hid (Below w1.heap.size w1 wr2) := Lib.hid (BL2.out.grown hg2 BL2.out.size (fun k hk => by have := ownB_ge2 HO2.out hk; omega))
              clear ho2 hg2 p0 p1 p2 pf0 pf1 pf2
              obtain ⟨p0, p1, p2, pf0, pf1, pf2⟩ := K3.out.all
              go_wp2_with fail
              go_roundw
              case rel => exact ⟨i + 1, _, by go_num, by have := I2.out; omega, HI.out, rows_far O3.out (by simp) _, K3.out.set2 _, B3.out.setCell (Nat.le_refl _) _⟩
              case measure => have := HI.out; simp [intOf]; omega
        · have hd : decide ((i : Int) < ls.length - 1) = false := decide_eq_false (by omega)
          have hx : (cellsT ls (i - 2)).length ≤ 16777216 := by have := CL.out; have := LB.out; omega
          have AX : Hid (allT s = cellsT ls (i - 2)) := Lib.hid (by rw [AL.out, show ls.length - 3 = i - 2 by omega])
          obtain ⟨fa, fc, fe, frd, -⟩ := (Own.of_row HO.out hx).form
          obtain ⟨xs, exs⟩ : ∃ l, cellsT ls (i - 2) = l := ⟨_, rfl⟩
          rw [exs] at HO AX fe frd hx
          injection fe with e1 e2 e3
          subst e1 e2 e3
          have FM := sFormatMatrix R C va vc xs wr frd hx
          have SY2 : Hid (SaysM s ↔ fmtM R C xs = s) := Lib.hid (by
            refine SY.out.trans ⟨fun h => ?_, fun h => ⟨H4.out, H8.out, ?_⟩⟩
            · have := h.2.2
              rw [RT.out, CT.out, AX.out] at this
              exact this
            · rw [RT.out, CT.out, AX.out]; exact h)
          obtain ⟨t, ht⟩ : ∃ t, fmtM R C xs = t := ⟨_, rfl⟩
          rw [ht] at FM SY2
          have HX := Lib.hid hx
          clear ht exs hge hi hi2 hx frd
          by_cases hts : t = s
          · have Y : Hid (SaysM s) := Lib.hid (SY2.out.mpr hts)
            have dts : (t == s) = true := beq_iff_eq.mpr hts
            clear hts
            go_wp2_with fail
            refine FM.mono ?_
            clear FM
            rintro e w5 ⟨rfl, hb5⟩
            have K5 : Hid (Blk3 w5 w.heap.size 26 (.int .i64 0) (.int .i64 0) (.slice none 0 0)) := Lib.hid ((K1.out.keep BL.out K1.out.lt).keep hb5 (by have := K1.out.lt; have := BL.out.size; omega))
            have M5 : Hid (Blk3 w5 w1.heap.size 26 (.int .i64 R) (.int .i64 C) (.slice va xs.length vc)) := Lib.hid (K.out.keep hb5 K.out.lt)
            have O5 : Hid (w5.ownsRow (w1.heap.size + 1) 3 1 (.slice va xs.length vc) xs.length (xs.map (Value.int .i64))) := Lib.hid (rows_keep HO.out hb5)
            have B5 : Hid (Below w.heap.size w w5) := Lib.hid ((B.out.trans (BL.out.mono B.out.size)).trans (hb5.mono (by have := B.out.size; have := BL.out.size; omega)))
            clear hb5 p0 p1 p2 pf0 pf1 pf2
            obtain ⟨k0, k1, k2, kf0, kf1, kf2⟩ := K5.out.all
            obtain ⟨p0, p1, p2, pf0, pf1, pf2⟩ := M5.out.all
            go_wp2_with fail
            obtain ⟨E0, E1, E2, -, -, -⟩ := (((K5.out.set0 (.int .i64 R)).set1 (.int .i64 C)).set2 (.slice va xs.length vc)).all
            have fin := YESH.out (((w5.setCell ⟨w.heap.size, 0, none⟩ (.int .i64 R)).setCell ⟨w.heap.size, 1, none⟩ (.int .i64 C)).setCell ⟨w.heap.size, 2, none⟩ (.slice va xs.length vc)) (.slice va xs.length vc) Y.out (((B5.out.setCell (Nat.le_refl _) _).setCell (Nat.le_refl _) _).setCell (Nat.le_refl _) _) (by
              rw [AX.out]
              refine (Own.of_row (rows_far (rows_far (rows_far O5.out ?_ _) ?_ _) ?_ _) HX.out).le ?_
              all_goals
                have := B.out.size
                first | omega | (simp only; omega))
            rw [RT.out, CT.out] at fin
            exact bodyPost_ret (v := .tuple #[.agg #[.int .i64 R, .int .i64 C, .slice va xs.length vc], .bool true]) (by simp [results, Tryd.results24, go_sem, E0, E1, E2]) rfl fin
          · have N : Hid (¬ SaysM s) := Lib.hid (fun h => hts (SY2.out.mp h))
            have dts : (t == s) = false := beq_eq_false_iff_ne.mpr hts
            clear hts
            go_wp2_with fail
            refine FM.mono ?_
            clear FM
            rintro e w5 ⟨rfl, hb5⟩
            have K5 : Hid (Blk3 w5 w.heap.size 26 (.int .i64 0) (.int .i64 0) (.slice none 0 0)) := Lib.hid ((K1.out.keep BL.out K1.out.lt).keep hb5 (by have := K1.out.lt; have := BL.out.size; omega))
            have M5 : Hid (Blk3 w5 w1.heap.size 26 (.int .i64 R) (.int .i64 C) (.slice va xs.length vc)) := Lib.hid (K.out.keep hb5 K.out.lt)
            have O5 : Hid (w5.ownsRow (w1.heap.size + 1) 3 1 (.slice va xs.length vc) xs.length (xs.map (Value.int .i64))) := Lib.hid (rows_keep HO.out hb5)
            have B5 : Hid (Below w.heap.size w w5) := Lib.hid ((B.out.trans (BL.out.mono B.out.size)).trans (hb5.mono (by have := B.out.size; have := BL.out.size; omega)))
            clear hb5 p0 p1 p2 pf0 pf1 pf2
            obtain ⟨k0, k1, k2, kf0, kf1, kf2⟩ := K5.out.all
            obtain ⟨p0, p1, p2, pf0, pf1, pf2⟩ := M5.out.all
            go_wp2_with fail
            obtain ⟨E0, E1, E2, -, -, -⟩ := (((K5.out.set0 (.int .i64 0)).set1 (.int .i64 0)).set2 (.slice none 0 0)).all
            exact bodyPost_ret (v := .tuple #[.agg #[.int .i64 0, .int .i64 0, .slice none 0 0], .bool false]) (by simp [results, Tryd.results24, go_sem, E0, E1, E2]) rfl (NOH.out _ N.out (((B5.out.setCell (Nat.le_refl _) _).setCell (Nat.le_refl _) _).setCell (Nat.le_refl _) _))
end Go.Proofs.YtihgcccdahmmmaaDoor
