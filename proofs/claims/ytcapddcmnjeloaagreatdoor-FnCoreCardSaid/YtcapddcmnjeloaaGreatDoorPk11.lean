/-
  Texts of this seat, joined: ZARead1 · ZAReadR · ZAReadMM · ZAReadM · ZADraw5 · ZADrawPM · ZASameQ
-/
import Derived.Shelf.Strings.SlTrimAscii
import Derived.Defers
import Derived.Recover
import Derived.Deep.RegionHeld3
import Derived.Deep.DeepCutAuto
import Derived.Deep.RegionWith
import Derived.BigQuiet
import Derived.Deep.QuietTactic
import Derived.Test.YtcapddcmnjeloaaGreatDoorPk1
import Derived.Test.YtcapddcmnjeloaaGreatDoorPk4
import Derived.Test.YtcapddcmnjeloaaGreatDoorPk6
import Derived.Test.YtcapddcmnjeloaaGreatDoorPk10

section
/-
  Chapter 4, in the program: the reader: need, word, number, size.
-/
namespace Go.Proofs.YtcapddcmnjeloaaGreatDoor
open Go.RowKit
open Go.Lib (decDigits itoa nDigits)
def Rdr (w : World) (rb : Nat) (l : List UInt8) : Prop := Blk1 w rb 110 (.string ⟨l.toArray⟩)
def Boom (e : Ending) : Prop := e = .panicked [{ v := .iface 9 (.string ⟨#[116, 104, 101, 32, 116, 101, 120, 116, 32, 100, 111, 101, 115, 32, 110, 111, 116, 32, 103, 111, 32, 111, 110, 32, 108, 105, 107, 101, 32, 116, 104, 105, 115]⟩), recovered := false }]
theorem iNeed_t (p : Value) (w : World) :
    Calls Tryz.prog 95 #[p, .bool true] w fun e w' => e = .returned (.tuple #[]) ∧ w = w' := by
  go_enter Tryz.func95, Tryz.ntmps95
  go_wp2_with fail
  go_end0
  exact ⟨rfl, rfl⟩
theorem iNeed_f (p : Value) (w : World) :
    Calls Tryz.prog 95 #[p, .bool false] w fun e w' => Boom e ∧ w = w' := by
  go_enter Tryz.func95, Tryz.ntmps95
  go_wp2_with fail
  exact ⟨rfl, rfl, rfl⟩
theorem iCut (l p : List UInt8) (w : World) :
    Calls Tryz.prog 145 #[.string ⟨l.toArray⟩, .string ⟨p.toArray⟩] w fun e w' => e = .returned (.tuple #[.string ⟨(Lib.trimPrefix l p).toArray⟩, .bool (Lib.hasPrefix l p)]) ∧ w' = w :=
  Tryz.strings_CutPrefix ⟨l.toArray⟩ ⟨p.toArray⟩ w
theorem iTrimL (l : List UInt8) (w : World) :
    Calls Tryz.prog 146 #[.string ⟨l.toArray⟩, .string ⟨#[45, 48, 49, 50, 51, 52, 53, 54, 55, 56, 57]⟩] w fun e w' => e = .returned (.string ⟨(tailN l).toArray⟩) ∧ Below w.heap.size w w' :=
  Any.strings_TrimLeft_laid Tryz.lays161 (by kernel_rfl) ⟨l.toArray⟩ ⟨#[45, 48, 49, 50, 51, 52, 53, 54, 55, 56, 57]⟩ w (by decide) (ascii_of_all (by decide))
theorem iTrimS (l : List UInt8) (w : World) (h : l.length ≤ 16777216) :
    Calls Tryz.prog 148 #[.string ⟨l.toArray⟩, .string ⟨(tailN l).toArray⟩] w fun e w' => e = .returned (.string ⟨(headN l).toArray⟩) ∧ w' = w :=
  Tryz.strings_TrimSuffix ⟨l.toArray⟩ ⟨(tailN l).toArray⟩ w (by show l.length ≤ _; omega)
theorem iParse (l : List UInt8) (w : World) (ht : Tab w) :
    Calls Tryz.prog 147 #[.string ⟨l.toArray⟩] w fun e w' => e = .returned (.tuple #[.int .i64 (numT l).1, .bool (numT l).2]) ∧ Below w.heap.size w w' := by
  by_cases h : IsNumT l
  · obtain ⟨⟨h1, h2⟩, h3, h4⟩ := numT_yes h
    rw [h4]
    exact iParse_yes ⟨l.toArray⟩ (numT l).1 h1 h2 h3 w ht
  · rw [numT_no h]
    exact iParse_no ⟨l.toArray⟩ (fun v h1 h2 e => h ⟨v, ⟨h1, h2⟩, e⟩) w ht
def Went (rb : Nat) (v : Value) (l' : List UInt8) (ok : Bool) (w : World) (e : Ending) (w' : World) : Prop :=
  w.grownBy w' (some rb) ∧ if ok = true then e = .returned v ∧ Rdr w' rb l' else Boom e
theorem went_yes {rb : Nat} {v : Value} {l' : List UInt8} {ok : Bool} {w w' : World} {e : Ending} (h : ok = true) (g : w.grownBy w' (some rb)) (he : e = .returned v) (hr : Rdr w' rb l') : Went rb v l' ok w e w' := ⟨g, by rw [if_pos h]; exact ⟨he, hr⟩⟩
theorem iWord (rb : Nat) (l p : List UInt8) (w : World) (h : Rdr w rb l) :
    Calls Tryz.prog 97 #[.pointer (some ⟨rb, 0, none⟩), .string ⟨p.toArray⟩] w (Went rb (.tuple #[]) (Lib.trimPrefix l p) (Lib.hasPrefix l p) w) := by
  have c0 := Blk1.cell0 h
  have f0 := Blk1.free h 0
  have H := Lib.hid h
  clear h
  obtain ⟨k, hk⟩ : ∃ k, Lib.hasPrefix l p = k := ⟨_, rfl⟩
  obtain ⟨q, hq⟩ : ∃ k, Lib.trimPrefix l p = k := ⟨_, rfl⟩
  have CUT := iCut l p w
  rw [hk, hq] at CUT ⊢
  clear hk hq
  go_enter Tryz.func97, Tryz.ntmps97
  go_wp2_with fail
  refine CUT.mono ?_
  clear CUT
  rintro e w1 ⟨rfl, rfl⟩
  cases k with
  | true =>
    go_wp2_with fail
    refine (iNeed_t _ _).mono ?_
    rintro e w2 ⟨rfl, rfl⟩
    go_wp2_with fail
    go_end0
    exact ⟨grown_set_one (World.grownBy.refl _ _) rfl _, by rw [if_pos rfl]; exact ⟨rfl, Blk1.set0 H.out _⟩⟩
  | false =>
    go_wp2_with fail
    refine (iNeed_f _ _).mono ?_
    rintro e w2 ⟨rfl, rfl⟩
    go_wp2_with fail
    exact ⟨rfl, World.grownBy.refl _ _, rfl⟩
theorem gTab_lt_of {w w' : World} {rb : Nat} (h : Tab w) (hg : w.grownBy w' (some rb)) (hr : 1 < rb) (hb : rb ≤ w.heap.size) : Tab w' :=
  var?_below (below_of_one hg (Nat.le_refl _) hb) gTab hr h
set_option maxHeartbeats 400000 in
theorem iNumber (rb : Nat) (l : List UInt8) (w : World) (h : Rdr w rb l) (hl : l.length ≤ 16777216) (tb : Tab w) :
    Calls Tryz.prog 98 #[.pointer (some ⟨rb, 0, none⟩)] w (Went rb (.int .i64 (numT (headN l)).1) (tailN l) (numT (headN l)).2 w) := by
  have c0 := Blk1.cell0 h
  have H := Lib.hid h
  have TB := Lib.hid tb
  clear h tb
  obtain ⟨k, hk⟩ : ∃ k, (numT (headN l)).2 = k := ⟨_, rfl⟩
  obtain ⟨n, hn⟩ : ∃ k, (numT (headN l)).1 = k := ⟨_, rfl⟩
  obtain ⟨t, ht⟩ : ∃ k, tailN l = k := ⟨_, rfl⟩
  obtain ⟨d, hd⟩ : ∃ k, headN l = k := ⟨_, rfl⟩
  have TL := iTrimL l w
  have TS : ∀ w : World, Calls Tryz.prog 148 #[.string ⟨l.toArray⟩, .string ⟨t.toArray⟩] w fun e w' => e = .returned (.string ⟨d.toArray⟩) ∧ w' = w := fun w => by rw [← ht, ← hd]; exact iTrimS l w hl
  have PA : ∀ w : World, Tab w → Calls Tryz.prog 147 #[.string ⟨d.toArray⟩] w fun e w' => e = .returned (.tuple #[.int .i64 n, .bool k]) ∧ Below w.heap.size w w' := fun w tb => by rw [← hn, ← hk, ← hd]; exact iParse _ w tb
  rw [hk, hn, ht]
  rw [ht] at TL
  clear hk hn ht hd hl
  have PAH := Lib.hid PA
  clear PA
  go_enter Tryz.func98, Tryz.ntmps98
  go_wp2_with fail
  refine TL.mono ?_
  clear TL
  rintro e w1 ⟨rfl, b1⟩
  have H1 : Hid (Rdr w1 rb l) := Blk1.keep H.out b1 (Blk1.lt H.out)
  have c1 := Blk1.cell0 H1.out
  have B1 := Lib.hid b1
  clear b1 c0
  go_wp2_with fail
  refine (TS _).mono ?_
  clear TS
  rintro e w2 ⟨rfl, rfl⟩
  go_wp2_with fail
  refine (PAH.out _ (TB.out.below B1.out)).mono ?_
  rintro e w3 ⟨rfl, b2⟩
  have B2 : Hid (Below w.heap.size w w3) := B1.out.trans (b2.mono B1.out.size)
  have H2 : Hid (Rdr w3 rb l) := Blk1.keep H1.out b2 (Blk1.lt H1.out)
  have f2 := Blk1.free H2.out 0
  have c2 := Blk1.cell0 H2.out
  clear b2 c1
  cases k with
  | true =>
    go_wp2_with fail
    refine (iNeed_t _ _).mono ?_
    rintro e w4 ⟨rfl, rfl⟩
    go_wp2_with fail
    go_ret
    exact ⟨grown_set_one (grown_of_below B2.out _) rfl _, by rw [if_pos rfl]; exact ⟨rfl, Blk1.set0 H2.out _⟩⟩
  | false =>
    go_wp2_with fail
    refine (iNeed_f _ _).mono ?_
    rintro e w4 ⟨rfl, rfl⟩
    go_wp2_with fail
    exact ⟨rfl, grown_of_below B2.out _, rfl⟩
noncomputable def sizeOk (l : List UInt8) : Bool := (numT (headN l)).2 && decide (SizeP (numT (headN l)).1)
theorem iSizeR (rb : Nat) (l : List UInt8) (w : World) (h : Rdr w rb l) (hl : l.length ≤ 16777216) (tb : Tab w) :
    Calls Tryz.prog 96 #[.pointer (some ⟨rb, 0, none⟩)] w (Went rb (.int .i64 (numT (headN l)).1) (tailN l) (sizeOk l) w) := by
  have NU := iNumber rb l w h hl tb
  unfold sizeOk
  clear h hl tb
  obtain ⟨k, hk⟩ : ∃ k, (numT (headN l)).2 = k := ⟨_, rfl⟩
  obtain ⟨n, hn⟩ : ∃ k, (numT (headN l)).1 = k := ⟨_, rfl⟩
  obtain ⟨t, ht⟩ : ∃ k, tailN l = k := ⟨_, rfl⟩
  rw [hk, hn, ht] at NU ⊢
  clear hk hn ht
  go_enter Tryz.func96, Tryz.ntmps96
  go_wp2_with fail
  refine NU.mono ?_
  clear NU
  rintro e w1 ⟨g1, h1⟩
  have G := Lib.hid g1
  clear g1
  cases k with
  | true =>
    rw [if_pos rfl] at h1
    obtain ⟨rfl, r1⟩ := h1
    have R := Lib.hid r1
    clear r1
    go_wp2_with fail
    refine (iSize _ _).mono ?_
    rintro e w2 ⟨rfl, rfl⟩
    rcases Bool.eq_false_or_eq_true (decide (SizeP n)) with hs | hs
    · rw [hs]
      go_wp2_with fail
      refine (iNeed_t _ _).mono ?_
      rintro e w4 ⟨rfl, rfl⟩
      go_wp2_with fail
      go_ret
      exact went_yes (by rw [hs]; rfl) G.out rfl R.out
    · rw [hs]
      go_wp2_with fail
      refine (iNeed_f _ _).mono ?_
      rintro e w4 ⟨rfl, rfl⟩
      go_wp2_with fail
      exact ⟨rfl, G.out, rfl⟩
  | false =>
    rw [if_neg (by decide)] at h1
    cases h1
    go_wp2_with fail
    exact ⟨rfl, G.out, rfl⟩
end Go.Proofs.YtcapddcmnjeloaaGreatDoor
end

section
/-
  Chapter 4, in the program: the reader's ratio, readAll over ratios, ParseRatio.
-/
namespace Go.Proofs.YtcapddcmnjeloaaGreatDoor
open Go.RowKit
open Go.Lib (decDigits itoa nDigits)
def WentO (rb : Nat) (o : Option (Value × List UInt8)) (w : World) (e : Ending) (w' : World) : Prop :=
  w.grownBy w' (some rb) ∧ match o with | some (v, l') => e = .returned v ∧ Rdr w' rb l' | none => Boom e
noncomputable def goR1 (s : List UInt8) : Option (Value × List UInt8) :=
  if (numT (headN s)).2 = true then
    if tailN s = [] then some (ratV ((numT (headN s)).1, 1), [])
    else if Lib.hasPrefix (tailN s) [47] = true then
      if (numT (headN (Lib.trimPrefix (tailN s) [47]))).2 = true then
        if isRat (numT (headN s)).1 (numT (headN (Lib.trimPrefix (tailN s) [47]))).1 = true ∧ (numT (headN (Lib.trimPrefix (tailN s) [47]))).1 ≠ 1 then
          some (ratV ((numT (headN s)).1, (numT (headN (Lib.trimPrefix (tailN s) [47]))).1), tailN (Lib.trimPrefix (tailN s) [47]))
        else none
      else none
    else none
  else none
theorem goR1_at (l : List UInt8) (n d : Int) (ok1 hp ok2 : Bool) (t q t2 : List UInt8) (hn : (numT (headN l)).1 = n) (h1 : (numT (headN l)).2 = ok1) (ht : tailN l = t) (hq : Lib.trimPrefix t [47] = q) (hh : Lib.hasPrefix t [47] = hp) (hd : (numT (headN q)).1 = d) (h2 : (numT (headN q)).2 = ok2) (ht2 : tailN q = t2) :
    goR1 l = if ok1 = true then if t = [] then some (ratV (n, 1), []) else if hp = true then if ok2 = true then if isRat n d = true ∧ d ≠ 1 then some (ratV (n, d), t2) else none else none else none else none := by
  unfold goR1
  rw [hn, h1, ht, hq, hh, hd, h2, ht2]
theorem wentO_no {rb : Nat} {o : Option (Value × List UInt8)} {w w' : World} {e : Ending} (h : o = none) (g : w.grownBy w' (some rb)) (he : Boom e) : WentO rb o w e w' := ⟨g, by rw [h]; exact he⟩
theorem wentO_yes {rb : Nat} {o : Option (Value × List UInt8)} {v : Value} {l' : List UInt8} {w w' : World} {e : Ending} (h : o = some (v, l')) (g : w.grownBy w' (some rb)) (he : e = .returned v) (hr : Rdr w' rb l') : WentO rb o w e w' := ⟨g, by rw [h]; exact ⟨he, hr⟩⟩
theorem grown_alloc_one {w w' : World} {row : Option Nat} (h : w.grownBy w' row) (o : Obj) : w.grownBy (w'.alloc o) row :=
  h.trans (World.grownBy_alloc w' o row)
set_option maxHeartbeats 1000000 in
theorem iRatioR (rb : Nat) (l : List UInt8) (w : World) (h : Rdr w rb l) (hl : l.length ≤ 16777216) (tb : Tab w) (hr : 1 < rb) :
    Calls Tryz.prog 58 #[.pointer (some ⟨rb, 0, none⟩)] w (WentO rb (goR1 l) w) := by
  have hlt := Blk1.lt h
  have NU := iNumber rb l (w.alloc (.cells #[.int .i64 0, .int .i64 0] 40)) (Blk1.old h _) hl (tb.below ((Below.refl _ _).alloc (Nat.le_refl _) _))
  have TB := Lib.hid (tb.below ((Below.refl _ _).alloc (Nat.le_refl _) (.cells #[.int .i64 0, .int .i64 0] 40)))
  obtain ⟨o, ho⟩ : ∃ o, goR1 l = o := ⟨_, rfl⟩
  obtain ⟨n, hn⟩ : ∃ o, (numT (headN l)).1 = o := ⟨_, rfl⟩
  obtain ⟨ok1, h1⟩ : ∃ o, (numT (headN l)).2 = o := ⟨_, rfl⟩
  obtain ⟨t, ht⟩ : ∃ o, tailN l = o := ⟨_, rfl⟩
  obtain ⟨q, hq⟩ : ∃ o, Lib.trimPrefix t [47] = o := ⟨_, rfl⟩
  obtain ⟨hp, hh⟩ : ∃ o, Lib.hasPrefix t [47] = o := ⟨_, rfl⟩
  obtain ⟨d, hd⟩ : ∃ o, (numT (headN q)).1 = o := ⟨_, rfl⟩
  obtain ⟨ok2, h2⟩ : ∃ o, (numT (headN q)).2 = o := ⟨_, rfl⟩
  obtain ⟨t2, ht2⟩ : ∃ o, tailN q = o := ⟨_, rfl⟩
  have HO := Lib.hid (ho.symm.trans (goR1_at l n d ok1 hp ok2 t q t2 hn h1 ht hq hh hd h2 ht2))
  have lq : q.length ≤ 16777216 := by
    have := trimPrefix_len t [47]
    have := tailN_len l
    rw [hq] at *
    rw [ht] at *
    omega
  have WO : ∀ w, Rdr w rb t → Calls Tryz.prog 97 #[.pointer (some ⟨rb, 0, none⟩), .string ⟨#[47]⟩] w (Went rb (.tuple #[]) q hp w) := fun w h => by
    rw [← hq, ← hh]; exact iWord rb t [47] w h
  have N2 : ∀ w, Rdr w rb q → Tab w → Calls Tryz.prog 98 #[.pointer (some ⟨rb, 0, none⟩)] w (Went rb (.int .i64 d) t2 ok2 w) := fun w h tb => by
    rw [← hd, ← h2, ← ht2]; exact iNumber rb q w h lq tb
  rw [ho]
  rw [hn, h1, ht] at NU
  have WOH := Lib.hid WO
  have N2H := Lib.hid N2
  have LT := Lib.hid hlt
  have HR := Lib.hid hr
  have hne : w.heap.size ≠ rb := by omega
  clear ho hn h1 ht hq hh hd h2 ht2 h tb hl lq WO N2 hlt hr
  go_enter Tryz.func58, Tryz.ntmps58
  go_wp2_with fail
  refine NU.mono ?_
  clear NU
  rintro e w1 ⟨g1, h1⟩
  have G1 : Hid ((w.alloc (.cells #[.int .i64 0, .int .i64 0] 40)).grownBy w1 (some rb)) := Lib.hid g1
  have GW1 : Hid (w.grownBy w1 (some rb)) := Lib.hid ((World.grownBy_alloc w _ _).trans g1)
  have K1 : Hid (Blk2 w1 w.heap.size 40 (.int .i64 0) (.int .i64 0)) := Blk2.keepOne (Blk2.at_ _ _ _ rfl) g1 hne
  clear g1
  cases ok1 with
  | false =>
    have E : Hid (o = none) := HO.out
    rw [if_neg (by decide)] at h1
    cases h1
    go_wp2_with fail
    exact ⟨rfl, wentO_no E.out GW1.out rfl⟩
  | true =>
    rw [if_pos rfl] at h1
    obtain ⟨rfl, r1⟩ := h1
    have R1 := Lib.hid r1
    have c1 := Blk1.cell0 r1
    clear r1
    by_cases ht : t = []
    · subst ht
      have E : Hid (o = some (ratV (n, 1), [])) := by rw [HO.out]; rfl
      obtain ⟨k0, k1, k2, k3⟩ := K1.out.all
      go_wp2_with fail
      have KF := (K1.out.set0 (.int .i64 n)).set1 (.int .i64 1)
      have e0 := KF.cell0
      have e1 := KF.cell1
      refine bodyPost_ret (v := ratV (n, 1)) (by simp [results, Tryz.results58, go_sem, ratV, e0, e1]) rfl ?_
      exact wentO_yes E.out (grown_set_new (grown_set_new GW1.out (by simp) _) (by simp) _) rfl (Blk1.far (Blk1.far R1.out hne.symm _) hne.symm _)
    · obtain ⟨c, s, rfl⟩ : ∃ c s, t = c :: s := by
        cases t with
        | nil => exact absurd rfl ht
        | cons c s => exact ⟨c, s, rfl⟩
      clear ht
      have HO2 : Hid (o = if hp = true then if ok2 = true then if isRat n d = true ∧ d ≠ 1 then some (ratV (n, d), t2) else none else none else none) := by rw [HO.out]; rfl
      have eq0 : ((c :: s : List UInt8) == []) = false := rfl
      go_wp2_with fail
      refine (WOH.out _ R1.out).mono ?_
      rintro e w2 ⟨g2, h2⟩
      have GW2 : Hid (w.grownBy w2 (some rb)) := Lib.hid (GW1.out.trans g2)
      have K2 : Hid (Blk2 w2 w.heap.size 40 (.int .i64 0) (.int .i64 0)) := Blk2.keepOne K1.out g2 hne
      have T2 : Hid (Tab w2) := gTab_lt_of TB.out (G1.out.trans g2) HR.out (by have := LT.out; simp; omega)
      clear g2
      cases hp with
      | false =>
        have E : Hid (o = none) := HO2.out
        rw [if_neg (by decide)] at h2
        cases h2
        go_wp2_with fail
        exact ⟨rfl, wentO_no E.out GW2.out rfl⟩
      | true =>
        rw [if_pos rfl] at h2
        obtain ⟨rfl, r2⟩ := h2
        go_wp2_with fail
        refine (N2H.out _ r2 T2.out).mono ?_
        rintro e w3 ⟨g3, h3⟩
        have GW3 : Hid (w.grownBy w3 (some rb)) := Lib.hid (GW2.out.trans g3)
        have K3 : Hid (Blk2 w3 w.heap.size 40 (.int .i64 0) (.int .i64 0)) := Blk2.keepOne K2.out g3 hne
        clear g3
        cases ok2 with
        | false =>
          have E : Hid (o = none) := HO2.out
          rw [if_neg (by decide)] at h3
          cases h3
          go_wp2_with fail
          exact ⟨rfl, wentO_no E.out GW3.out rfl⟩
        | true =>
          rw [if_pos rfl] at h3
          obtain ⟨rfl, r3⟩ := h3
          have R3 := Lib.hid r3
          clear r3
          have A3 : Hid (Blk2 (w3.alloc (.cells #[.int .i64 n, .int .i64 d] 40)) w3.heap.size 40 (.int .i64 n) (.int .i64 d)) := Blk2.at_ _ _ _ rfl
          have KA : Hid (Blk2 (w3.alloc (.cells #[.int .i64 n, .int .i64 d] 40)) w.heap.size 40 (.int .i64 0) (.int .i64 0)) := K3.out.old _
          have RA : Hid (Rdr (w3.alloc (.cells #[.int .i64 n, .int .i64 d] 40)) rb t2) := Blk1.old R3.out _
          have GA : Hid (w.grownBy (w3.alloc (.cells #[.int .i64 n, .int .i64 d] 40)) (some rb)) := grown_alloc_one GW3.out _
          have IS := iIsRat n d (w3.alloc (.cells #[.int .i64 n, .int .i64 d] 40))
          obtain ⟨b, hb⟩ : ∃ b, isRat n d = b := ⟨_, rfl⟩
          rw [hb] at IS
          have HB := Lib.hid hb
          clear hb
          have l3 : w.heap.size < w3.heap.size := K3.out.lt
          have l4 : rb < w3.heap.size := Blk1.lt R3.out
          go_wp2_with fail
          refine IS.mono ?_
          clear IS
          rintro e w4 ⟨rfl, b4⟩
          have A4 : Hid (Blk2 w4 w3.heap.size 40 (.int .i64 n) (.int .i64 d)) := A3.out.keep b4 (by simp)
          have K4 : Hid (Blk2 w4 w.heap.size 40 (.int .i64 0) (.int .i64 0)) := KA.out.keep b4 (by simp; omega)
          have R4 : Hid (Rdr w4 rb t2) := Blk1.keep RA.out b4 (by simp; omega)
          have G4 : Hid (w.grownBy w4 (some rb)) := GA.out.trans (grown_of_below b4 _)
          clear b4
          obtain ⟨a0, a1, a2, a3⟩ := A4.out.all
          obtain ⟨k0, k1, k2, k3⟩ := K4.out.all
          cases b with
          | false =>
            have E : Hid (o = none) := Lib.hid (by have h := HO2.out; simp only [if_true, HB.out] at h; rw [h]; simp)
            go_wp2_with fail
            refine (iNeed_f _ _).mono ?_
            rintro e w5 ⟨rfl, rfl⟩
            go_wp2_with fail
            exact ⟨rfl, wentO_no E.out G4.out rfl⟩
          | true =>
            by_cases hd1 : d = 1
            · subst hd1
              have E : Hid (o = none) := Lib.hid (by have h := HO2.out; simp only [if_true, HB.out] at h; rw [h]; simp)
              go_wp2_with fail
              refine (iNeed_f _ _).mono ?_
              rintro e w5 ⟨rfl, rfl⟩
              go_wp2_with fail
              exact ⟨rfl, wentO_no E.out G4.out rfl⟩
            · have E : Hid (o = some (ratV (n, d), t2)) := Lib.hid (by have h := HO2.out; simp only [if_true, HB.out] at h; rw [h]; simp [hd1])
              have dn : (d == 1) = false := by simpa using hd1
              have dn2 : (d != 1) = true := by simpa using hd1
              clear hd1
              go_wp2_with fail
              refine (iNeed_t _ _).mono ?_
              rintro e w5 ⟨rfl, rfl⟩
              go_wp2_with fail
              have KF := (K4.out.set0 (.int .i64 n)).set1 (.int .i64 d)
              have e0 := KF.cell0
              have e1 := KF.cell1
              refine bodyPost_ret (v := ratV (n, d)) (by simp [results, Tryz.results58, go_sem, ratV, e0, e1]) rfl ?_
              exact wentO_yes E.out (grown_set_new (grown_set_new G4.out (by simp) _) (by simp) _) rfl (Blk1.far (Blk1.far R4.out hne.symm _) hne.symm _)
theorem catchR_panic (x : PanicEntry) (u : TypeId) (pv : Value) (hx : x = { v := .iface u pv, recovered := false }) (older : List PanicEntry) (w : World) :
    CallsD Tryz.prog 99 #[] (.panicking (x :: older)) w fun e u' w' =>
      e = .returned (.tuple #[]) ∧ u' = .panicking ({ v := .iface u pv, recovered := true } :: older) ∧ w' = w := by
  subst hx
  refine callsD_of_wpS Tryz.func99 rfl fun c₀ cs hu => ?_
  apply wpS_region
  simp [wpOpsS, go_sem, recoverD, hu, Tryz.ntmps99, bodyPostS, results, Tryz.results99]
theorem catchR_idle (w : World) :
    CallsD Tryz.prog 99 #[] .returning w fun e u' w' => e = .returned (.tuple #[]) ∧ u' = .returning ∧ w' = w := by
  refine callsD_of_wpS Tryz.func99 rfl fun c₀ cs hu => ?_
  apply wpS_region
  simp [wpOpsS, go_sem, recoverD, hu, Tryz.ntmps99, bodyPostS, results, Tryz.results99]
  cases c₀
  simp_all
theorem goR1_none {l : List UInt8} (h : goR1 l = none) : parR l = ((0, 0), false) := by
  rw [goR_parR]
  have e : goR l = none := by
    unfold goR1 at h
    unfold goR
    split at h
    · split at h
      · cases h
      · rename_i h1 h2
        rw [if_pos h1, if_neg h2]
        split at h
        · rename_i h3
          rw [if_pos h3]
          split at h
          · rename_i h4
            rw [if_pos h4]
            split at h
            · cases h
            · rename_i h5
              rw [if_neg (fun k => h5 k.1)]
          · rename_i h4
            rw [if_neg h4]
        · rename_i h3
          rw [if_neg h3]
    · rename_i h1
      rw [if_neg h1]
  rw [e]
theorem goR1_some {l : List UInt8} {v : Value} {l' : List UInt8} (h : goR1 l = some (v, l')) : ∃ n d : Int, v = ratV (n, d) ∧ (l' = [] → parR l = ((n, d), true)) ∧ (l' ≠ [] → parR l = ((0, 0), false)) := by
  rw [goR_parR]
  unfold goR1 at h
  unfold goR
  split at h
  · rename_i h1
    rw [if_pos h1]
    split at h
    · rename_i h2
      rw [if_pos h2]
      injection h with h
      injection h with hv hl
      exact ⟨_, _, hv.symm, fun _ => rfl, fun k => absurd hl.symm k⟩
    · rename_i h2
      rw [if_neg h2]
      split at h
      · rename_i h3
        rw [if_pos h3]
        split at h
        · rename_i h4
          rw [if_pos h4]
          split at h
          · rename_i h5
            injection h with h
            injection h with hv hl
            refine ⟨_, _, hv.symm, fun k => ?_, fun k => ?_⟩
            · rw [if_pos ⟨h5, hl.trans k⟩]
            · rw [if_neg (fun x => k (hl.symm.trans x.2))]
          · cases h
        · cases h
      · cases h
  · cases h
set_option maxHeartbeats 1000000 in
theorem iReadAllR (l : List UInt8) (w : World) (hl : l.length ≤ 16777216) (tb : Tab w) :
    Calls Tryz.prog 57 #[.string ⟨l.toArray⟩, .func (.func 58) #[] #[]] w (Gives (parV (parR l)) w) := by
  have TB := Lib.hid tb
  have LT := Lib.hid tb.lt
  have HL := Lib.hid hl
  obtain ⟨z, hz⟩ : ∃ z, parR l = z := ⟨_, rfl⟩
  have HZ := Lib.hid hz
  rw [hz]
  clear tb hl hz
  go_enter_defers Tryz.func57, Tryz.ntmps57
  go_wp2_with fail
  have K0 : Hid (Blk2 ((w.alloc (.cells #[.int .i64 0, .int .i64 0] 40)).alloc (.cells #[.string ⟨l.toArray⟩] 110)) w.heap.size 40 (.int .i64 0) (.int .i64 0)) := (Blk2.at_ _ _ _ rfl).old _
  have R0 : Hid (Rdr ((w.alloc (.cells #[.int .i64 0, .int .i64 0] 40)).alloc (.cells #[.string ⟨l.toArray⟩] 110)) (w.heap.size + 1) l) := Blk1.at_ _ _ (by simp)
  have B0 : Hid (Below w.heap.size w ((w.alloc (.cells #[.int .i64 0, .int .i64 0] 40)).alloc (.cells #[.string ⟨l.toArray⟩] 110))) := ((Below.refl _ _).alloc (Nat.le_refl _) _).alloc (by simp) _
  obtain ⟨o, ho⟩ : ∃ o, goR1 l = o := ⟨_, rfl⟩
  have RA := iRatioR (w.heap.size + 1) l _ R0.out HL.out (TB.out.below B0.out) (by have := LT.out; omega)
  rw [ho] at RA
  have HO := Lib.hid ho
  clear ho
  refine RA.mono ?_
  clear RA
  rintro e w1 ⟨g1, h1⟩
  have K1 : Hid (Blk2 w1 w.heap.size 40 (.int .i64 0) (.int .i64 0)) := K0.out.keepOne g1 (by omega)
  have B1 : Hid (Below w.heap.size w w1) := B0.out.trans (below_of_one g1 (by omega) (by simp; omega))
  clear g1
  cases o with
  | none =>
    have E : Hid (z = ((0, 0), false)) := Lib.hid (by rw [← HZ.out]; exact goR1_none HO.out)
    cases h1
    go_wp2_with fail
    refine leaves_cons (f := 99) (args := #[]) (by simp) (by simp [go_sem]) ?_
    refine (catchR_panic _ _ _ rfl [] _).mono ?_
    rintro e u' w'' ⟨rfl, rfl, rfl⟩
    have e0 := K1.out.cell0
    have e1 := K1.out.cell1
    rw [E.out]
    simp [Leaves, settle, results, Tryz.results57, go_sem, e0, e1, Gives, parV, ratV]
    exact B1.out
  | some p =>
    obtain ⟨v, l'⟩ := p
    obtain ⟨rfl, r1⟩ := h1
    obtain ⟨n, d, rfl, ey, en⟩ := goR1_some HO.out
    have EY := Lib.hid ey
    have EN := Lib.hid en
    clear ey en
    have c1 := Blk1.cell0 r1
    have R1 := Lib.hid r1
    have lt1 : w.heap.size < w1.heap.size := K1.out.lt
    have V1 : Hid (Blk2 (w1.alloc (.cells #[.int .i64 n, .int .i64 d] 40)) w1.heap.size 40 (.int .i64 n) (.int .i64 d)) := Blk2.at_ _ _ _ rfl
    have B2 : Hid (Below w.heap.size w (w1.alloc (.cells #[.int .i64 n, .int .i64 d] 40))) := B1.out.alloc B1.out.size _
    have K2 : Hid (Blk2 (w1.alloc (.cells #[.int .i64 n, .int .i64 d] 40)) w.heap.size 40 (.int .i64 0) (.int .i64 0)) := K1.out.old _
    have c2 := Blk1.cell0 (Blk1.old r1 (.cells #[.int .i64 n, .int .i64 d] 40))
    clear r1 c1
    unfold ratV
    simp only
    have EY2 : Hid (l' = [] → z = ((n, d), true)) := fun h => by rw [← HZ.out]; exact EY.out h
    have EN2 : Hid (l' ≠ [] → z = ((0, 0), false)) := fun h => by rw [← HZ.out]; exact EN.out h
    clear EY EN HO
    cases l' with
    | nil =>
      have E : Hid (z = ((n, d), true)) := EY2.out rfl
      obtain ⟨k0, k1, k2, k3⟩ := K1.out.all
      go_wp2_with fail
      refine (iNeed_t _ _).mono ?_
      rintro e w5 ⟨rfl, rfl⟩
      go_wp2_with fail
      refine leaves_cons (f := 99) (args := #[]) (by simp) (by simp [go_sem]) ?_
      refine (catchR_idle _).mono ?_
      rintro e u' w'' ⟨rfl, rfl, rfl⟩
      have KF := ((K1.out.set0 (.int .i64 n)).set1 (.int .i64 d)).old (.cells #[.int .i64 n, .int .i64 d] 40)
      have e0 := KF.cell0
      have e1 := KF.cell1
      rw [E.out]
      simp [Leaves, settle, results, Tryz.results57, go_sem, e0, e1, Gives, parV, ratV]
      have b1 := B1.out.size
      repeat (first | exact B1.out | refine Below.setCell ?_ (by exact Nat.le_refl _) _ | refine Below.alloc ?_ (by first | exact b1 | simpa using b1) _)
    | cons c s =>
      have E : Hid (z = ((0, 0), false)) := EN2.out (by simp)
      have eq0 : ((c :: s : List UInt8) == []) = false := rfl
      go_wp2_with fail
      refine (iNeed_f _ _).mono ?_
      rintro e w5 ⟨rfl, rfl⟩
      go_wp2_with fail
      refine leaves_cons (f := 99) (args := #[]) (by simp) (by simp [go_sem]) ?_
      refine (catchR_panic _ _ _ rfl [] _).mono ?_
      rintro e u' w'' ⟨rfl, rfl, rfl⟩
      have e0 := K2.out.cell0
      have e1 := K2.out.cell1
      rw [E.out]
      simp [Leaves, settle, results, Tryz.results57, go_sem, e0, e1, Gives, parV, ratV]
      exact B2.out
set_option maxHeartbeats 400000 in
theorem iParseRatio (l : List UInt8) (w : World) (hl : l.length ≤ 16777216) (tb : Tab w) :
    Calls Tryz.prog 20 #[.string ⟨l.toArray⟩] w (Gives (parV (parR l)) w) := by
  have B0 : Hid (Below w.heap.size w (w.alloc (.cells #[.int .i64 0, .int .i64 0] 40))) := (Below.refl _ _).alloc (Nat.le_refl _) _
  have K0 : Hid (Blk2 (w.alloc (.cells #[.int .i64 0, .int .i64 0] 40)) w.heap.size 40 (.int .i64 0) (.int .i64 0)) := Blk2.at_ _ _ _ rfl
  have RA := iReadAllR l (w.alloc (.cells #[.int .i64 0, .int .i64 0] 40)) hl (tb.below B0.out)
  obtain ⟨z, hz⟩ : ∃ z, parR l = z := ⟨_, rfl⟩
  rw [hz] at RA ⊢
  obtain ⟨⟨n, d⟩, b⟩ := z
  clear hz hl tb
  unfold parV ratV at RA
  simp only at RA
  go_enter Tryz.func20, Tryz.ntmps20
  go_wp2_with fail
  refine RA.mono ?_
  clear RA
  rintro e w1 ⟨rfl, b1⟩
  have K1 : Hid (Blk2 w1 w.heap.size 40 (.int .i64 0) (.int .i64 0)) := K0.out.keep b1 (by simp)
  have B1 : Hid (Below w.heap.size w w1) := B0.out.trans (b1.mono (by simp))
  obtain ⟨k0, k1, k2, k3⟩ := K1.out.all
  clear b1
  go_wp2_with fail
  have KF := (K1.out.set0 (.int .i64 n)).set1 (.int .i64 d)
  have e0 := KF.cell0
  have e1 := KF.cell1
  refine bodyPost_ret (v := parV ((n, d), b)) (by simp [results, Tryz.results20, go_sem, parV, ratV, e0, e1]) rfl ?_
  exact ⟨rfl, (B1.out.setCell (by simp) _).setCell (by simp) _⟩
end Go.Proofs.YtcapddcmnjeloaaGreatDoor
end

section
/-
  Chapter 4's mathematics, as the program's reader goes: a matrix.
-/
namespace Go.Proofs.YtcapddcmnjeloaaGreatDoor
open Go.RowKit
open Go.Lib (decDigits itoa nDigits)
noncomputable def cellStep (r c : Nat) (l : List UInt8) : Option (Int × List UInt8) :=
  if Lib.hasPrefix l (gapT r c) = true then
    if (numT (headN (Lib.trimPrefix l (gapT r c)))).2 = true then some ((numT (headN (Lib.trimPrefix l (gapT r c)))).1, tailN (Lib.trimPrefix l (gapT r c))) else none
  else none
noncomputable def cellsAt (C : Nat) (s : List UInt8) : Nat → Option (List Int × List UInt8)
  | 0 => some ([], s)
  | k + 1 => match cellsAt C s k with
    | none => none
    | some (zs, l) => match cellStep (k / C) (k % C) l with
      | none => none
      | some (z, t) => some (zs ++ [z], t)
noncomputable def goM1 (s : List UInt8) : Option ((Int × Int × List Int) × List UInt8) :=
  if sizeOk s = true then
    if Lib.hasPrefix (tailN s) [120] = true then
      if sizeOk (Lib.trimPrefix (tailN s) [120]) = true then
        if Lib.hasPrefix (tailN (Lib.trimPrefix (tailN s) [120])) [91] = true then
          match cellsAt (numT (headN (Lib.trimPrefix (tailN s) [120]))).1.toNat (Lib.trimPrefix (tailN (Lib.trimPrefix (tailN s) [120])) [91]) ((numT (headN s)).1.toNat * (numT (headN (Lib.trimPrefix (tailN s) [120]))).1.toNat) with
          | none => none
          | some (zs, l) => if Lib.hasPrefix l [93] = true then some (((numT (headN s)).1, (numT (headN (Lib.trimPrefix (tailN s) [120]))).1, zs), Lib.trimPrefix l [93]) else none
        else none
      else none
    else none
  else none
theorem cellStep_says {r c : Nat} {l : List UInt8} {z : Int} {t : List UInt8} (h : cellStep r c l = some (z, t)) : l = gapT r c ++ itoa z ++ t ∧ -400000000 ≤ z ∧ z ≤ 400000000 := by
  unfold cellStep at h
  split at h
  · rename_i h1
    split at h
    · rename_i h2
      injection h with h
      injection h with hz ht
      obtain ⟨e, b⟩ := read_says h2
      have p := prefix_says h1
      rw [hz, ht] at e
      rw [hz] at b
      exact ⟨by conv => lhs; rw [p, e]
                rw [List.append_assoc], b⟩
    · cases h
  · cases h
theorem cellStep_text {r c : Nat} {z : Int} {t : List UInt8} (hz : -400000000 ≤ z ∧ z ≤ 400000000) (ht : Stop t) : cellStep r c (gapT r c ++ (itoa z ++ t)) = some (z, t) := by
  have p := prefix_of (gapT r c) (itoa z ++ t)
  have q := read_itoa (v := z) hz ht
  have r' := read_num z t ht
  unfold cellStep
  rw [if_pos p.1, p.2, q, if_pos rfl, r'.2]
theorem nums_more {zs : List Int} {z : Int} (h : nums zs = true) (hz : -400000000 ≤ z ∧ z ≤ 400000000) : nums (zs ++ [z]) = true := by
  unfold nums at h ⊢
  rw [List.all_append, h]
  simp [NumP, hz]
theorem cellsAt_len {C : Nat} {s : List UInt8} {k : Nat} {zs : List Int} {l : List UInt8} (h : cellsAt C s k = some (zs, l)) : zs.length = k ∧ nums zs = true ∧ l.length ≤ s.length := by
  induction k generalizing zs l with
  | zero =>
    injection h with h
    injection h with h1 h2
    rw [← h1, ← h2]
    exact ⟨rfl, rfl, Nat.le_refl _⟩
  | succ k ih =>
    unfold cellsAt at h
    split at h
    · cases h
    · rename_i zs' l' e1
      split at h
      · cases h
      · rename_i z t e2
        injection h with h
        injection h with h1 h2
        obtain ⟨i1, i2, i3⟩ := ih e1
        obtain ⟨j1, j2⟩ := cellStep_says e2
        rw [← h1, ← h2]
        refine ⟨by rw [List.length_append, i1]; rfl, nums_more i2 j2, ?_⟩
        have := congrArg List.length j1
        simp only [List.length_append] at this
        omega
theorem mtx_less (t : List UInt8) (C : Nat) (xs ys : List Int) (i : Nat) (hi : i ≤ xs.length) : mtx t C (xs ++ ys) i = mtx t C xs i := by
  induction i with
  | zero => rfl
  | succ i ih =>
    unfold mtx
    rw [ih (by omega)]
    have e : (xs ++ ys).getD i 0 = xs.getD i 0 := by
      unfold List.getD
      rw [List.getElem?_append_left (by omega)]
    rw [e]
theorem cellsAt_says {C : Nat} (hC : 0 < C) {s : List UInt8} {k : Nat} {zs : List Int} {l : List UInt8} (h : cellsAt C s k = some (zs, l)) : s = mtx [] C zs k ++ l := by
  induction k generalizing zs l with
  | zero =>
    injection h with h
    injection h with h1 h2
  | succ k ih =>
    unfold cellsAt at h
    split at h
    · cases h
    · rename_i zs' l' e1
      split at h
      · cases h
      · rename_i z t e2
        injection h with h
        injection h with h1 h2
        obtain ⟨i1, -, -⟩ := cellsAt_len e1
        obtain ⟨j1, -⟩ := cellStep_says e2
        have e := ih e1
        rw [← h1, ← h2, mtx_gap C _ k hC, mtx_less _ _ _ _ _ (by omega)]
        have eg : (zs' ++ [z]).getD k 0 = z := by
          unfold List.getD
          rw [List.getElem?_append_right (by omega), i1, Nat.sub_self]; rfl
        rw [eg]
        conv => lhs; rw [e, j1]
        try simp only [List.append_assoc]
def sfx (C : Nat) (xs : List Int) : Nat → Nat → List UInt8
  | _, 0 => [93]
  | k, m + 1 => gapT (k / C) (k % C) ++ (itoa (xs.getD k 0) ++ sfx C xs (k + 1) m)
theorem sfx_stop (C : Nat) (xs : List Int) (k m : Nat) (hC : 0 < C) (hk : 0 < k) : Stop (sfx C xs k m) := by
  cases m with
  | zero => exact stop_cons _ _ (by decide)
  | succ m =>
    show Stop (gapT (k / C) (k % C) ++ _)
    rcases Nat.eq_zero_or_pos (k % C) with h | h
    · have h3 : 0 < k / C := Nat.div_pos (Nat.le_of_dvd hk (Nat.dvd_of_mod_eq_zero h)) hC
      have e : gapT (k / C) (k % C) = [59] := by unfold gapT; rw [if_neg (by omega), if_pos h3]
      rw [e]
      exact stop_cons _ _ (by decide)
    · have e : gapT (k / C) (k % C) = [32] := by unfold gapT; rw [if_pos h]
      rw [e]
      exact stop_cons _ _ (by decide)
theorem sfx_all (C : Nat) (hC : 0 < C) (xs : List Int) (n k : Nat) (hk : k ≤ n) : mtx [] C xs k ++ sfx C xs k (n - k) = mtx [] C xs n ++ [93] := by
  obtain ⟨m, rfl⟩ : ∃ m, n = k + m := ⟨n - k, by omega⟩
  clear hk
  rw [Nat.add_sub_cancel_left]
  induction m generalizing k with
  | zero => rfl
  | succ m ih =>
    have := ih (k + 1)
    rw [show k + 1 + m = k + (m + 1) by omega, mtx_gap C xs k hC] at this
    rw [← this]
    show mtx [] C xs k ++ (gapT (k / C) (k % C) ++ (itoa (xs.getD k 0) ++ sfx C xs (k + 1) m)) = _
    simp only [List.append_assoc]
theorem cellsAt_text (C : Nat) (hC : 0 < C) (xs : List Int) (hx : nums xs = true) (k : Nat) (hk : k ≤ xs.length) : cellsAt C (mtx [] C xs xs.length ++ [93]) k = some (xs.take k, sfx C xs k (xs.length - k)) := by
  induction k with
  | zero =>
    have e := sfx_all C hC xs xs.length 0 (Nat.zero_le _)
    show some (_, _) = _
    rw [← e]; rfl
  | succ k ih =>
    have e := ih (by omega)
    unfold cellsAt
    rw [e]
    simp only
    obtain ⟨m, hm⟩ : ∃ m, xs.length - k = m + 1 := ⟨xs.length - k - 1, by omega⟩
    have nk := nums_at hx (show k < xs.length by omega)
    rw [hm]
    show (match cellStep (k / C) (k % C) (gapT (k / C) (k % C) ++ (itoa (xs.getD k 0) ++ sfx C xs (k + 1) m)) with | none => none | some (z, t) => some (xs.take k ++ [z], t)) = _
    rw [cellStep_text nk (sfx_stop C xs (k + 1) m hC (by omega))]
    simp only
    rw [show xs.length - (k + 1) = m by omega, List.take_add_one, List.getElem?_eq_getElem (by omega)]
    simp [List.getD, show k < xs.length by omega]
theorem goM1_says {s : List UInt8} {r c : Int} {zs : List Int} (h : goM1 s = some ((r, c, zs), [])) : isMat r c zs = true ∧ matText r.toNat c.toNat zs = s := by
  unfold goM1 at h
  split at h
  · rename_i h1
    split at h
    · rename_i h2
      split at h
      · rename_i h3
        split at h
        · rename_i h4
          split at h
          · cases h
          · rename_i zs' l e5
            split at h
            · rename_i h6
              injection h with h
              injection h with h h7
              injection h with hr h
              injection h with hc hz
              unfold sizeOk at h1 h3
              rw [Bool.and_eq_true] at h1 h3
              obtain ⟨a1, b1⟩ := read_says h1.1
              obtain ⟨a3, b3⟩ := read_says h3.1
              have s1 : SizeP r := by rw [← hr]; exact of_decide_eq_true h1.2
              have s3 : SizeP c := by rw [← hc]; exact of_decide_eq_true h3.2
              have a2 := prefix_says h2
              have a4 := prefix_says h4
              have a6 := prefix_says h6
              obtain ⟨q1, q2, q3⟩ := cellsAt_len e5
              rw [h7, List.append_nil] at a6
              rw [hz] at q1 q2 e5
              rw [hr] at a1 q1 e5
              rw [hc] at a3 q1 e5
              unfold SizeP at s1 s3
              obtain ⟨R, rfl⟩ := Int.eq_ofNat_of_zero_le s1.1
              obtain ⟨C, rfl⟩ := Int.eq_ofNat_of_zero_le s3.1
              have im : isMat R C zs = true := by
                unfold isMat
                rw [q2, decide_eq_true (show SizeP (R : Int) from s1), decide_eq_true (show SizeP (C : Int) from s3)]
                simp only [Int.toNat_natCast] at q1
                have : (zs.length : Int) = R * C := by rw [q1]; exact Int.natCast_mul _ _
                simp [this]
              refine ⟨im, ?_⟩
              have body : Lib.trimPrefix (tailN (Lib.trimPrefix (tailN s) [120])) [91] = mtx [] C zs zs.length ++ l := by
                simp only [Int.toNat_natCast] at q1 e5
                rcases Nat.eq_zero_or_pos C with h0 | h0
                · subst h0
                  obtain rfl : zs = [] := List.eq_nil_of_length_eq_zero (by rw [q1]; rfl)
                  rw [Nat.mul_zero] at e5
                  injection e5 with e5
                  injection e5 with _ e5
                · rw [← q1] at e5
                  exact cellsAt_says h0 e5
              show mtx (itoa ((R : Int).toNat : Int) ++ [120] ++ itoa ((C : Int).toNat : Int) ++ [91]) (C : Int).toNat zs zs.length ++ [93] = s
              rw [mtx_head]
              simp only [Int.toNat_natCast]
              conv => rhs; rw [a1, a2, a3, a4, body, a6]
              try simp only [List.append_assoc]
            · cases h
        · cases h
      · cases h
    · cases h
  · cases h
theorem goM1_text {R C : Nat} {xs : List Int} (h : isMat R C xs = true) : goM1 (matText R C xs) = some (((R : Int), (C : Int), xs), []) := by
  obtain ⟨⟨r1, r2⟩, ⟨c1, c2⟩, l1, hx⟩ := isMat_says h
  have e : matText R C xs = itoa R ++ ([120] ++ (itoa C ++ ([91] ++ (mtx [] C xs xs.length ++ [93])))) := by
    show mtx _ C xs xs.length ++ [93] = _
    rw [mtx_head]
    simp only [List.append_assoc]
  have st1 : Stop ([120] ++ (itoa C ++ ([91] ++ (mtx [] C xs xs.length ++ [93])))) := stop_cons _ _ (by decide)
  have st2 : Stop ([91] ++ (mtx [] C xs xs.length ++ [93])) := stop_cons _ _ (by decide)
  have n1 := read_itoa (v := R) ⟨by omega, by omega⟩ st1
  have n2 := read_itoa (v := C) ⟨by omega, by omega⟩ st2
  have t1 := (read_num R _ st1).2
  have t2 := (read_num C _ st2).2
  have p1 := prefix_of [120] (itoa C ++ ([91] ++ (mtx [] C xs xs.length ++ [93])))
  have p2 := prefix_of [91] (mtx [] C xs xs.length ++ [93])
  have hs1 : decide (SizeP (R : Int)) = true := decide_eq_true ⟨r1, r2⟩
  have hs2 : decide (SizeP (C : Int)) = true := decide_eq_true ⟨c1, c2⟩
  have hl : R * C = xs.length := by
    rw [← Int.natCast_mul] at l1; omega
  have cs : cellsAt C (mtx [] C xs xs.length ++ [93]) xs.length = some (xs, [93]) := by
    rcases Nat.eq_zero_or_pos C with h0 | h0
    · subst h0
      rw [Nat.mul_zero] at hl
      obtain rfl : xs = [] := List.eq_nil_of_length_eq_zero hl.symm
      rfl
    · have := cellsAt_text C h0 xs hx xs.length (Nat.le_refl _)
      rw [List.take_length, Nat.sub_self] at this
      exact this
  have k1 : sizeOk (itoa R ++ ([120] ++ (itoa C ++ ([91] ++ (mtx [] C xs xs.length ++ [93]))))) = true := by unfold sizeOk; rw [n1, hs1]; rfl
  have k2 : sizeOk (itoa C ++ ([91] ++ (mtx [] C xs xs.length ++ [93]))) = true := by unfold sizeOk; rw [n2, hs2]; rfl
  rw [e]
  unfold goM1
  rw [if_pos k1, t1, if_pos p1.1, p1.2, if_pos k2, t2, if_pos p2.1, p2.2, n1, n2]
  simp only [Int.toNat_natCast]
  rw [hl, cs]
  rfl
theorem goM1_none {s : List UInt8} (h : goM1 s = none) : parM s = MR.no := by
  refine parM_no fun hh => ?_
  obtain ⟨R, C, xs, h1, h2⟩ := (says_iff s).mp hh
  rw [← h2, goM1_text h1] at h
  cases h
theorem goM1_left {s : List UInt8} {m : Int × Int × List Int} {l : List UInt8} (h : goM1 s = some (m, l)) (hl : l ≠ []) : parM s = MR.no := by
  refine parM_no fun hh => ?_
  obtain ⟨R, C, xs, h1, h2⟩ := (says_iff s).mp hh
  rw [← h2, goM1_text h1] at h
  injection h with h
  injection h with _ h
  exact hl h.symm
theorem goM1_done {s : List UInt8} {r c : Int} {zs : List Int} (h : goM1 s = some ((r, c, zs), [])) : parM s = ⟨true, r, c, zs⟩ := by
  obtain ⟨h1, h2⟩ := goM1_says h
  obtain ⟨⟨r1, r2⟩, ⟨c1, c2⟩, -, -⟩ := isMat_says h1
  obtain ⟨R, rfl⟩ := Int.eq_ofNat_of_zero_le r1
  obtain ⟨C, rfl⟩ := Int.eq_ofNat_of_zero_le c1
  rw [← h2]
  exact parM_text h1
end Go.Proofs.YtcapddcmnjeloaaGreatDoor
end

section
/-
  Chapter 4, in the program: the reader's matrix, readAll over matrices, ParseMatrix.
-/
namespace Go.Proofs.YtcapddcmnjeloaaGreatDoor
open Go.RowKit
open Go.Lib (decDigits itoa nDigits)
def OwnA (B : Nat) (w : World) (v : Value) (zs : List Int) : Prop := w.ownsRow B 3 1 v zs.length (zs.map (Value.int .i64))
theorem OwnA.le {B : Nat} {w : World} {v : Value} {zs : List Int} (h : OwnA B w v zs) {k : Nat} (hk : v.ownBlock = some k) : B ≤ k := by
  rcases h.2 with ⟨rfl, -⟩ | ⟨g, cap, cur, rfl, hB, -⟩
  · cases hk
  · simp [Value.ownBlock] at hk; omega
theorem OwnA.ne_blk {B : Nat} {w : World} {v : Value} {zs : List Int} {b : Nat} {p q r : Value} (h : OwnA B w v zs) (hb : Blk3 w b 26 p q r) {k : Nat} (hk : v.ownBlock = some k) : k ≠ b := by
  rcases h.2 with ⟨rfl, -⟩ | ⟨g, cap, cur, rfl, hB, hg, -⟩
  · cases hk
  · simp only [Value.ownBlock, Option.some.injEq] at hk
    subst hk
    rintro rfl
    unfold Blk3 at hb
    rw [hg] at hb
    injection hb with hb
    injection hb with _ h2 _
    exact absurd h2 (by decide)
theorem OwnA.move {B : Nat} {w w' : World} {v : Value} {zs : List Int} (h : OwnA B w v zs) (hb : ∀ k, v.ownBlock = some k → w'.heap[k]? = w.heap[k]?) : OwnA B w' v zs := by
  obtain ⟨h1, ⟨h2, h3⟩ | ⟨g, cap, cur, rfl, hB, hg, rest⟩⟩ := h
  · exact ⟨h1, .inl ⟨h2, h3⟩⟩
  · exact ⟨h1, .inr ⟨g, cap, cur, rfl, hB, (hb g rfl).trans hg, rest⟩⟩
theorem OwnA.lt {B : Nat} {w : World} {v : Value} {zs : List Int} (h : OwnA B w v zs) {k : Nat} (hk : v.ownBlock = some k) : k < w.heap.size := by
  rcases h.2 with ⟨rfl, -⟩ | ⟨g, cap, cur, rfl, hB, hg, -⟩
  · cases hk
  · simp only [Value.ownBlock, Option.some.injEq] at hk
    subst hk
    exact lt_of_block hg
theorem OwnA.one {B rb : Nat} {w w' : World} {v : Value} {zs : List Int} (h : OwnA B w v zs) (hg : w.grownBy w' (some rb)) (hr : rb < B) : OwnA B w' v zs :=
  h.move fun k hk => hg.block k (h.lt hk) (by have := h.le hk; simp; omega)
theorem OwnA.drew {B : Nat} {w : World} {v : Value} {zs : List Int} (h : OwnA B w v zs) : OwnA B w.drew v zs := h
theorem OwnA.keep {B : Nat} {w w' : World} {v : Value} {zs : List Int} (h : OwnA B w v zs) (hb : Below w.heap.size w w') : OwnA B w' v zs := h.move fun k hk => hb.block k (h.lt hk)
theorem OwnA.form {B : Nat} {w : World} {v : Value} {zs : List Int} (h : OwnA B w v zs) : ∃ a c, v = .slice a zs.length c := by
  obtain ⟨h1, ⟨h2, h3⟩ | ⟨g, cap, cur, e, hB, hg, rest⟩⟩ := h
  · exact ⟨_, _, by rw [h2, h3]⟩
  · exact ⟨_, _, e⟩
theorem OwnA.own {B : Nat} {w : World} {v : Value} {zs : List Int} (h : OwnA B w v zs) (hn : zs.length ≤ 16777216) : Own B w v zs := Own.of_row h hn
theorem OwnA.nil (B : Nat) (w : World) : OwnA B w (.slice none 0 0) [] := ⟨rfl, .inl ⟨rfl, rfl⟩⟩
theorem appendOne (B : Nat) (w : World) (v : Value) (zs : List Int) (z : Int) (n : Nat) (hn : zs.length = n) (h : OwnA B w v zs) (hb : n ≤ 1000000) (hB : B ≤ w.heap.size) :
    ∃ v' w', (Builtin.append_ #[24, 24] 24 #[v, .slice (some ⟨w.heap.size, 0, none⟩) 1 1]).run Tryz.prog (w.alloc (.cells #[.int .i64 z] 3)) = .ok v' w' ∧ OwnA B w' v' (zs ++ [z]) ∧ (w.alloc (.cells #[.int .i64 z] 3)).grownBy w' v.ownBlock := by
  obtain ⟨fi, hfi, hz0, hz1, hz2⟩ := facts_int
  subst hn
  have h' : OwnA B (w.alloc (.cells #[.int .i64 z] 3)) v zs := h.keep ((Below.refl _ _).alloc (Nat.le_refl _) _)
  obtain ⟨v', w', hr, h2, h3, h4, -⟩ := run_append_own_at (P := Tryz.prog) (w.alloc (.cells #[.int .i64 z] 3)) B 24 24 3 fi (.int .i64 0) 1 8 underlying_ints hfi hz0 hz1 hz2 rfl (by decide) v zs.length _ h' ⟨w.heap.size, 0, none⟩ 1 1 [.int .i64 z] rfl (cell_one_new _ _ _)
    (by intro u hu; obtain rfl := List.mem_singleton.mp hu; rfl) (by unfold maxLen; omega) (by omega) (by simp; omega)
  refine ⟨v', w', hr, ?_, h3⟩
  unfold OwnA
  rw [List.length_append, List.map_append]
  exact h2
def WentM (rb : Nat) (o : Option ((Int × Int × List Int) × List UInt8)) (w : World) (e : Ending) (w' : World) : Prop :=
  w.grownBy w' (some rb) ∧ match o with | some ((r, c, zs), l') => ∃ v, e = .returned (.agg #[.int .i64 r, .int .i64 c, v]) ∧ OwnA w.heap.size w' v zs ∧ Rdr w' rb l' | none => Boom e
theorem wentM_no {rb : Nat} {o : Option ((Int × Int × List Int) × List UInt8)} {w w' : World} {e : Ending} (h : o = none) (g : w.grownBy w' (some rb)) (he : Boom e) : WentM rb o w e w' := ⟨g, by rw [h]; exact he⟩
theorem wentM_yes {rb : Nat} {o : Option ((Int × Int × List Int) × List UInt8)} {r c : Int} {zs : List Int} {v : Value} {l' : List UInt8} {w w' : World} {e : Ending} (h : o = some ((r, c, zs), l')) (g : w.grownBy w' (some rb)) (he : e = .returned (.agg #[.int .i64 r, .int .i64 c, v])) (ho : OwnA w.heap.size w' v zs) (hr : Rdr w' rb l') : WentM rb o w e w' := ⟨g, by rw [h]; exact ⟨v, he, ho, hr⟩⟩
theorem cellsAt_none {C : Nat} {s : List UInt8} {k n : Nat} (h : cellsAt C s k = none) (hk : k ≤ n) : cellsAt C s n = none := by
  obtain ⟨m, rfl⟩ : ∃ m, n = k + m := ⟨n - k, by omega⟩
  clear hk
  induction m with
  | zero => exact h
  | succ m ih =>
    show (match cellsAt C s (k + m) with | none => none | some (zs, l) => match cellStep ((k + m) / C) ((k + m) % C) l with | none => none | some (z, t) => some (zs ++ [z], t)) = none
    rw [ih]
theorem cellsAt_step {C : Nat} {s : List UInt8} {k : Nat} {zs : List Int} {l : List UInt8} (h : cellsAt C s k = some (zs, l)) : cellsAt C s (k + 1) = match cellStep (k / C) (k % C) l with | none => none | some (z, t) => some (zs ++ [z], t) := by
  show (match cellsAt C s k with | none => none | some (zs, l) => match cellStep (k / C) (k % C) l with | none => none | some (z, t) => some (zs ++ [z], t)) = _
  rw [h]
theorem goM1_at (s : List UInt8) (r c : Int) (ok1 h1 ok2 h2 : Bool) (t1 q1 t2 q2 : List UInt8) (hr : (numT (headN s)).1 = r) (e1 : sizeOk s = ok1) (et1 : tailN s = t1) (eh1 : Lib.hasPrefix t1 [120] = h1) (eq1 : Lib.trimPrefix t1 [120] = q1)
    (hc : (numT (headN q1)).1 = c) (e2 : sizeOk q1 = ok2) (et2 : tailN q1 = t2) (eh2 : Lib.hasPrefix t2 [91] = h2) (eq2 : Lib.trimPrefix t2 [91] = q2) :
    goM1 s = if ok1 = true then if h1 = true then if ok2 = true then if h2 = true then
      match cellsAt c.toNat q2 (r.toNat * c.toNat) with
      | none => none
      | some (zs, l) => if Lib.hasPrefix l [93] = true then some ((r, c, zs), Lib.trimPrefix l [93]) else none
      else none else none else none else none := by
  unfold goM1
  rw [hr, et1, eh1, eq1, hc, et2, eh2, eq2, ← e1, ← e2]
  first | done | rfl
def CellsI (w : World) (rb mb R C : Nat) (s : List UInt8) (wr : World) (k : Nat) : Prop :=
  ∃ (zs : List Int) (l : List UInt8) (v : Value), cellsAt C s k = some (zs, l) ∧ Rdr wr rb l ∧ Blk3 wr mb 26 (.int .i64 R) (.int .i64 C) v ∧ Blk3 wr w.heap.size 26 (.int .i64 0) (.int .i64 0) (.slice none 0 0) ∧ OwnA w.heap.size wr v zs ∧ w.grownBy wr (some rb) ∧ Tab wr
theorem Blk3.moved {w w' : World} {b : Nat} {t : TypeId} {p q r v : Value} (h : Blk3 w b t p q r) (hg : w.grownBy w' v.ownBlock) (hn : ∀ k, v.ownBlock = some k → k ≠ b) : Blk3 w' b t p q r :=
  (hg.block b h.lt (fun e => hn b e.symm rfl)).trans h
theorem Blk1.moved {w w' : World} {b : Nat} {t : TypeId} {p v : Value} (h : Blk1 w b t p) (hg : w.grownBy w' v.ownBlock) (hn : ∀ k, v.ownBlock = some k → k ≠ b) : Blk1 w' b t p :=
  (hg.block b h.lt (fun e => hn b e.symm rfl)).trans h
theorem grown_alloc_oneM {w w' : World} {row : Option Nat} (h : w.grownBy w' row) (o : Obj) : w.grownBy (w'.alloc o) row := h.trans (World.grownBy_alloc w' o row)
theorem grown_own {w w1 w' : World} {rb : Nat} {v : Value} (h : w.grownBy w1 (some rb)) (hg : w1.grownBy w' v.ownBlock) (hn : ∀ k, v.ownBlock = some k → w.heap.size ≤ k) : w.grownBy w' (some rb) :=
  ⟨hg.os.trans h.os, hg.tape.trans h.tape, hg.output.trans h.output, Nat.le_trans h.size hg.size, fun k hk hne => (hg.block k (Nat.lt_of_lt_of_le hk h.size) (fun e => by have := hn k e.symm; omega)).trans (h.block k hk hne)⟩
theorem below_own {w1 w' : World} {B : Nat} {v : Value} (hg : w1.grownBy w' v.ownBlock) (hn : ∀ k, v.ownBlock = some k → B ≤ k) (hB : B ≤ w1.heap.size) : Below B w1 w' :=
  ⟨hg.os, hg.tape, hg.output, hg.size, fun k hk => hg.block k (by omega) (fun e => by have := hn k e.symm; omega)⟩
theorem OwnA.far2 {B : Nat} {w : World} {v : Value} {zs : List Int} {b j : Nat} {p q r : Value} (h : OwnA B w v zs) (hb : Blk3 w b 26 p q r) (u : Value) : OwnA B (w.setCell ⟨b, j, none⟩ u) v zs :=
  h.move fun k hk => Below.heap_setCell w ⟨b, j, none⟩ u k (h.ne_blk hb hk)
theorem step_appendV {P : Program} {ops : Array Oper} {o : Oper} {a : Act} {w : World} {K : Act → World → Prop} {Q : Exit → Act → World → Prop} {E : Prop}
    (hg : o.guard = none) (s x : Operand) (t : TypeId) (hop : o.op = Op.call { callee := Callee.builtin Builtin.append, args := #[s, x], argTypes := #[t, t] }) (v1 v2 : Value) (hs : a.eval s = v1) (hx : a.eval x = v2) (v' : Value) (w' : World)
    (hr : (Builtin.append_ #[t, t] o.type #[v1, v2]).run P w = .ok v' w') (hK : K (a.put o.dst v') w') : if Region.wanted o (yielded ops a.tmps) = true then Oper.wp P o a w K Q else E := by
  have hw : Region.wanted o (yielded ops a.tmps) = true := by simp [Region.wanted, hg]
  rw [if_pos hw]
  unfold Oper.wp
  simp only [execOp, hop, resolve, invoke, builtin, Sem.run_bind, Sem.run_pure, Result.andThen_ok, List.map_toArray, List.map_cons, List.map_nil, hs, hx, hr]
  exact hK
set_option maxRecDepth 20000 in
set_option maxHeartbeats 4000000 in
theorem iMatrixR (rb : Nat) (l : List UInt8) (w : World) (h : Rdr w rb l) (hl : l.length ≤ 16777216) (tb : Tab w) (hr : 1 < rb) :
    Calls Tryz.prog 54 #[.pointer (some ⟨rb, 0, none⟩)] w (WentM rb (goM1 l) w) := by
  have hlt := Blk1.lt h
  have SZ1 := iSizeR rb l (w.alloc (.cells #[.int .i64 0, .int .i64 0, .slice none 0 0] 26)) (Blk1.old h _) hl (tb.below ((Below.refl _ _).alloc (Nat.le_refl _) _))
  have TB := Lib.hid (tb.below ((Below.refl _ _).alloc (Nat.le_refl _) (.cells #[.int .i64 0, .int .i64 0, .slice none 0 0] 26)))
  obtain ⟨o, ho⟩ : ∃ o, goM1 l = o := ⟨_, rfl⟩
  obtain ⟨r, e0⟩ : ∃ o, (numT (headN l)).1 = o := ⟨_, rfl⟩
  obtain ⟨ok1, e1⟩ : ∃ o, sizeOk l = o := ⟨_, rfl⟩
  obtain ⟨t1, et1⟩ : ∃ o, tailN l = o := ⟨_, rfl⟩
  obtain ⟨h1, eh1⟩ : ∃ o, Lib.hasPrefix t1 [120] = o := ⟨_, rfl⟩
  obtain ⟨q1, eq1⟩ : ∃ o, Lib.trimPrefix t1 [120] = o := ⟨_, rfl⟩
  obtain ⟨c, ec⟩ : ∃ o, (numT (headN q1)).1 = o := ⟨_, rfl⟩
  obtain ⟨ok2, e2⟩ : ∃ o, sizeOk q1 = o := ⟨_, rfl⟩
  obtain ⟨t2, et2⟩ : ∃ o, tailN q1 = o := ⟨_, rfl⟩
  obtain ⟨h2, eh2⟩ : ∃ o, Lib.hasPrefix t2 [91] = o := ⟨_, rfl⟩
  obtain ⟨q2, eq2⟩ : ∃ o, Lib.trimPrefix t2 [91] = o := ⟨_, rfl⟩
  have HO := Lib.hid (ho.symm.trans (goM1_at l r c ok1 h1 ok2 h2 t1 q1 t2 q2 e0 e1 et1 eh1 eq1 ec e2 et2 eh2 eq2))
  have lq1 : q1.length ≤ l.length := by
    have a1 := trimPrefix_len t1 [120]
    have a2 := tailN_len l
    rw [eq1] at a1
    rw [et1] at a2
    omega
  have lq2 : q2.length ≤ l.length := by
    have a1 := trimPrefix_len t2 [91]
    have a2 := tailN_len q1
    rw [eq2] at a1
    rw [et2] at a2
    omega
  have LQ2 := Lib.hid (show q2.length ≤ 16777216 by omega)
  have WX : ∀ w, Rdr w rb t1 → Calls Tryz.prog 97 #[.pointer (some ⟨rb, 0, none⟩), .string ⟨#[120]⟩] w (Went rb (.tuple #[]) q1 h1 w) := fun w h => by
    rw [← eq1, ← eh1]; exact iWord rb t1 [120] w h
  have WB : ∀ w, Rdr w rb t2 → Calls Tryz.prog 97 #[.pointer (some ⟨rb, 0, none⟩), .string ⟨#[91]⟩] w (Went rb (.tuple #[]) q2 h2 w) := fun w h => by
    rw [← eq2, ← eh2]; exact iWord rb t2 [91] w h
  have S2 : ∀ w, Rdr w rb q1 → Tab w → Calls Tryz.prog 96 #[.pointer (some ⟨rb, 0, none⟩)] w (Went rb (.int .i64 c) t2 ok2 w) := fun w h tb => by
    rw [← ec, ← e2, ← et2]; exact iSizeR rb q1 w h (by omega) tb
  have SR : Hid (ok1 = true → SizeP r) := Lib.hid (fun h => by
    rw [← e1] at h; unfold sizeOk at h; rw [Bool.and_eq_true] at h; rw [← e0]; exact of_decide_eq_true h.2)
  have SC : Hid (ok2 = true → SizeP c) := Lib.hid (fun h => by
    rw [← e2] at h; unfold sizeOk at h; rw [Bool.and_eq_true] at h; rw [← ec]; exact of_decide_eq_true h.2)
  rw [ho]
  rw [e0, e1, et1] at SZ1
  have WXH := Lib.hid WX
  have WBH := Lib.hid WB
  have S2H := Lib.hid S2
  have LT := Lib.hid hlt
  have HR := Lib.hid hr
  have hne : w.heap.size ≠ rb := by omega
  clear ho e0 e1 et1 eh1 eq1 ec e2 et2 eh2 eq2 h tb hl lq1 lq2 WX WB S2 hr
  go_enter Tryz.func54, Tryz.ntmps54
  go_wp2_with fail
  refine SZ1.mono ?_
  clear SZ1
  rintro e w1 ⟨g1, s1⟩
  have G1 : Hid ((w.alloc (.cells #[.int .i64 0, .int .i64 0, .slice none 0 0] 26)).grownBy w1 (some rb)) := Lib.hid g1
  have GW1 : Hid (w.grownBy w1 (some rb)) := Lib.hid ((World.grownBy_alloc w _ _).trans g1)
  have K1 : Hid (Blk3 w1 w.heap.size 26 (.int .i64 0) (.int .i64 0) (.slice none 0 0)) := Blk3.keepOne (Blk3.at_ _ _ _ _ rfl) g1 hne
  have T1 : Hid (Tab w1) := gTab_lt_of TB.out g1 HR.out (by have := LT.out; simp; omega)
  clear g1 TB
  cases ok1 with
  | false =>
    have E : Hid (o = none) := HO.out
    rw [if_neg (by decide)] at s1
    cases s1
    go_wp2_with fail
    exact ⟨rfl, wentM_no E.out GW1.out rfl⟩
  | true =>
    rw [if_pos rfl] at s1
    obtain ⟨rfl, r1⟩ := s1
    have SR1 := SR.out rfl
    unfold SizeP at SR1
    obtain ⟨R, rfl⟩ := Int.eq_ofNat_of_zero_le SR1.1
    have hR : R ≤ 24 := by omega
    have L1 : Hid (w.heap.size < w1.heap.size) := K1.out.lt
    have R1 : Hid (Rdr (w1.alloc (.cells #[.int .i64 R, .int .i64 0, .slice none 0 0] 26)) rb t1) := Lib.hid (Blk1.old r1 _)
    have M1 : Hid (Blk3 (w1.alloc (.cells #[.int .i64 R, .int .i64 0, .slice none 0 0] 26)) w1.heap.size 26 (.int .i64 R) (.int .i64 0) (.slice none 0 0)) := Lib.hid (Blk3.at_ _ _ _ _ rfl)
    have K2 : Hid (Blk3 (w1.alloc (.cells #[.int .i64 R, .int .i64 0, .slice none 0 0] 26)) w.heap.size 26 (.int .i64 0) (.int .i64 0) (.slice none 0 0)) := Lib.hid (K1.out.old _)
    have G2 : Hid (w.grownBy (w1.alloc (.cells #[.int .i64 R, .int .i64 0, .slice none 0 0] 26)) (some rb)) := Lib.hid (GW1.out.trans (World.grownBy_alloc _ _ _))
    have T2 : Hid (Tab (w1.alloc (.cells #[.int .i64 R, .int .i64 0, .slice none 0 0] 26))) := T1.out.below ((Below.refl _ _).alloc (Nat.le_refl _) _)
    clear r1 SR1 SR
    go_wp2_with fail
    refine (WXH.out _ R1.out).mono ?_
    rintro e w2 ⟨g2, s2⟩
    have GW2 : Hid (w.grownBy w2 (some rb)) := Lib.hid (G2.out.trans g2)
    have K3 : Hid (Blk3 w2 w.heap.size 26 (.int .i64 0) (.int .i64 0) (.slice none 0 0)) := K2.out.keepOne g2 hne
    have M2 : Hid (Blk3 w2 w1.heap.size 26 (.int .i64 R) (.int .i64 0) (.slice none 0 0)) := M1.out.keepOne g2 (by have := L1.out; omega)
    have T3 : Hid (Tab w2) := gTab_lt_of T2.out g2 HR.out (by have := L1.out; simp; omega)
    clear g2
    cases h1 with
    | false =>
      have E : Hid (o = none) := HO.out
      rw [if_neg (by decide)] at s2
      cases s2
      go_wp2_with fail
      exact ⟨rfl, wentM_no E.out GW2.out rfl⟩
    | true =>
      rw [if_pos rfl] at s2
      obtain ⟨rfl, r2⟩ := s2
      go_wp2_with fail
      refine (S2H.out _ r2 T3.out).mono ?_
      rintro e w3 ⟨g3, s3⟩
      have GW3 : Hid (w.grownBy w3 (some rb)) := Lib.hid (GW2.out.trans g3)
      have K4 : Hid (Blk3 w3 w.heap.size 26 (.int .i64 0) (.int .i64 0) (.slice none 0 0)) := K3.out.keepOne g3 hne
      have M3 : Hid (Blk3 w3 w1.heap.size 26 (.int .i64 R) (.int .i64 0) (.slice none 0 0)) := M2.out.keepOne g3 (by have := L1.out; omega)
      have T4 : Hid (Tab w3) := gTab_lt_of T3.out g3 HR.out (by have := M2.out.lt; have := L1.out; omega)
      clear g3 r2
      cases ok2 with
      | false =>
        have E : Hid (o = none) := HO.out
        rw [if_neg (by decide)] at s3
        cases s3
        go_wp2_with fail
        exact ⟨rfl, wentM_no E.out GW3.out rfl⟩
      | true =>
        rw [if_pos rfl] at s3
        obtain ⟨rfl, r3⟩ := s3
        have SC1 := SC.out rfl
        unfold SizeP at SC1
        obtain ⟨C, rfl⟩ := Int.eq_ofNat_of_zero_le SC1.1
        have hC : C ≤ 24 := by omega
        obtain ⟨m0, m1, m2, f0, f1, f2⟩ := M3.out.all
        have n1 : w1.heap.size ≠ rb := by have := L1.out; omega
        have R4 : Hid (Rdr (w3.setCell ⟨w1.heap.size, 1, none⟩ (.int .i64 C)) rb t2) := Lib.hid (Blk1.far r3 (by simpa using n1.symm) _)
        have M4 : Hid (Blk3 (w3.setCell ⟨w1.heap.size, 1, none⟩ (.int .i64 C)) w1.heap.size 26 (.int .i64 R) (.int .i64 C) (.slice none 0 0)) := Lib.hid (M3.out.set1 _)
        have K5 : Hid (Blk3 (w3.setCell ⟨w1.heap.size, 1, none⟩ (.int .i64 C)) w.heap.size 26 (.int .i64 0) (.int .i64 0) (.slice none 0 0)) := Lib.hid (K4.out.far (by have := L1.out; simp; omega) _)
        have G4 : Hid (w.grownBy (w3.setCell ⟨w1.heap.size, 1, none⟩ (.int .i64 C)) (some rb)) := Lib.hid (grown_set_new GW3.out (by have := L1.out; simp; omega) _)
        have T5 : Hid (Tab (w3.setCell ⟨w1.heap.size, 1, none⟩ (.int .i64 C))) := var?_below ((Below.refl rb w3).setCell (by have := L1.out; simp; omega) _) gTab HR.out T4.out
        clear r3 SC1 SC
        go_wp2_with fail
        refine (WBH.out _ R4.out).mono ?_
        rintro e w5 ⟨g5, s5⟩
        have GW5 : Hid (w.grownBy w5 (some rb)) := Lib.hid (G4.out.trans g5)
        have K6 : Hid (Blk3 w5 w.heap.size 26 (.int .i64 0) (.int .i64 0) (.slice none 0 0)) := K5.out.keepOne g5 hne
        have M6 : Hid (Blk3 w5 w1.heap.size 26 (.int .i64 R) (.int .i64 C) (.slice none 0 0)) := M4.out.keepOne g5 n1
        have T6 : Hid (Tab w5) := gTab_lt_of T5.out g5 HR.out (by have := M4.out.lt; have := L1.out; omega)
        clear g5 m0 m1 m2 f0 f1 f2
        cases h2 with
        | false =>
          have E : Hid (o = none) := HO.out
          rw [if_neg (by decide)] at s5
          cases s5
          go_wp2_with fail
          exact ⟨rfl, wentM_no E.out GW5.out rfl⟩
        | true =>
          rw [if_pos rfl] at s5
          obtain ⟨rfl, r5⟩ := s5
          have R6 := Lib.hid r5
          clear r5
          obtain ⟨m0, m1, m2, f0, f1, f2⟩ := M6.out.all
          have HO2 : Hid (o = match cellsAt C q2 (R * C) with
            | none => none
            | some (zs, l) => if Lib.hasPrefix l [93] = true then some (((R : Int), (C : Int), zs), Lib.trimPrefix l [93]) else none) := HO.out
          have MB : Hid (w.heap.size < w1.heap.size ∧ rb < w.heap.size) := Lib.hid ⟨L1.out, LT.out⟩
          clear HO LT L1 WXH WBH S2H T1 T2 T3 T4 T5 K1 K2 K3 K4 K5 M1 M2 M3 M4 R1 R4 G1 G2 G4 GW1 GW2 GW3
          have I0 : Hid (CellsI w rb w1.heap.size R C q2 w5 0) := Lib.hid ⟨[], q2, _, rfl, R6.out, M6.out, K6.out, OwnA.nil _ _, GW5.out, T6.out⟩
          have EN : Hid (∀ k, k ≤ R * C → cellsAt C q2 k = none → o = none) := Lib.hid (fun k hk hn => by rw [HO2.out, cellsAt_none hn hk])
          clear R6 K6 M6 GW5 T6
          go_wp2_with fail
          go_loopw [18] (fun x wr => ∃ r : Nat, x = .int .i64 r ∧ r ≤ R ∧ CellsI w rb w1.heap.size R C q2 wr (r * C)) (fun x _ => R - (intOf x).toNat)
          case atStart => exact ⟨0, rfl, Nat.zero_le _, by rw [Nat.zero_mul]; exact I0.out⟩
          case round =>
            clear I0 m0 m1 m2 f0 f1 f2
            obtain ⟨r, rfl, hr, hI⟩ := hrel
            have I := Lib.hid hI
            clear hI
            by_cases hrR : r < R
            · obtain ⟨zs0, l0, v0, -, -, M5, -⟩ := I.out
              obtain ⟨b0, b1, b2, -, -, -⟩ := M5.all
              clear M5
              go_wp2_with fail
              go_loopw [23] (fun x wr => ∃ c : Nat, x = .int .i64 c ∧ c ≤ C ∧ CellsI w rb w1.heap.size R C q2 wr (r * C + c)) (fun x _ => C - (intOf x).toNat)
              case atStart => exact ⟨0, rfl, Nat.zero_le _, by rw [Nat.add_zero]; exact I.out⟩
              case round =>
                clear I b0 b1 b2
                obtain ⟨c, rfl, hc, zs, l, v, hcl, hR5, hM5, hK5, hO5, hG5, hT5⟩ := hrel
                have CL := Lib.hid hcl
                have R5 := Lib.hid hR5
                have M5 := Lib.hid hM5
                have K5 := Lib.hid hK5
                have O5 := Lib.hid hO5
                have GW5 := Lib.hid hG5
                have T5 := Lib.hid hT5
                clear hcl hR5 hM5 hK5 hO5 hG5 hT5
                by_cases hcC : c < C
                · obtain ⟨k, hk⟩ : ∃ k, r * C + c = k := ⟨_, rfl⟩
                  rw [hk] at CL
                  have kd : k / C = r := by rw [← hk]; exact idx_div hcC
                  have km : k % C = c := by rw [← hk]; exact idx_mod hcC
                  have kl : k < R * C := by rw [← hk]; exact idx_lt hrR hcC
                  have k5 : R * C ≤ 24 * 24 := Nat.mul_le_mul hR hC
                  obtain ⟨lz, -, ll⟩ := cellsAt_len CL.out
                  have ST := cellsAt_step CL.out
                  rw [kd, km] at ST
                  obtain ⟨g, hg⟩ : ∃ g, gapT r c = g := ⟨_, rfl⟩
                  obtain ⟨p1, hp1⟩ : ∃ p, Lib.hasPrefix l g = p := ⟨_, rfl⟩
                  obtain ⟨q, hq⟩ : ∃ p, Lib.trimPrefix l g = p := ⟨_, rfl⟩
                  obtain ⟨ok, hok⟩ : ∃ p, (numT (headN q)).2 = p := ⟨_, rfl⟩
                  obtain ⟨z, hz⟩ : ∃ p, (numT (headN q)).1 = p := ⟨_, rfl⟩
                  obtain ⟨t, ht⟩ : ∃ p, tailN q = p := ⟨_, rfl⟩
                  have ST2 : cellsAt C q2 (k + 1) = if p1 = true then if ok = true then some (zs ++ [z], t) else none else none := by
                    rw [ST]
                    unfold cellStep
                    rw [hg, hp1, hq, hok, hz, ht]
                    cases p1 <;> cases ok <;> rfl
                  have lq : q.length ≤ 16777216 := by
                    have := trimPrefix_len l g
                    rw [hq] at this
                    have := LQ2.out
                    omega
                  have GA : ∀ w, Calls Tryz.prog 51 #[.int .i64 r, .int .i64 c] w fun e w' => e = .returned (.string ⟨g.toArray⟩) ∧ w = w' := fun w => by rw [← hg]; exact iGap r c w
                  have WG : ∀ w, Rdr w rb l → Calls Tryz.prog 97 #[.pointer (some ⟨rb, 0, none⟩), .string ⟨g.toArray⟩] w (Went rb (.tuple #[]) q p1 w) := fun w h => by
                    rw [← hp1, ← hq]; exact iWord rb l g w h
                  have NU : ∀ w, Rdr w rb q → Tab w → Calls Tryz.prog 98 #[.pointer (some ⟨rb, 0, none⟩)] w (Went rb (.int .i64 z) t ok w) := fun w h tb => by
                    rw [← hok, ← hz, ← ht]; exact iNumber rb q w h lq tb
                  have STH := Lib.hid ST2
                  have NUH := Lib.hid NU
                  have LZ := Lib.hid lz
                  have KL := Lib.hid (show k + 1 ≤ R * C from kl)
                  have K576 : Hid (k ≤ 576) := Lib.hid (by omega)
                  have HK := Lib.hid hk
                  clear kd km kl k5 lz ll ST hg hp1 hq hok hz ht ST2 lq NU hk
                  go_wp2_with fail
                  refine (GA _).mono ?_
                  clear GA
                  rintro e w6 ⟨rfl, rfl⟩
                  go_wp2_with fail
                  refine (WG _ R5.out).mono ?_
                  clear WG
                  rintro e w6 ⟨g6, s6⟩
                  have M6 := Lib.hid (M5.out.keepOne g6 n1)
                  have K6 := Lib.hid (K5.out.keepOne g6 hne)
                  have O6 := Lib.hid (O5.out.one g6 MB.out.2)
                  have GW6 := Lib.hid (GW5.out.trans g6)
                  have TK : Hid (Tab w6) := gTab_lt_of T5.out g6 HR.out (by have := M5.out.lt; have := MB.out; omega)
                  clear g6
                  cases p1 with
                  | false =>
                    have E : Hid (o = none) := EN.out (k + 1) KL.out STH.out
                    rw [if_neg (by decide)] at s6
                    cases s6
                    go_wp2_with fail
                    exact ⟨rfl, wentM_no E.out GW6.out rfl⟩
                  | true =>
                    rw [if_pos rfl] at s6
                    obtain ⟨rfl, r6⟩ := s6
                    have QR := Lib.hid r6
                    clear r6
                    obtain ⟨va, vc, rfl⟩ := O6.out.form
                    obtain ⟨m60, m61, m62, f60, f61, f62⟩ := M6.out.all
                    cases ok with
                    | false =>
                      have E : Hid (o = none) := EN.out (k + 1) KL.out STH.out
                      go_upto_region 12 with fail
                      refine wp_region_held_drew (S := fun _ => True) (by kernel_rfl) True.intro (fun hH => ?_)
                      refine wpAnyH_take (i := 0) (v := ?_) (by simp only [List.getElem?_toArray, List.getElem?_cons_zero]; rfl) (by kernel_rfl) (by kernel_rfl) (by kernel_rfl) (by exact fun _ _ _ h => h) (Or.inl ⟨by rfl, ?_⟩) hH ?_
                      rotate_left
                      · (intro wS hS; clear hS; go_simp; try rfl)
                      try simp only [Act.put, List.setIfInBounds_toArray, List.set_cons_zero, List.set_cons_succ]
                      refine wpAnyH_take (i := 2) (v := ?_) (by simp only [List.getElem?_toArray, List.getElem?_cons_succ, List.getElem?_cons_zero]; rfl) (by kernel_rfl) (by kernel_rfl) (by kernel_rfl) (by exact fun _ _ _ h => h) (Or.inl ⟨by rfl, ?_⟩) hH ?_
                      rotate_left
                      · (intro wS hS; clear hS; go_simp; try rfl)
                      try simp only [Act.put, List.setIfInBounds_toArray, List.set_cons_zero, List.set_cons_succ]
                      refine wpAnyH_ready (rs := [1, 3]) (by kernel_rfl) (by simp) ?_
                      refine AllReadyH.cons (by simp only [List.getElem?_toArray, List.getElem?_cons_succ, List.getElem?_cons_zero]; rfl) (fun KK hKK => ?_) (AllReadyH.cons (by simp only [List.getElem?_toArray, List.getElem?_cons_succ, List.getElem?_cons_zero]; rfl) (fun KK hKK => ?_) AllReadyH.nil)
                      · go_simp
                        try dsimp only
                        refine hKK.out _ _ True.intro (fun hH2 => ?_)
                        clear hKK KK
                        clear hH
                        have hH := hH2
                        clear hH2
                        try simp only [Act.put, List.setIfInBounds_toArray, List.set_cons_zero, List.set_cons_succ]
                        refine wpAnyH_ready (rs := [3]) (by kernel_rfl) (by simp) ?_
                        refine AllReadyH.cons (by simp only [List.getElem?_toArray, List.getElem?_cons_succ, List.getElem?_cons_zero]; rfl) (fun KK hKK => ?_) AllReadyH.nil
                        go_simp
                        refine (NUH.out _ QR.out.drew TK.out).mono ?_
                        rintro e w7 ⟨g7, s7⟩
                        rw [if_neg (by decide)] at s7
                        cases s7
                        exact ⟨rfl, wentM_no E.out ((grown_drew_one GW6.out).trans g7) rfl⟩
                      · go_simp
                        refine (NUH.out _ QR.out.drew TK.out).mono ?_
                        rintro e w7 ⟨g7, s7⟩
                        rw [if_neg (by decide)] at s7
                        cases s7
                        exact ⟨rfl, wentM_no E.out ((grown_drew_one GW6.out).trans g7) rfl⟩
                    | true =>
                      obtain ⟨zs2, hz2⟩ : ∃ x, zs ++ [z] = x := ⟨_, rfl⟩
                      have NX : Hid (cellsAt C q2 (r * C + (c + 1)) = some (zs2, t)) := Lib.hid (by rw [← Nat.add_assoc, HK.out, ← hz2]; exact STH.out)
                      have Z2 := Lib.hid hz2
                      clear hz2
                      go_upto_region 12 with fail
                      refine wp_region_held_drew (S := fun _ => True) (by kernel_rfl) True.intro (fun hH => ?_)
                      refine wpAnyH_take (i := 0) (v := ?_) (by simp only [List.getElem?_toArray, List.getElem?_cons_zero]; rfl) (by kernel_rfl) (by kernel_rfl) (by kernel_rfl) (by exact fun _ _ _ h => h) (Or.inl ⟨by rfl, ?_⟩) hH ?_
                      rotate_left
                      · (intro wS hS; clear hS; go_simp; try rfl)
                      try simp only [Act.put, List.setIfInBounds_toArray, List.set_cons_zero, List.set_cons_succ]
                      refine wpAnyH_take (i := 2) (v := ?_) (by simp only [List.getElem?_toArray, List.getElem?_cons_succ, List.getElem?_cons_zero]; rfl) (by kernel_rfl) (by kernel_rfl) (by kernel_rfl) (by exact fun _ _ _ h => h) (Or.inl ⟨by rfl, ?_⟩) hH ?_
                      rotate_left
                      · (intro wS hS; clear hS; go_simp; try rfl)
                      try simp only [Act.put, List.setIfInBounds_toArray, List.set_cons_zero, List.set_cons_succ]
                      refine wpAnyH_ready (rs := [1, 3]) (by kernel_rfl) (by simp) ?_
                      refine AllReadyH.cons (by simp only [List.getElem?_toArray, List.getElem?_cons_succ, List.getElem?_cons_zero]; rfl) (fun KK hKK => ?_) (AllReadyH.cons (by simp only [List.getElem?_toArray, List.getElem?_cons_succ, List.getElem?_cons_zero]; rfl) (fun KK hKK => ?_) AllReadyH.nil)
                      · go_simp
                        try dsimp only
                        refine hKK.out _ _ True.intro (fun hH2 => ?_)
                        clear hKK KK
                        clear hH
                        have hH := hH2
                        clear hH2
                        try simp only [Act.put, List.setIfInBounds_toArray, List.set_cons_zero, List.set_cons_succ]
                        refine wpAnyH_ready (rs := [3]) (by kernel_rfl) (by simp) ?_
                        refine AllReadyH.cons (by simp only [List.getElem?_toArray, List.getElem?_cons_succ, List.getElem?_cons_zero]; rfl) (fun KK hKK => ?_) AllReadyH.nil
                        go_simp
                        refine (NUH.out _ QR.out.drew TK.out).mono ?_
                        rintro e w7 ⟨g7, s7⟩
                        rw [if_pos rfl] at s7
                        obtain ⟨rfl, r7⟩ := s7
                        have R7 := Lib.hid r7
                        have M7 := Lib.hid (M6.out.drew.keepOne g7 n1)
                        have K7 := Lib.hid (K6.out.drew.keepOne g7 hne)
                        have O7 := Lib.hid (O6.out.drew.one g7 MB.out.2)
                        have GW7 := Lib.hid ((grown_drew_one GW6.out).trans g7)
                        have T7 : Hid (Tab w7) := gTab_lt_of (w := w6.drew) (show Tab w6.drew from TK.out) g7 HR.out (by have := M6.out.lt; have := MB.out; show rb ≤ w6.heap.size; omega)
                        obtain ⟨m70, m71, m72, f70, f71, f72⟩ := M7.out.all
                        clear g7 r7
                        try dsimp only
                        refine hKK.out _ _ True.intro (fun hH2 => ?_)
                        clear hKK KK
                        clear hH
                        have hH := hH2
                        clear hH2
                        try simp only [Act.put, List.setIfInBounds_toArray, List.set_cons_zero, List.set_cons_succ]
                        refine wpAnyH_ready (rs := [4]) (by kernel_rfl) (by simp) ?_
                        refine AllReadyH.cons (by simp only [List.getElem?_toArray, List.getElem?_cons_succ, List.getElem?_cons_zero]; rfl) (fun KK hKK => ?_) AllReadyH.nil
                        go_simp
                        try dsimp only
                        refine hKK.out _ _ True.intro (fun hH2 => ?_)
                        clear hKK KK
                        clear hH
                        have hH := hH2
                        clear hH2
                        try simp only [Act.put, List.setIfInBounds_toArray, List.set_cons_zero, List.set_cons_succ]
                        refine wpAnyH_ready (rs := [5]) (by kernel_rfl) (by simp) ?_
                        refine AllReadyH.cons (by simp only [List.getElem?_toArray, List.getElem?_cons_succ, List.getElem?_cons_zero]; rfl) (fun KK hKK => ?_) AllReadyH.nil
                        obtain ⟨v8, w8, hr8, ho8, hg8⟩ := appendOne w.heap.size w7 _ zs z k LZ.out O7.out (by have := K576.out; omega) (Nat.le_of_lt (Nat.lt_trans MB.out.1 M7.out.lt))
                        refine step_appendV rfl _ _ 24 rfl _ _ rfl rfl _ _ hr8 ?_
                        have M8 := Lib.hid (Blk3.moved (M7.out.old (.cells #[.int .i64 z] 3)) hg8 (fun k hk => O7.out.ne_blk M7.out hk))
                        have K8 := Lib.hid (Blk3.moved (K7.out.old (.cells #[.int .i64 z] 3)) hg8 (fun k hk => O7.out.ne_blk K7.out hk))
                        have R8 : Hid (Rdr w8 rb t) := Lib.hid (Blk1.moved (Blk1.old R7.out (.cells #[.int .i64 z] 3)) hg8 (fun k hk => by have := O7.out.le hk; have := MB.out; omega))
                        have GW8 : Hid (w.grownBy w8 (some rb)) := Lib.hid (grown_own (grown_alloc_oneM GW7.out (.cells #[.int .i64 z] 3)) hg8 (fun k hk => O7.out.le hk))
                        have T8 : Hid (Tab w8) := var?_below (below_own (B := w.heap.size) hg8 (fun k hk => O7.out.le hk) (by have := M7.out.lt; have := MB.out; simp; omega)) gTab (Nat.lt_trans HR.out MB.out.2) (T7.out.below ((Below.refl _ _).alloc (Nat.le_refl _) _))
                        rw [Z2.out] at ho8
                        have O8 := Lib.hid ho8
                        clear hg8 hr8 ho8
                        obtain ⟨a8, c8, rfl⟩ := O8.out.form
                        obtain ⟨m80, m81, m82, f80, f81, f82⟩ := M8.out.all
                        try dsimp only
                        refine hKK.out _ _ True.intro (fun hH2 => ?_)
                        clear hKK KK
                        clear hH
                        have hH := hH2
                        clear hH2
                        try simp only [Act.put, List.setIfInBounds_toArray, List.set_cons_zero, List.set_cons_succ]
                        refine wpAnyH_take (i := 6) (v := ?_) (by simp only [List.getElem?_toArray, List.getElem?_cons_succ, List.getElem?_cons_zero]; rfl) (by kernel_rfl) (by kernel_rfl) (by kernel_rfl) (by exact fun _ _ _ h => h) (Or.inl ⟨by rfl, ?_⟩) hH ?_
                        rotate_left
                        · (intro wS hS; clear hS; go_simp; try rfl)
                        try simp only [Act.put, List.setIfInBounds_toArray, List.set_cons_zero, List.set_cons_succ]
                        refine wpAnyH_ready (rs := [7]) (by kernel_rfl) (by simp) ?_
                        refine AllReadyH.cons (by simp only [List.getElem?_toArray, List.getElem?_cons_succ, List.getElem?_cons_zero]; rfl) (fun KK hKK => ?_) AllReadyH.nil
                        go_simp
                        try dsimp only
                        refine hKK.out _ _ True.intro (fun hH2 => ?_)
                        clear hKK KK
                        clear hH
                        have hH := hH2
                        clear hH2
                        try simp only [Act.put, List.setIfInBounds_toArray, List.set_cons_zero, List.set_cons_succ]
                        refine wpAnyH_done (by kernel_rfl) ?_ _
                        go_wp2_with fail
                        go_roundw
                        case rel => exact ⟨c + 1, by go_num, by omega, zs2, t, _, NX.out, Blk1.far R8.out (by have := MB.out; simp; omega) _, M8.out.set2 _, K8.out.far (by have := MB.out; simp; omega) _, OwnA.far2 O8.out M8.out _, grown_set_new GW8.out (by have := MB.out; simp; omega) _, var?_below ((Below.refl w.heap.size w8).setCell (by have := MB.out; simp; omega) _) gTab (Nat.lt_trans HR.out MB.out.2) T8.out⟩
                        case measure => simp [intOf]; omega
                      · go_simp
                        refine (NUH.out _ QR.out.drew TK.out).mono ?_
                        rintro e w7 ⟨g7, s7⟩
                        rw [if_pos rfl] at s7
                        obtain ⟨rfl, r7⟩ := s7
                        have R7 := Lib.hid r7
                        have M7 := Lib.hid (M6.out.drew.keepOne g7 n1)
                        have K7 := Lib.hid (K6.out.drew.keepOne g7 hne)
                        have O7 := Lib.hid (O6.out.drew.one g7 MB.out.2)
                        have GW7 := Lib.hid ((grown_drew_one GW6.out).trans g7)
                        have T7 : Hid (Tab w7) := gTab_lt_of (w := w6.drew) (show Tab w6.drew from TK.out) g7 HR.out (by have := M6.out.lt; have := MB.out; show rb ≤ w6.heap.size; omega)
                        obtain ⟨m70, m71, m72, f70, f71, f72⟩ := M7.out.all
                        clear g7 r7
                        try dsimp only
                        refine hKK.out _ _ True.intro (fun hH2 => ?_)
                        clear hKK KK
                        clear hH
                        have hH := hH2
                        clear hH2
                        try simp only [Act.put, List.setIfInBounds_toArray, List.set_cons_zero, List.set_cons_succ]
                        refine wpAnyH_ready (rs := [1, 4]) (by kernel_rfl) (by simp) ?_
                        refine AllReadyH.cons (by simp only [List.getElem?_toArray, List.getElem?_cons_succ, List.getElem?_cons_zero]; rfl) (fun KK hKK => ?_) (AllReadyH.cons (by simp only [List.getElem?_toArray, List.getElem?_cons_succ, List.getElem?_cons_zero]; rfl) (fun KK hKK => ?_) AllReadyH.nil)
                        · go_simp
                          try dsimp only
                          refine hKK.out _ _ True.intro (fun hH2 => ?_)
                          clear hKK KK
                          clear hH
                          have hH := hH2
                          clear hH2
                          try simp only [Act.put, List.setIfInBounds_toArray, List.set_cons_zero, List.set_cons_succ]
                          refine wpAnyH_ready (rs := [4]) (by kernel_rfl) (by simp) ?_
                          refine AllReadyH.cons (by simp only [List.getElem?_toArray, List.getElem?_cons_succ, List.getElem?_cons_zero]; rfl) (fun KK hKK => ?_) AllReadyH.nil
                          go_simp
                          try dsimp only
                          refine hKK.out _ _ True.intro (fun hH2 => ?_)
                          clear hKK KK
                          clear hH
                          have hH := hH2
                          clear hH2
                          try simp only [Act.put, List.setIfInBounds_toArray, List.set_cons_zero, List.set_cons_succ]
                          refine wpAnyH_ready (rs := [5]) (by kernel_rfl) (by simp) ?_
                          refine AllReadyH.cons (by simp only [List.getElem?_toArray, List.getElem?_cons_succ, List.getElem?_cons_zero]; rfl) (fun KK hKK => ?_) AllReadyH.nil
                          obtain ⟨v8, w8, hr8, ho8, hg8⟩ := appendOne w.heap.size w7 _ zs z k LZ.out O7.out (by have := K576.out; omega) (Nat.le_of_lt (Nat.lt_trans MB.out.1 M7.out.lt))
                          refine step_appendV rfl _ _ 24 rfl _ _ rfl rfl _ _ hr8 ?_
                          have M8 := Lib.hid (Blk3.moved (M7.out.old (.cells #[.int .i64 z] 3)) hg8 (fun k hk => O7.out.ne_blk M7.out hk))
                          have K8 := Lib.hid (Blk3.moved (K7.out.old (.cells #[.int .i64 z] 3)) hg8 (fun k hk => O7.out.ne_blk K7.out hk))
                          have R8 : Hid (Rdr w8 rb t) := Lib.hid (Blk1.moved (Blk1.old R7.out (.cells #[.int .i64 z] 3)) hg8 (fun k hk => by have := O7.out.le hk; have := MB.out; omega))
                          have GW8 : Hid (w.grownBy w8 (some rb)) := Lib.hid (grown_own (grown_alloc_oneM GW7.out (.cells #[.int .i64 z] 3)) hg8 (fun k hk => O7.out.le hk))
                          have T8 : Hid (Tab w8) := var?_below (below_own (B := w.heap.size) hg8 (fun k hk => O7.out.le hk) (by have := M7.out.lt; have := MB.out; simp; omega)) gTab (Nat.lt_trans HR.out MB.out.2) (T7.out.below ((Below.refl _ _).alloc (Nat.le_refl _) _))
                          rw [Z2.out] at ho8
                          have O8 := Lib.hid ho8
                          clear hg8 hr8 ho8
                          obtain ⟨a8, c8, rfl⟩ := O8.out.form
                          obtain ⟨m80, m81, m82, f80, f81, f82⟩ := M8.out.all
                          try dsimp only
                          refine hKK.out _ _ True.intro (fun hH2 => ?_)
                          clear hKK KK
                          clear hH
                          have hH := hH2
                          clear hH2
                          try simp only [Act.put, List.setIfInBounds_toArray, List.set_cons_zero, List.set_cons_succ]
                          refine wpAnyH_take (i := 6) (v := ?_) (by simp only [List.getElem?_toArray, List.getElem?_cons_succ, List.getElem?_cons_zero]; rfl) (by kernel_rfl) (by kernel_rfl) (by kernel_rfl) (by exact fun _ _ _ h => h) (Or.inl ⟨by rfl, ?_⟩) hH ?_
                          rotate_left
                          · (intro wS hS; clear hS; go_simp; try rfl)
                          try simp only [Act.put, List.setIfInBounds_toArray, List.set_cons_zero, List.set_cons_succ]
                          refine wpAnyH_ready (rs := [7]) (by kernel_rfl) (by simp) ?_
                          refine AllReadyH.cons (by simp only [List.getElem?_toArray, List.getElem?_cons_succ, List.getElem?_cons_zero]; rfl) (fun KK hKK => ?_) AllReadyH.nil
                          go_simp
                          try dsimp only
                          refine hKK.out _ _ True.intro (fun hH2 => ?_)
                          clear hKK KK
                          clear hH
                          have hH := hH2
                          clear hH2
                          try simp only [Act.put, List.setIfInBounds_toArray, List.set_cons_zero, List.set_cons_succ]
                          refine wpAnyH_done (by kernel_rfl) ?_ _
                          go_wp2_with fail
                          go_roundw
                          case rel => exact ⟨c + 1, by go_num, by omega, zs2, t, _, NX.out, Blk1.far R8.out (by have := MB.out; simp; omega) _, M8.out.set2 _, K8.out.far (by have := MB.out; simp; omega) _, OwnA.far2 O8.out M8.out _, grown_set_new GW8.out (by have := MB.out; simp; omega) _, var?_below ((Below.refl w.heap.size w8).setCell (by have := MB.out; simp; omega) _) gTab (Nat.lt_trans HR.out MB.out.2) T8.out⟩
                          case measure => simp [intOf]; omega
                        · go_simp
                          try dsimp only
                          refine hKK.out _ _ True.intro (fun hH2 => ?_)
                          clear hKK KK
                          clear hH
                          have hH := hH2
                          clear hH2
                          try simp only [Act.put, List.setIfInBounds_toArray, List.set_cons_zero, List.set_cons_succ]
                          refine wpAnyH_ready (rs := [1]) (by kernel_rfl) (by simp) ?_
                          refine AllReadyH.cons (by simp only [List.getElem?_toArray, List.getElem?_cons_succ, List.getElem?_cons_zero]; rfl) (fun KK hKK => ?_) AllReadyH.nil
                          obtain ⟨x0, x1, x2, -, -, -⟩ := (M7.out.old (.cells #[.int .i64 z] 3)).all
                          go_simp
                          try dsimp only
                          refine hKK.out _ _ True.intro (fun hH2 => ?_)
                          clear hKK KK
                          clear hH
                          have hH := hH2
                          clear hH2
                          try simp only [Act.put, List.setIfInBounds_toArray, List.set_cons_zero, List.set_cons_succ]
                          refine wpAnyH_ready (rs := [5]) (by kernel_rfl) (by simp) ?_
                          refine AllReadyH.cons (by simp only [List.getElem?_toArray, List.getElem?_cons_succ, List.getElem?_cons_zero]; rfl) (fun KK hKK => ?_) AllReadyH.nil
                          obtain ⟨v8, w8, hr8, ho8, hg8⟩ := appendOne w.heap.size w7 _ zs z k LZ.out O7.out (by have := K576.out; omega) (Nat.le_of_lt (Nat.lt_trans MB.out.1 M7.out.lt))
                          refine step_appendV rfl _ _ 24 rfl _ _ rfl rfl _ _ hr8 ?_
                          have M8 := Lib.hid (Blk3.moved (M7.out.old (.cells #[.int .i64 z] 3)) hg8 (fun k hk => O7.out.ne_blk M7.out hk))
                          have K8 := Lib.hid (Blk3.moved (K7.out.old (.cells #[.int .i64 z] 3)) hg8 (fun k hk => O7.out.ne_blk K7.out hk))
                          have R8 : Hid (Rdr w8 rb t) := Lib.hid (Blk1.moved (Blk1.old R7.out (.cells #[.int .i64 z] 3)) hg8 (fun k hk => by have := O7.out.le hk; have := MB.out; omega))
                          have GW8 : Hid (w.grownBy w8 (some rb)) := Lib.hid (grown_own (grown_alloc_oneM GW7.out (.cells #[.int .i64 z] 3)) hg8 (fun k hk => O7.out.le hk))
                          have T8 : Hid (Tab w8) := var?_below (below_own (B := w.heap.size) hg8 (fun k hk => O7.out.le hk) (by have := M7.out.lt; have := MB.out; simp; omega)) gTab (Nat.lt_trans HR.out MB.out.2) (T7.out.below ((Below.refl _ _).alloc (Nat.le_refl _) _))
                          rw [Z2.out] at ho8
                          have O8 := Lib.hid ho8
                          clear hg8 hr8 ho8
                          obtain ⟨a8, c8, rfl⟩ := O8.out.form
                          obtain ⟨m80, m81, m82, f80, f81, f82⟩ := M8.out.all
                          try dsimp only
                          refine hKK.out _ _ True.intro (fun hH2 => ?_)
                          clear hKK KK
                          clear hH
                          have hH := hH2
                          clear hH2
                          try simp only [Act.put, List.setIfInBounds_toArray, List.set_cons_zero, List.set_cons_succ]
                          refine wpAnyH_take (i := 6) (v := ?_) (by simp only [List.getElem?_toArray, List.getElem?_cons_succ, List.getElem?_cons_zero]; rfl) (by kernel_rfl) (by kernel_rfl) (by kernel_rfl) (by exact fun _ _ _ h => h) (Or.inl ⟨by rfl, ?_⟩) hH ?_
                          rotate_left
                          · (intro wS hS; clear hS; go_simp; try rfl)
                          try simp only [Act.put, List.setIfInBounds_toArray, List.set_cons_zero, List.set_cons_succ]
                          refine wpAnyH_ready (rs := [7]) (by kernel_rfl) (by simp) ?_
                          refine AllReadyH.cons (by simp only [List.getElem?_toArray, List.getElem?_cons_succ, List.getElem?_cons_zero]; rfl) (fun KK hKK => ?_) AllReadyH.nil
                          go_simp
                          try dsimp only
                          refine hKK.out _ _ True.intro (fun hH2 => ?_)
                          clear hKK KK
                          clear hH
                          have hH := hH2
                          clear hH2
                          try simp only [Act.put, List.setIfInBounds_toArray, List.set_cons_zero, List.set_cons_succ]
                          refine wpAnyH_done (by kernel_rfl) ?_ _
                          go_wp2_with fail
                          go_roundw
                          case rel => exact ⟨c + 1, by go_num, by omega, zs2, t, _, NX.out, Blk1.far R8.out (by have := MB.out; simp; omega) _, M8.out.set2 _, K8.out.far (by have := MB.out; simp; omega) _, OwnA.far2 O8.out M8.out _, grown_set_new GW8.out (by have := MB.out; simp; omega) _, var?_below ((Below.refl w.heap.size w8).setCell (by have := MB.out; simp; omega) _) gTab (Nat.lt_trans HR.out MB.out.2) T8.out⟩
                          case measure => simp [intOf]; omega
                · have e : c = C := by omega
                  subst e
                  have d0 : decide (c < c) = false := decide_eq_false (by omega)
                  go_wp2_with fail
                  go_roundw
                  case rel => exact ⟨r + 1, by go_num, by omega, zs, l, v, by rw [Nat.add_mul, Nat.one_mul]; exact CL.out, R5.out, M5.out, K5.out, O5.out, GW5.out, T5.out⟩
                  case measure => simp [intOf]; omega
            · obtain rfl : r = R := by omega
              obtain ⟨zs, l, v, hcl, hR5, hM5, hK5, hO5, hG5, hT5⟩ := I.out
              have HO3 := HO2.out
              rw [hcl] at HO3
              have E3 := Lib.hid HO3
              obtain ⟨lz, -, -⟩ := cellsAt_len hcl
              have R5 := Lib.hid hR5
              have M5 := Lib.hid hM5
              have K5 := Lib.hid hK5
              have O5 := Lib.hid hO5
              have GW5 := Lib.hid hG5
              have W3 := iWord rb l [93] wr hR5
              obtain ⟨p1, hp1⟩ : ∃ p, Lib.hasPrefix l [93] = p := ⟨_, rfl⟩
              obtain ⟨q, hq⟩ : ∃ p, Lib.trimPrefix l [93] = p := ⟨_, rfl⟩
              simp only at E3
              rw [hp1, hq] at W3 E3
              have d0 : decide (r < r) = false := decide_eq_false (by omega)
              clear hcl hR5 hM5 hK5 hO5 hG5 hT5 HO3 HO2 lz I hp1 hq
              go_wp2_with fail
              refine W3.mono ?_
              clear W3
              rintro e w6 ⟨g6, s6⟩
              have M6 := Lib.hid (M5.out.keepOne g6 n1)
              have K6 := Lib.hid (K5.out.keepOne g6 hne)
              have O6 := Lib.hid (O5.out.one g6 MB.out.2)
              have GW6 := Lib.hid (GW5.out.trans g6)
              clear g6
              cases p1 with
              | false =>
                have E : Hid (o = none) := E3.out
                rw [if_neg (by decide)] at s6
                cases s6
                go_wp2_with fail
                exact ⟨rfl, wentM_no E.out GW6.out rfl⟩
              | true =>
                have E : Hid (o = some (((r : Int), (C : Int), zs), q)) := E3.out
                rw [if_pos rfl] at s6
                obtain ⟨rfl, r6⟩ := s6
                have R6 := Lib.hid r6
                clear r6
                obtain ⟨va, vc, rfl⟩ := O6.out.form
                obtain ⟨b0, b1, b2, -, -, -⟩ := M6.out.all
                obtain ⟨k0, k1, k2, k3, k4, k5⟩ := K6.out.all
                go_wp2_with fail
                have KF := (((K6.out.set0 (.int .i64 r)).set1 (.int .i64 C)).set2 (.slice va zs.length vc))
                have e0 := KF.cell0
                have e1 := KF.cell1
                have e2 := KF.cell2
                refine bodyPost_ret (v := .agg #[.int .i64 r, .int .i64 C, .slice va zs.length vc]) (by simp [results, Tryz.results54, go_sem, e0, e1, e2]) rfl ?_
                exact wentM_yes E.out (grown_set_new (grown_set_new (grown_set_new GW6.out (by simp) _) (by simp) _) (by simp) _) rfl (((O6.out.far2 K6.out _).far2 (K6.out.set0 _) _).far2 ((K6.out.set0 _).set1 _) _) (Blk1.far (Blk1.far (Blk1.far R6.out hne.symm _) hne.symm _) hne.symm _)
theorem OwnA.lower {B B' : Nat} {w : World} {v : Value} {zs : List Int} (h : OwnA B w v zs) (hB : B' ≤ B) : OwnA B' w v zs := by
  obtain ⟨h1, ⟨h2, h3⟩ | ⟨g, cap, cur, rfl, hb, rest⟩⟩ := h
  · exact ⟨h1, .inl ⟨h2, h3⟩⟩
  · exact ⟨h1, .inr ⟨g, cap, cur, rfl, Nat.le_trans hB hb, rest⟩⟩
theorem Own.farM {B : Nat} {w : World} {v : Value} {zs : List Int} (h : Own B w v zs) {a : Addr} (ha : a.block < B) (u : Value) : Own B (w.setCell a u) v zs := by
  rcases h with h | ⟨g, cap, hv, hB, hi, hl, hc⟩
  · exact .inl h
  · exact .inr ⟨g, cap, hv, hB, hi.far (by omega) u, hl, hc⟩
theorem catchM_panic (x : PanicEntry) (u : TypeId) (pv : Value) (hx : x = { v := .iface u pv, recovered := false }) (older : List PanicEntry) (w : World) :
    CallsD Tryz.prog 94 #[] (.panicking (x :: older)) w fun e u' w' =>
      e = .returned (.tuple #[]) ∧ u' = .panicking ({ v := .iface u pv, recovered := true } :: older) ∧ w' = w := by
  subst hx
  refine callsD_of_wpS Tryz.func94 rfl fun c₀ cs hu => ?_
  apply wpS_region
  simp [wpOpsS, go_sem, recoverD, hu, Tryz.ntmps94, bodyPostS, results, Tryz.results94]
theorem catchM_idle (w : World) :
    CallsD Tryz.prog 94 #[] .returning w fun e u' w' => e = .returned (.tuple #[]) ∧ u' = .returning ∧ w' = w := by
  refine callsD_of_wpS Tryz.func94 rfl fun c₀ cs hu => ?_
  apply wpS_region
  simp [wpOpsS, go_sem, recoverD, hu, Tryz.ntmps94, bodyPostS, results, Tryz.results94]
  cases c₀
  simp_all
set_option maxRecDepth 20000 in
set_option maxHeartbeats 1000000 in
theorem iReadAllM (l : List UInt8) (w : World) (hl : l.length ≤ 16777216) (tb : Tab w) :
    Calls Tryz.prog 53 #[.string ⟨l.toArray⟩, .func (.func 54) #[] #[]] w (MatRes (parM l) w) := by
  have TB := Lib.hid tb
  have LT := Lib.hid tb.lt
  have HL := Lib.hid hl
  obtain ⟨z, hz⟩ : ∃ z, parM l = z := ⟨_, rfl⟩
  have HZ := Lib.hid hz
  rw [hz]
  have NO : Hid (∀ w' : World, z = MR.no → Below w.heap.size w w' → MatRes z w (.returned (.tuple #[.agg #[.int .i64 0, .int .i64 0, .slice none 0 0], .bool false])) w') := Lib.hid (fun w' h hb => by
    rw [h]; exact ⟨_, rfl, .inl ⟨rfl, rfl⟩, hb⟩)
  clear tb hl hz
  go_enter_defers Tryz.func53, Tryz.ntmps53
  go_wp2_with fail
  have K0 : Hid (Blk3 ((w.alloc (.cells #[.int .i64 0, .int .i64 0, .slice none 0 0] 26)).alloc (.cells #[.string ⟨l.toArray⟩] 110)) w.heap.size 26 (.int .i64 0) (.int .i64 0) (.slice none 0 0)) := (Blk3.at_ _ _ _ _ rfl).old _
  have R0 : Hid (Rdr ((w.alloc (.cells #[.int .i64 0, .int .i64 0, .slice none 0 0] 26)).alloc (.cells #[.string ⟨l.toArray⟩] 110)) (w.heap.size + 1) l) := Blk1.at_ _ _ (by simp)
  have B0 : Hid (Below w.heap.size w ((w.alloc (.cells #[.int .i64 0, .int .i64 0, .slice none 0 0] 26)).alloc (.cells #[.string ⟨l.toArray⟩] 110))) := ((Below.refl _ _).alloc (Nat.le_refl _) _).alloc (by simp) _
  obtain ⟨o, ho⟩ : ∃ o, goM1 l = o := ⟨_, rfl⟩
  have RA := iMatrixR (w.heap.size + 1) l _ R0.out HL.out (TB.out.below B0.out) (by have := LT.out; omega)
  rw [ho] at RA
  have HO := Lib.hid ho
  clear ho
  refine RA.mono ?_
  clear RA
  rintro e w1 ⟨g1, h1⟩
  have K1 : Hid (Blk3 w1 w.heap.size 26 (.int .i64 0) (.int .i64 0) (.slice none 0 0)) := K0.out.keepOne g1 (by omega)
  have B1 : Hid (Below w.heap.size w w1) := B0.out.trans (below_of_one g1 (by omega) (by simp; omega))
  clear g1
  cases o with
  | none =>
    have E : Hid (z = MR.no) := Lib.hid (by rw [← HZ.out]; exact goM1_none HO.out)
    cases h1
    go_wp2_with fail
    refine leaves_cons (f := 94) (args := #[]) (by simp) (by simp [go_sem]) ?_
    refine (catchM_panic _ _ _ rfl [] _).mono ?_
    rintro e u' w'' ⟨rfl, rfl, rfl⟩
    have e0 := K1.out.cell0
    have e1 := K1.out.cell1
    have e2 := K1.out.cell2
    have FIN := NO.out _ E.out B1.out
    simp [Leaves, settle, results, Tryz.results53, go_sem, e0, e1, e2]
    exact FIN
  | some p =>
    obtain ⟨⟨r, c, zs⟩, l'⟩ := p
    obtain ⟨v, rfl, ov, r1⟩ := h1
    have c1 := Blk1.cell0 r1
    have R1 := Lib.hid r1
    have OV : Hid (OwnA w.heap.size w1 v zs) := Lib.hid (ov.lower (by simp; omega))
    obtain ⟨va, vc, rfl⟩ := ov.form
    have lt1 : w.heap.size < w1.heap.size := K1.out.lt
    have B2 : Hid (Below w.heap.size w (w1.alloc (.cells #[.int .i64 r, .int .i64 c, .slice va zs.length vc] 26))) := B1.out.alloc B1.out.size _
    have K2 : Hid (Blk3 (w1.alloc (.cells #[.int .i64 r, .int .i64 c, .slice va zs.length vc] 26)) w.heap.size 26 (.int .i64 0) (.int .i64 0) (.slice none 0 0)) := K1.out.old _
    have c2 := Blk1.cell0 (Blk1.old r1 (.cells #[.int .i64 r, .int .i64 c, .slice va zs.length vc] 26))
    clear r1 c1 ov
    cases l' with
    | nil =>
      have E : Hid (z = ⟨true, r, c, zs⟩) := Lib.hid (by rw [← HZ.out]; exact goM1_done HO.out)
      have ZL : Hid (zs.length ≤ 16777216) := Lib.hid (by
        have h := goM1_says HO.out
        obtain ⟨⟨r1, r2⟩, ⟨c1, c2⟩, l1, -⟩ := isMat_says h.1
        have := (mul_size r c ⟨r1, r2⟩ ⟨c1, c2⟩).2; omega)
      obtain ⟨k0, k1, k2, k3, k4, k5⟩ := K1.out.all
      go_wp2_with fail
      refine (iNeed_t _ _).mono ?_
      rintro e w5 ⟨rfl, rfl⟩
      go_wp2_with fail
      refine leaves_cons (f := 94) (args := #[]) (by simp) (by simp [go_sem]) ?_
      refine (catchM_idle _).mono ?_
      rintro e u' w'' ⟨rfl, rfl, rfl⟩
      have KF := (((K1.out.set0 (.int .i64 r)).set1 (.int .i64 c)).set2 (.slice va zs.length vc)).old (.cells #[.int .i64 r, .int .i64 c, .slice va zs.length vc] 26)
      have e0 := KF.cell0
      have e1 := KF.cell1
      have e2 := KF.cell2
      have OF := (((OV.out.far2 K1.out (.int .i64 r) (j := 0)).far2 (K1.out.set0 (.int .i64 r)) (.int .i64 c) (j := 1)).far2 ((K1.out.set0 (.int .i64 r)).set1 (.int .i64 c)) (.slice va zs.length vc) (j := 2)).keep ((Below.refl _ _).alloc (Nat.le_refl _) (.cells #[.int .i64 r, .int .i64 c, .slice va zs.length vc] 26))
      have BF : Below w.heap.size w ((((w1.setCell ⟨w.heap.size, 0, none⟩ (.int .i64 r)).setCell ⟨w.heap.size, 1, none⟩ (.int .i64 c)).setCell ⟨w.heap.size, 2, none⟩ (.slice va zs.length vc)).alloc (.cells #[.int .i64 r, .int .i64 c, .slice va zs.length vc] 26)) :=
        (((B1.out.setCell (by exact Nat.le_refl _) _).setCell (by exact Nat.le_refl _) _).setCell (by exact Nat.le_refl _) _).alloc (by simpa using B1.out.size) _
      have FIN : MatRes z w (.returned (.tuple #[.agg #[.int .i64 r, .int .i64 c, .slice va zs.length vc], .bool true])) ((((w1.setCell ⟨w.heap.size, 0, none⟩ (.int .i64 r)).setCell ⟨w.heap.size, 1, none⟩ (.int .i64 c)).setCell ⟨w.heap.size, 2, none⟩ (.slice va zs.length vc)).alloc (.cells #[.int .i64 r, .int .i64 c, .slice va zs.length vc] 26)) := by
        rw [E.out]
        exact ⟨_, rfl, OF.own ZL.out, BF⟩
      simp [Leaves, settle, results, Tryz.results53, go_sem, e0, e1, e2]
      exact FIN
    | cons c0 s =>
      have E : Hid (z = MR.no) := Lib.hid (by rw [← HZ.out]; exact goM1_left HO.out (by simp))
      have eq0 : ((c0 :: s : List UInt8) == []) = false := rfl
      go_wp2_with fail
      refine (iNeed_f _ _).mono ?_
      rintro e w5 ⟨rfl, rfl⟩
      go_wp2_with fail
      refine leaves_cons (f := 94) (args := #[]) (by simp) (by simp [go_sem]) ?_
      refine (catchM_panic _ _ _ rfl [] _).mono ?_
      rintro e u' w'' ⟨rfl, rfl, rfl⟩
      have e0 := K2.out.cell0
      have e1 := K2.out.cell1
      have e2 := K2.out.cell2
      have FIN := NO.out _ E.out B2.out
      simp [Leaves, settle, results, Tryz.results53, go_sem, e0, e1, e2]
      exact FIN
set_option maxRecDepth 20000 in
set_option maxHeartbeats 1000000 in
theorem iParseMatrix (l : List UInt8) (w : World) (hl : l.length ≤ 16777216) (tb : Tab w) :
    Calls Tryz.prog 18 #[.string ⟨l.toArray⟩] w (MatRes (parM l) w) := by
  have B0 : Hid (Below w.heap.size w (w.alloc (.cells #[.int .i64 0, .int .i64 0, .slice none 0 0] 26))) := (Below.refl _ _).alloc (Nat.le_refl _) _
  have K0 : Hid (Blk3 (w.alloc (.cells #[.int .i64 0, .int .i64 0, .slice none 0 0] 26)) w.heap.size 26 (.int .i64 0) (.int .i64 0) (.slice none 0 0)) := Blk3.at_ _ _ _ _ rfl
  have n1 : (l.length : Int) ≤ 16777216 := by omega
  by_cases h8 : l.length ≤ 8000
  · have d0 : decide ((8000 : Int) < l.length) = false := decide_eq_false (by omega)
    have d1 : decide (8000 < l.length) = false := decide_eq_false (by omega)
    have RA := iReadAllM l (w.alloc (.cells #[.int .i64 0, .int .i64 0, .slice none 0 0] 26)) hl (tb.below B0.out)
    obtain ⟨z, hz⟩ : ∃ z, parM l = z := ⟨_, rfl⟩
    rw [hz] at RA ⊢
    obtain ⟨ok, r, c, zs⟩ := z
    clear hz hl tb h8
    go_enter Tryz.func18, Tryz.ntmps18
    go_wp2_with fail
    refine RA.mono ?_
    clear RA
    rintro e w1 ⟨v, rfl, ov, b1⟩
    have K1 : Hid (Blk3 w1 w.heap.size 26 (.int .i64 0) (.int .i64 0) (.slice none 0 0)) := K0.out.keep b1 (by simp)
    have B1 : Hid (Below w.heap.size w w1) := B0.out.trans (b1.mono (by simp))
    have OV : Hid (Own (w.heap.size + 1) w1 v zs) := Lib.hid (ov.le (by simp))
    obtain ⟨va, vc, rfl, -, -⟩ := ov.form
    obtain ⟨k0, k1, k2, k3, k4, k5⟩ := K1.out.all
    clear b1 ov
    simp only
    go_wp2_with fail
    have KF := (((K1.out.set0 (.int .i64 r)).set1 (.int .i64 c)).set2 (.slice va zs.length vc))
    have e0 := KF.cell0
    have e1 := KF.cell1
    have e2 := KF.cell2
    refine bodyPost_ret (v := .tuple #[.agg #[.int .i64 r, .int .i64 c, .slice va zs.length vc], .bool ok]) (by simp [results, Tryz.results18, go_sem, e0, e1, e2]) rfl ?_
    exact ⟨_, rfl, ((((OV.out.farM (by simp) _).farM (by simp) _).farM (by simp) _)).le (by omega), ((B1.out.setCell (by exact Nat.le_refl _) _).setCell (by exact Nat.le_refl _) _).setCell (by exact Nat.le_refl _) _⟩
  · have d0 : decide ((8000 : Int) < l.length) = true := decide_eq_true (by omega)
    have d1 : decide (8000 < l.length) = true := decide_eq_true (by omega)
    have E : Hid (parM l = MR.no) := Lib.hid (parM_no (fun h => h8 h.2.1))
    rw [E.out]
    obtain ⟨k0, k1, k2, k3, k4, k5⟩ := K0.out.all
    clear hl tb h8
    go_enter Tryz.func18, Tryz.ntmps18
    go_wp2_with fail
    refine bodyPost_ret (v := .tuple #[.agg #[.int .i64 0, .int .i64 0, .slice none 0 0], .bool false]) (by simp [results, Tryz.results18, go_sem]) rfl ?_
    exact ⟨_, rfl, .inl ⟨rfl, rfl⟩, B0.out⟩
end Go.Proofs.YtcapddcmnjeloaaGreatDoor
end

section
/-
  The drawing of matrices: one of any size up to 4 by 4.
-/
namespace Go.Proofs.YtcapddcmnjeloaaGreatDoor
set_option maxRecDepth 100000
open Go.RowKit
end Go.Proofs.YtcapddcmnjeloaaGreatDoor
end

section
/-
  The drawing of a matrix's text, spoiled or not.
-/
namespace Go.Proofs.YtcapddcmnjeloaaGreatDoor
open Go.RowKit
open Go.Lib (decDigits itoa nDigits)
theorem fmtM_len (r c : Int) (xs : List Int) : (fmtM r c xs).length ≤ 8000 := by
  unfold fmtM
  split
  · rename_i h
    obtain ⟨⟨r1, r2⟩, ⟨c1, c2⟩, -, -⟩ := isMat_says h
    obtain ⟨R, rfl⟩ := Int.eq_ofNat_of_zero_le r1
    obtain ⟨C, rfl⟩ := Int.eq_ofNat_of_zero_le c1
    exact matText_len h
  · exact Nat.zero_le _
end Go.Proofs.YtcapddcmnjeloaaGreatDoor
end

section
/-
  The laws' sameRatios over equal lists, and big lists held as the contracts give them.
-/
namespace Go.Proofs.YtcapddcmnjeloaaGreatDoor
set_option maxRecDepth 100000
open Go.RowKit
set_option maxHeartbeats 2000000 in
theorem sameQ (a b : Option Addr) (c d : Nat) (l : List (Int × Int)) (w : World) (h : RdQ w a l) (h' : RdQ w b l) (hn : l.length ≤ 16777216) :
    Calls Tryz.prog 12 #[.slice a l.length c, .slice b l.length d] w fun e w' => e = .returned (.bool true) ∧ ∃ n, w' = w.drewN n := by
  have H := Lib.hid h
  have H' := Lib.hid h'
  obtain ⟨n, hnn⟩ : ∃ n, l.length = n := ⟨_, rfl⟩
  rw [hnn] at hn ⊢
  have HN := Lib.hid hnn
  clear h h' hnn
  go_enter Tryz.func12, Tryz.ntmps12
  go_wp2_with fail
  go_loopw [5] (fun v5 wr => ∃ k : Nat, v5 = .int .i64 k ∧ k ≤ n ∧ ∃ q, wr = w.drewN q) (fun v5 _ => n - (intOf v5).toNat)
  case atStart => exact ⟨0, rfl, by omega, 0, rfl⟩
  case round =>
    obtain ⟨k, rfl, hk, q, rfl⟩ := hrel
    by_cases hlt : k < n
    · obtain ⟨b2, o2, rfl, -, c0, c1⟩ := H.out k (by rw [HN.out]; exact hlt)
      obtain ⟨b3, o3, rfl, -, d0, d1⟩ := H'.out k (by rw [HN.out]; exact hlt)
      obtain ⟨u, hu⟩ : ∃ u, (l.getD k (0, 0)).1 = u := ⟨_, rfl⟩
      obtain ⟨v, hv⟩ : ∃ v, (l.getD k (0, 0)).2 = v := ⟨_, rfl⟩
      rw [hu] at c0 d0
      rw [hv] at c1 d1
      have c0 : (w.drewN q).cell? ⟨b2, o2 + k * 2, none⟩ = some (.int .i64 u) := c0
      have c1 : (w.drewN q).cell? ⟨b2, o2 + k * 2 + 1, none⟩ = some (.int .i64 v) := c1
      have d0 : (w.drewN q).cell? ⟨b3, o3 + k * 2, none⟩ = some (.int .i64 u) := d0
      have d1 : (w.drewN q).cell? ⟨b3, o3 + k * 2 + 1, none⟩ = some (.int .i64 v) := d1
      clear hu hv
      go_wp2_with fail
      go_quiet (fail)
      go_wp2_with fail
      go_roundw
      case rel => exact ⟨k + 1, by go_num, by omega, _, rfl⟩
      case measure => simp [intOf]; omega
    · obtain rfl : k = n := by omega
      go_wp2_with fail
      go_ret
      exact ⟨rfl, q, rfl⟩
end Go.Proofs.YtcapddcmnjeloaaGreatDoor
end
