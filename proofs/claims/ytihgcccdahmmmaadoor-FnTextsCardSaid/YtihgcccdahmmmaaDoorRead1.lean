/-
  Chapter 4, in the program: the reader: need, word, number, size.
-/
import Derived.Test.YtihgcccdahmmmaaDoorReadMath
import Derived.Test.YtihgcccdahmmmaaDoorMatI
import Derived.Shelf.Strings.SlTrimAscii
namespace Go.Proofs.YtihgcccdahmmmaaDoor
open Go.RowKit
open Go.Lib (decDigits itoa nDigits)

/-- A block of one cell, not frozen. -/
def Blk1 (w : World) (b : Nat) (t : TypeId) (p : Value) : Prop := w.heap[b]? = some (.cells #[p] t (0, 0))
theorem Blk1.cell0 {w : World} {b : Nat} {t : TypeId} {p : Value} (h : Blk1 w b t p) : w.cell? ⟨b, 0, none⟩ = some p := by unfold Blk1 at h; simp [World.cell?, h]
theorem Blk1.free {w : World} {b : Nat} {t : TypeId} {p : Value} (h : Blk1 w b t p) (o : Nat) : w.frozen? ⟨b, o, none⟩ = false := by unfold Blk1 at h; simp [World.frozen?, h]
theorem Blk1.lt {w : World} {b : Nat} {t : TypeId} {p : Value} (h : Blk1 w b t p) : b < w.heap.size := lt_of_block h
theorem Blk1.set0 {w : World} {b : Nat} {t : TypeId} {p : Value} (h : Blk1 w b t p) (u : Value) : Blk1 (w.setCell ⟨b, 0, none⟩ u) b t u := by
  have hlt := h.lt
  unfold Blk1 at h ⊢
  have h' : w.heap[b] = .cells #[p] t (0, 0) := by simpa [Array.getElem?_eq_getElem hlt] using h
  show (w.heap.modify b _)[b]? = _
  rw [Array.getElem?_eq_getElem (by simpa using hlt), Array.getElem_modify_self, h']
  rfl
theorem Blk1.far {w : World} {b : Nat} {t : TypeId} {p : Value} (h : Blk1 w b t p) {a : Addr} (ha : b ≠ a.block) (u : Value) : Blk1 (w.setCell a u) b t p := (Below.heap_setCell w a u b ha).trans h
theorem Blk1.keep {w w' : World} {b B : Nat} {t : TypeId} {p : Value} (h : Blk1 w b t p) (hb : Below B w w') (hB : b < B) : Blk1 w' b t p := (hb.block b hB).trans h
theorem Blk1.drewN {w : World} {b : Nat} {t : TypeId} {p : Value} (h : Blk1 w b t p) (n : Nat) : Blk1 (w.drewN n) b t p := h
theorem Blk1.drew {w : World} {b : Nat} {t : TypeId} {p : Value} (h : Blk1 w b t p) : Blk1 w.drew b t p := h
theorem Blk1.at_ {w : World} {b : Nat} (t : TypeId) (p : Value) (hb : b = w.heap.size) : Blk1 (w.alloc (.cells #[p] t)) b t p := by
  subst hb; unfold Blk1; show (w.heap.push _)[w.heap.size]? = _
  rw [Array.getElem?_push, if_pos rfl]
theorem Blk1.old {w : World} {b : Nat} {t : TypeId} {p : Value} (h : Blk1 w b t p) (o : Obj) : Blk1 (w.alloc o) b t p := (Below.heap_alloc w o b h.lt).trans h
theorem Blk1.keepOne {w w' : World} {b c : Nat} {t : TypeId} {p : Value} (h : Blk1 w b t p) (hg : w.grownBy w' (some c)) (hne : b ≠ c) : Blk1 w' b t p :=
  (hg.block b h.lt (by simpa using hne)).trans h

/-- The reader in block rb stands before the text l. -/
def Rdr (w : World) (rb : Nat) (l : List UInt8) : Prop := Blk1 w rb 91 (.string ⟨l.toArray⟩)
/-- The call ends in the reader's own panic. -/
def Boom (e : Ending) : Prop := e = .panicked [{ v := .iface 9 (.string ⟨#[116, 104, 101, 32, 116, 101, 120, 116, 32, 100, 111, 101, 115, 32, 110, 111, 116, 32, 103, 111, 32, 111, 110, 32, 108, 105, 107, 101, 32, 116, 104, 105, 115]⟩), recovered := false }]

theorem iNeed_t (p : Value) (w : World) :
    Calls Tryd.prog 72 #[p, .bool true] w fun e w' => e = .returned (.tuple #[]) ∧ w = w' := by
  go_enter Tryd.func72, Tryd.ntmps72
  go_wp2_with fail
  go_end0
  exact ⟨rfl, rfl⟩
theorem iNeed_f (p : Value) (w : World) :
    Calls Tryd.prog 72 #[p, .bool false] w fun e w' => Boom e ∧ w = w' := by
  go_enter Tryd.func72, Tryd.ntmps72
  go_wp2_with fail
  exact ⟨rfl, rfl, rfl⟩

theorem iCut (l p : List UInt8) (w : World) :
    Calls Tryd.prog 87 #[.string ⟨l.toArray⟩, .string ⟨p.toArray⟩] w fun e w' => e = .returned (.tuple #[.string ⟨(Lib.trimPrefix l p).toArray⟩, .bool (Lib.hasPrefix l p)]) ∧ w' = w :=
  Tryd.strings_CutPrefix ⟨l.toArray⟩ ⟨p.toArray⟩ w
theorem iTrimL (l : List UInt8) (w : World) :
    Calls Tryd.prog 88 #[.string ⟨l.toArray⟩, .string ⟨#[45, 48, 49, 50, 51, 52, 53, 54, 55, 56, 57]⟩] w fun e w' => e = .returned (.string ⟨(tailN l).toArray⟩) ∧ Below w.heap.size w w' :=
  Any.strings_TrimLeft_laid Tryd.lays161 (by kernel_rfl) ⟨l.toArray⟩ ⟨#[45, 48, 49, 50, 51, 52, 53, 54, 55, 56, 57]⟩ w (by decide) (ascii_of_all (by decide))
theorem iTrimS (l : List UInt8) (w : World) (h : l.length ≤ 16777216) :
    Calls Tryd.prog 90 #[.string ⟨l.toArray⟩, .string ⟨(tailN l).toArray⟩] w fun e w' => e = .returned (.string ⟨(headN l).toArray⟩) ∧ w' = w :=
  Tryd.strings_TrimSuffix ⟨l.toArray⟩ ⟨(tailN l).toArray⟩ w (by show l.length ≤ _; omega)
theorem iParse (l : List UInt8) (w : World) (ht : Tab w) :
    Calls Tryd.prog 89 #[.string ⟨l.toArray⟩] w fun e w' => e = .returned (.tuple #[.int .i64 (numT l).1, .bool (numT l).2]) ∧ Below w.heap.size w w' := by
  by_cases h : IsNumT l
  · obtain ⟨⟨h1, h2⟩, h3, h4⟩ := numT_yes h
    rw [h4]
    exact iParse_yes ⟨l.toArray⟩ (numT l).1 h1 h2 h3 w ht
  · rw [numT_no h]
    exact iParse_no ⟨l.toArray⟩ (fun v h1 h2 e => h ⟨v, ⟨h1, h2⟩, e⟩) w ht

/-- The reader has gone on, or the call ends in its panic. -/
def Went (rb : Nat) (v : Value) (l' : List UInt8) (ok : Bool) (w : World) (e : Ending) (w' : World) : Prop :=
  w.grownBy w' (some rb) ∧ if ok = true then e = .returned v ∧ Rdr w' rb l' else Boom e

theorem went_yes {rb : Nat} {v : Value} {l' : List UInt8} {ok : Bool} {w w' : World} {e : Ending} (h : ok = true) (g : w.grownBy w' (some rb)) (he : e = .returned v) (hr : Rdr w' rb l') : Went rb v l' ok w e w' := ⟨g, by rw [if_pos h]; exact ⟨he, hr⟩⟩
theorem iWord (rb : Nat) (l p : List UInt8) (w : World) (h : Rdr w rb l) :
    Calls Tryd.prog 74 #[.pointer (some ⟨rb, 0, none⟩), .string ⟨p.toArray⟩] w (Went rb (.tuple #[]) (Lib.trimPrefix l p) (Lib.hasPrefix l p) w) := by
  have c0 := Blk1.cell0 h
  have f0 := Blk1.free h 0
  have H := Lib.hid h
  clear h
  obtain ⟨k, hk⟩ : ∃ k, Lib.hasPrefix l p = k := ⟨_, rfl⟩
  obtain ⟨q, hq⟩ : ∃ k, Lib.trimPrefix l p = k := ⟨_, rfl⟩
  have CUT := iCut l p w
  rw [hk, hq] at CUT ⊢
  clear hk hq
  go_enter Tryd.func74, Tryd.ntmps74
  go_wp2_with fail
  refine CUT.mono ?_
  clear CUT
  rintro e w1 ⟨rfl, rfl⟩
  cases k with
  | true =>
    go_wp2_with fail
    refine (iNeed_t _ _).mono ?_
    rintro e w2 ⟨rfl, rfl⟩
    go_wp2_with fail
    go_end0
    exact ⟨grown_set_one (World.grownBy.refl _ _) rfl _, by rw [if_pos rfl]; exact ⟨rfl, Blk1.set0 H.out _⟩⟩
  | false =>
    go_wp2_with fail
    refine (iNeed_f _ _).mono ?_
    rintro e w2 ⟨rfl, rfl⟩
    go_wp2_with fail
    exact ⟨rfl, World.grownBy.refl _ _, rfl⟩

theorem gTab_lt_of {w w' : World} {rb : Nat} (h : Tab w) (hg : w.grownBy w' (some rb)) (hr : 1 < rb) (hb : rb ≤ w.heap.size) : Tab w' :=
  var?_below (below_of_one hg (Nat.le_refl _) hb) gTab hr h

set_option maxHeartbeats 400000 in
theorem iNumber (rb : Nat) (l : List UInt8) (w : World) (h : Rdr w rb l) (hl : l.length ≤ 16777216) (tb : Tab w) :
    Calls Tryd.prog 75 #[.pointer (some ⟨rb, 0, none⟩)] w (Went rb (.int .i64 (numT (headN l)).1) (tailN l) (numT (headN l)).2 w) := by
  have c0 := Blk1.cell0 h
  have H := Lib.hid h
  have TB := Lib.hid tb
  clear h tb
  obtain ⟨k, hk⟩ : ∃ k, (numT (headN l)).2 = k := ⟨_, rfl⟩
  obtain ⟨n, hn⟩ : ∃ k, (numT (headN l)).1 = k := ⟨_, rfl⟩
  obtain ⟨t, ht⟩ : ∃ k, tailN l = k := ⟨_, rfl⟩
  obtain ⟨d, hd⟩ : ∃ k, headN l = k := ⟨_, rfl⟩
  have TL := iTrimL l w
  have TS : ∀ w : World, Calls Tryd.prog 90 #[.string ⟨l.toArray⟩, .string ⟨t.toArray⟩] w fun e w' => e = .returned (.string ⟨d.toArray⟩) ∧ w' = w := fun w => by rw [← ht, ← hd]; exact iTrimS l w hl
  have PA : ∀ w : World, Tab w → Calls Tryd.prog 89 #[.string ⟨d.toArray⟩] w fun e w' => e = .returned (.tuple #[.int .i64 n, .bool k]) ∧ Below w.heap.size w w' := fun w tb => by rw [← hn, ← hk, ← hd]; exact iParse _ w tb
  rw [hk, hn, ht]
  rw [ht] at TL
  clear hk hn ht hd hl
  have PAH := Lib.hid PA
  clear PA
  go_enter Tryd.func75, Tryd.ntmps75
  go_wp2_with fail
  refine TL.mono ?_
  clear TL
  rintro e w1 ⟨rfl, b1⟩
  have H1 : Hid (Rdr w1 rb l) := Blk1.keep H.out b1 (Blk1.lt H.out)
  have c1 := Blk1.cell0 H1.out
  have B1 := Lib.hid b1
  clear b1 c0
  go_wp2_with fail
  refine (TS _).mono ?_
  clear TS
  rintro e w2 ⟨rfl, rfl⟩
  go_wp2_with fail
  refine (PAH.out _ (TB.out.below B1.out)).mono ?_
  rintro e w3 ⟨rfl, b2⟩
  have B2 : Hid (Below w.heap.size w w3) := B1.out.trans (b2.mono B1.out.size)
  have H2 : Hid (Rdr w3 rb l) := Blk1.keep H1.out b2 (Blk1.lt H1.out)
  have f2 := Blk1.free H2.out 0
  have c2 := Blk1.cell0 H2.out
  clear b2 c1
  cases k with
  | true =>
    go_wp2_with fail
    refine (iNeed_t _ _).mono ?_
    rintro e w4 ⟨rfl, rfl⟩
    go_wp2_with fail
    go_ret
    exact ⟨grown_set_one (grown_of_below B2.out _) rfl _, by rw [if_pos rfl]; exact ⟨rfl, Blk1.set0 H2.out _⟩⟩
  | false =>
    go_wp2_with fail
    refine (iNeed_f _ _).mono ?_
    rintro e w4 ⟨rfl, rfl⟩
    go_wp2_with fail
    exact ⟨rfl, grown_of_below B2.out _, rfl⟩

/-- Whether a size is read, and which. -/
noncomputable def sizeOk (l : List UInt8) : Bool := (numT (headN l)).2 && decide (SizeP (numT (headN l)).1)
theorem iSizeR (rb : Nat) (l : List UInt8) (w : World) (h : Rdr w rb l) (hl : l.length ≤ 16777216) (tb : Tab w) :
    Calls Tryd.prog 73 #[.pointer (some ⟨rb, 0, none⟩)] w (Went rb (.int .i64 (numT (headN l)).1) (tailN l) (sizeOk l) w) := by
  have NU := iNumber rb l w h hl tb
  unfold sizeOk
  clear h hl tb
  obtain ⟨k, hk⟩ : ∃ k, (numT (headN l)).2 = k := ⟨_, rfl⟩
  obtain ⟨n, hn⟩ : ∃ k, (numT (headN l)).1 = k := ⟨_, rfl⟩
  obtain ⟨t, ht⟩ : ∃ k, tailN l = k := ⟨_, rfl⟩
  rw [hk, hn, ht] at NU ⊢
  clear hk hn ht
  go_enter Tryd.func73, Tryd.ntmps73
  go_wp2_with fail
  refine NU.mono ?_
  clear NU
  rintro e w1 ⟨g1, h1⟩
  have G := Lib.hid g1
  clear g1
  cases k with
  | true =>
    rw [if_pos rfl] at h1
    obtain ⟨rfl, r1⟩ := h1
    have R := Lib.hid r1
    clear r1
    go_wp2_with fail
    refine (iSize _ _).mono ?_
    rintro e w2 ⟨rfl, rfl⟩
    rcases Bool.eq_false_or_eq_true (decide (SizeP n)) with hs | hs
    · rw [hs]
      go_wp2_with fail
      refine (iNeed_t _ _).mono ?_
      rintro e w4 ⟨rfl, rfl⟩
      go_wp2_with fail
      go_ret
      exact went_yes (by rw [hs]; rfl) G.out rfl R.out
    · rw [hs]
      go_wp2_with fail
      refine (iNeed_f _ _).mono ?_
      rintro e w4 ⟨rfl, rfl⟩
      go_wp2_with fail
      exact ⟨rfl, G.out, rfl⟩
  | false =>
    rw [if_neg (by decide)] at h1
    cases h1
    go_wp2_with fail
    exact ⟨rfl, G.out, rfl⟩
end Go.Proofs.YtihgcccdahmmmaaDoor
