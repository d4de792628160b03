/-
  Chapter 4, in the program: FormatInts.
-/
import Derived.Test.YtihgcccdahmmmaaDoorFmtS
import Derived.Test.YtihgcccdahmmmaaDoorSplitS
import Derived.Lib.Join
namespace Go.Proofs.YtihgcccdahmmmaaDoor
open Go.RowKit
open Go.Lib (decDigits itoa nDigits)

/-- A block of texts. -/
def Strs (w : World) (g : Nat) (ls : List (List UInt8)) : Prop := w.heap[g]? = some (.cells (ls.map strV).toArray 9 (0, 0))
theorem Strs.lt {w : World} {g : Nat} {ls : List (List UInt8)} (h : Strs w g ls) : g < w.heap.size := lt_of_block h
theorem Strs.cell {w : World} {g : Nat} {ls : List (List UInt8)} (h : Strs w g ls) {i : Nat} (hi : i < ls.length) : w.cell? ⟨g, i, none⟩ = some (strV (ls.getD i [])) := by
  unfold Strs at h
  simp [World.cell?, h, hi, List.getD]
theorem Strs.free {w : World} {g : Nat} {ls : List (List UInt8)} (h : Strs w g ls) (i : Nat) : w.frozen? ⟨g, i, none⟩ = false := by
  unfold Strs at h
  simp [World.frozen?, h]
theorem Strs.set {w : World} {g : Nat} {ls : List (List UInt8)} (h : Strs w g ls) (i : Nat) (l : List UInt8) : Strs (w.setCell ⟨g, i, none⟩ (strV l)) g (ls.set i l) := by
  unfold Strs at h ⊢
  simp [World.setCell, Array.getElem?_modify, h]
theorem Strs.keep {w w' : World} {g : Nat} {ls : List (List UInt8)} (h : Strs w g ls) (hb : Below w.heap.size w w') : Strs w' g ls := (hb.block g h.lt).trans h
theorem Strs.drew {w : World} {g : Nat} {ls : List (List UInt8)} (h : Strs w g ls) : Strs w.drew g ls := h
theorem madeCells_strs (n : Nat) : madeCells #[.string ⟨#[]⟩] n = ((List.replicate n ([] : List UInt8)).map strV).toArray := by
  apply Array.ext
  · simp [madeCells]
  · intro i h1 h2
    simp [madeCells, Nat.mod_one, strV]
theorem Strs.made {w : World} {g : Nat} (n : Nat) (hg : g = w.heap.size) : Strs (w.alloc (.cells (madeCells #[.string ⟨#[]⟩] n) 9)) g (List.replicate n []) := by
  subst hg
  unfold Strs
  rw [madeCells_strs]
  exact heap_alloc_new w _
theorem makeStrs (n : Nat) (h : n ≤ 16777216) (w : World) : (Instr.makeSlice 71 (.int .i64 (n : Int)) (.int .i64 (n : Int))).run Tryd.prog w = .ok (.slice (some ⟨w.heap.size, 0, none⟩) n n) (w.alloc (.cells (madeCells #[.string ⟨#[]⟩] n) 9)) :=
  run_make_row' (P := Tryd.prog) 71 9 (.string ⟨#[]⟩) 16 Tryd.underlying71 info_str rfl .i64 .i64 n (by omega) (by omega) w

/-- The first i numbers as texts, then empty texts. -/
def words (xs : List Int) (i : Nat) : List (List UInt8) := (List.range i).map (fun j => itoa (xs.getD j 0)) ++ List.replicate (xs.length - i) []
theorem words_zero (xs : List Int) : words xs 0 = List.replicate xs.length [] := rfl
theorem words_len (xs : List Int) (i : Nat) (h : i ≤ xs.length) : (words xs i).length = xs.length := by simp [words]; omega
theorem words_set (xs : List Int) (i : Nat) (h : i < xs.length) : (words xs i).set i (itoa (xs.getD i 0)) = words xs (i + 1) := by
  unfold words
  rw [List.set_append, if_neg (by simp)]
  have e : xs.length - i = (xs.length - (i + 1)) + 1 := by omega
  simp only [List.length_map, List.length_range, Nat.sub_self]
  rw [e, List.replicate_succ, List.set_cons_zero, List.range_succ, List.map_append, List.append_assoc]
  rfl
theorem join_more (L : List (List UInt8)) (y sep : List UInt8) : Lib.join (L ++ [y]) sep = (if 0 < L.length then Lib.join L sep ++ sep else Lib.join L sep) ++ y := by
  cases L with
  | nil => rw [if_neg (by simp), List.nil_append, Lib.join_one, Lib.join_nil]; rfl
  | cons x r =>
    rw [if_pos (by simp), List.cons_append, Lib.join_cons, Lib.join_cons]
    simp [Lib.joinTail]
theorem join_words (xs : List Int) (i : Nat) : Lib.join ((List.range i).map fun j => itoa (xs.getD j 0)) [32] = itx xs i := by
  induction i with
  | zero => exact Lib.join_nil _
  | succ i ih =>
    rw [List.range_succ, List.map_append, List.map_cons, List.map_nil, join_more, ih]
    simp only [List.length_map, List.length_range]
    rfl
theorem join_all (xs : List Int) : Lib.join (words xs xs.length) [32] = itx xs xs.length := by
  unfold words
  rw [Nat.sub_self, List.replicate_zero, List.append_nil, join_words]

set_option maxHeartbeats 1000000 in
theorem iFormatInts (a : Option Addr) (cap : Nat) (xs : List Int) (w : World) (h : Rd w a xs) (hn : xs.length ≤ 16777216) (hr : I64 xs) (tb : Tab w) :
    Calls Tryd.prog 29 #[.slice a xs.length cap] w (Gives (.string ⟨(itx xs xs.length).toArray⟩) w) := by
  have H := Lib.hid h
  have HR := Lib.hid hr
  have TB := Lib.hid tb
  have MK := makeStrs xs.length hn
  have S0 : Hid (Strs (w.alloc (.cells (madeCells #[.string ⟨#[]⟩] xs.length) 9)) w.heap.size (words xs 0)) := Strs.made xs.length rfl
  have B0 : Hid (Below w.heap.size w (w.alloc (.cells (madeCells #[.string ⟨#[]⟩] xs.length) 9))) := (Below.refl _ _).alloc (Nat.le_refl _) _
  have n0 : (0 : Int) ≤ xs.length := by omega
  have n1 : (xs.length : Int) ≤ 16777216 := by omega
  have LL : Hid ((itx xs xs.length).length ≤ 140737488355328) := by
    have := itx_len hr xs.length
    exact Lib.hid (by omega)
  clear h hr tb hn
  go_enter Tryd.func29, Tryd.ntmps29
  go_wp2_with fail
  go_loopw [11] (fun x wr => ∃ i : Nat, x = .int .i64 i ∧ i ≤ xs.length ∧ Strs wr w.heap.size (words xs i) ∧ Below w.heap.size w wr) (fun x _ => xs.length - (intOf x).toNat)
  case atStart => exact ⟨0, rfl, Nat.zero_le _, S0.out, B0.out⟩
  case round =>
    obtain ⟨i, rfl, hi, hs, hb⟩ := hrel
    have S := Lib.hid hs
    have B := Lib.hid hb
    clear hs hb S0 B0
    rcases Nat.lt_or_ge i xs.length with hlt | hge
    · obtain ⟨b, o, ha, hc⟩ := H.out.below B.out i hlt
      obtain ⟨z, hz⟩ : ∃ z, xs.getD i 0 = z := ⟨_, rfl⟩
      have hb := HR.out i
      rw [hz] at hc hb
      obtain ⟨hb1, hb2⟩ := hb
      have SF := iFmt z wr hb1 hb2 (TB.out.below B.out)
      obtain ⟨q, hq⟩ : ∃ q, itoa z = q := ⟨_, rfl⟩
      rw [hq] at SF
      have WS : Hid ((words xs i).set i q = words xs (i + 1)) := Lib.hid (by rw [← hq, ← hz]; exact words_set xs i hlt)
      have ilt : (i : Int) < xs.length := by omega
      have i0 : (0 : Int) ≤ i := by omega
      have HI := Lib.hid hlt
      have WL := Lib.hid (words_len xs i hi)
      clear hz hq hb1 hb2 hlt
      subst ha
      go_wp2_with fail
      refine SF.mono ?_
      clear SF
      rintro e w2 ⟨rfl, hb2⟩
      have S2 := Lib.hid (S.out.keep hb2)
      have B2 : Hid (Below w.heap.size w w2) := B.out.trans (hb2.mono B.out.size)
      have c2 := S2.out.cell (i := i) (by rw [WL.out]; exact HI.out)
      have f2 := S2.out.free i
      clear hb2
      go_wp2_with fail
      go_roundw
      case rel => exact ⟨i + 1, by go_num, HI.out, by rw [← WS.out]; exact S2.out.set i q, B2.out.setCell (by exact Nat.le_refl _) _⟩
      case measure => have := HI.out; simp [intOf]; omega
    · obtain rfl : i = xs.length := by omega
      have JO := Tryd.strings_Join w.heap.size 0 xs.length ((words xs xs.length).map fun l => ⟨l.toArray⟩) ⟨#[32]⟩ wr (fun j x hx => by
          rw [List.getElem?_map, Option.map_eq_some_iff] at hx
          obtain ⟨l, hl, rfl⟩ := hx
          have hj : j < (words xs xs.length).length := (List.getElem?_eq_some_iff.mp hl).1
          rw [Nat.zero_add, S.out.cell hj, List.getD, hl]; rfl) S.out.lt (by rw [List.length_map, words_len xs _ (Nat.le_refl _)]; omega) (by rw [List.length_map, words_len xs _ (Nat.le_refl _)]; omega)
        (by rw [List.map_map, show (fun x : ByteArray => x.data.toList) ∘ (fun l : List UInt8 => (⟨l.toArray⟩ : ByteArray)) = id from funext fun l => rfl, List.map_id]; exact (join_all xs).symm ▸ LL.out)
      rw [List.length_map, words_len xs _ (Nat.le_refl _), List.map_map, show (fun x : ByteArray => x.data.toList) ∘ (fun l : List UInt8 => (⟨l.toArray⟩ : ByteArray)) = id from funext fun l => rfl, List.map_id] at JO
      have JE : Hid (Lib.join (words xs xs.length) [32] = itx xs xs.length) := join_all xs
      have J2 : Calls Tryd.prog 61 #[.slice (some ⟨w.heap.size, 0, none⟩) xs.length xs.length, .string ⟨#[32]⟩] wr fun e w' => e = .returned (.string ⟨(itx xs xs.length).toArray⟩) ∧ Below wr.heap.size wr w' := by
        rw [← JE.out]; exact JO
      clear JO
      go_wp2_with fail
      refine J2.mono ?_
      clear J2
      rintro e w2 ⟨rfl, hb2⟩
      go_wp2_with fail
      go_ret
      exact ⟨rfl, B.out.trans (hb2.mono B.out.size)⟩
end Go.Proofs.YtihgcccdahmmmaaDoor
