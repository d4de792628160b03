/-
  Chapter 6, in the program: DeterminantOf.
-/
import Derived.Test.YtpelnfenfeoeeaaMnNew
import Derived.Test.YtpelnfenfeoeeaaMnDet2
import Derived.Test.YtpelnfenfeoeeaaSqI
import Derived.Test.YtpelnfenfeoeeaaDetO
namespace Go.Proofs.Ytpelnfenfeoeeaa
set_option maxRecDepth 100000
open Go.RowKit Go.Maps

theorem rows_rd {w : World} {B l : Nat} {q : Option Addr} {qc : Nat} {rows : List Nat} (h : w.ownsRow B 3 1 (.slice q l qc) rows.length (rows.map fun (r : Nat) => Value.int .i64 (r : Int))) (hr : rows.length ≤ 6) : l = rows.length ∧ Rd w q (rows.map fun (r : Nat) => (r : Int)) := by
  have h2 : w.ownsRow B 3 1 (.slice q l qc) (rows.map fun (r : Nat) => (r : Int)).length ((rows.map fun (r : Nat) => (r : Int)).map (Value.int .i64)) := by
    rw [List.length_map, List.map_map]
    exact h
  have ho := Own.of_row h2 (by rw [List.length_map]; omega)
  rcases ho with ⟨hv, e⟩ | ⟨g, cap, hv, _, hi, _⟩
  · injection hv with e1 e2 e3
    subst e1
    rw [e]
    refine ⟨?_, Rd.nil _ _⟩
    have := congrArg List.length e
    rw [List.length_map] at this
    rw [e2, this]; rfl
  · injection hv with e1 e2 e3
    subst e1
    rw [List.length_map] at e2
    exact ⟨e2, hi.rd⟩
/-- A new block of determinants as the state that the expansion wants. -/
theorem new_st {R n : Nat} {a : Option Addr} {m : Nat} {xs : List Int} {rows : List Nat} {q : Option Addr} {l qc px bm B : Nat} {w : World} (h5 : Blk5 w px 114 (.int .i64 R) (.int .i64 n) (.slice a (R * n) m) (.slice q l qc) (.map (some bm))) (ho : w.ownsRow B 3 1 (.slice q l qc) rows.length (rows.map fun (r : Nat) => Value.int .i64 (r : Int))) (hm : Mp w bm 0 (.map [])) (h : Rd w a xs) (hr : rows.length ≤ 6) :
    MnSt R n a m xs rows q qc px bm 0 w := by
  obtain ⟨rfl, hq⟩ := rows_rd ho hr
  exact ⟨h5, h, hq, _, hm, Memo.none _ _ _⟩
theorem rowsBut_pick (n : Nat) (e : Int) (i : Nat) (h : i < (rowsBut n e).length) : (rowsBut n e).getD i 0 < n := rowsBut_lt h
theorem range_pick {n i : Nat} (h : i < (List.range n).length) : (List.range n).getD i 0 < n := by
  have h2 : i < n := by simpa using h
  simp [List.getD, h2]
theorem keepD {w0 W w' : World} {b : Nat} {p q v : Value} (h : W.cell? ⟨b, 0, none⟩ = some p ∧ W.cell? ⟨b, 1, none⟩ = some q ∧ W.cell? ⟨b, 2, none⟩ = some v ∧ Below w0.heap.size w0 W) (hb : Below W.heap.size W w') :
    w'.cell? ⟨b, 0, none⟩ = some p ∧ w'.cell? ⟨b, 1, none⟩ = some q ∧ w'.cell? ⟨b, 2, none⟩ = some v ∧ Below w0.heap.size w0 w' :=
  ⟨(hb.cell (World.block_lt_of_cell? W _ h.1)).trans h.1, (hb.cell (World.block_lt_of_cell? W _ h.2.1)).trans h.2.1, (hb.cell (World.block_lt_of_cell? W _ h.2.2.1)).trans h.2.2.1, h.2.2.2.trans (hb.mono h.2.2.2.size)⟩
theorem keepG {w0 W w' : World} {b bm : Nat} {p q v : Value} (h : W.cell? ⟨b, 0, none⟩ = some p ∧ W.cell? ⟨b, 1, none⟩ = some q ∧ W.cell? ⟨b, 2, none⟩ = some v ∧ Below w0.heap.size w0 W) (hb : W.grownBy w' (some bm)) (h1 : b < bm) (h2 : w0.heap.size ≤ bm) :
    w'.cell? ⟨b, 0, none⟩ = some p ∧ w'.cell? ⟨b, 1, none⟩ = some q ∧ w'.cell? ⟨b, 2, none⟩ = some v ∧ Below w0.heap.size w0 w' :=
  ⟨hb.cell h.1 (by simp; omega), hb.cell h.2.1 (by simp; omega), hb.cell h.2.2.1 (by simp; omega), h.2.2.2.trans (below_of_one hb h2 h.2.2.2.size)⟩
theorem pow7 : ∀ n, n ≤ 6 → 0 + 7 ^ n ≤ 1000000 := by decide
set_option maxHeartbeats 1000000 in
theorem iDetOf (r c : Int) (a : Option Addr) (m : Nat) (xs : List Int) (w : World) (h : Rd w a xs) (hn : xs.length ≤ 16777216) :
    Calls Try.prog 46 #[.agg #[.int .i64 r, .int .i64 c, .slice a xs.length m]] w (Gives (.tuple #[.int .i64 (detOf r c xs).1, .bool (detOf r c xs).2]) w) := by
  have H := Lib.hid h
  obtain ⟨l, hx⟩ : ∃ n, xs.length = n := ⟨_, rfl⟩
  have HX := Lib.hid hx
  rw [hx] at hn ⊢
  clear hx h
  have B0 : Hid (∀ o1, Below w.heap.size w (w.alloc o1)) := fun o1 => (Below.refl _ _).alloc (Nat.le_refl _) _
  have SQ : Hid (∀ w', Below w.heap.size w w' → Calls Try.prog 98 #[.agg #[.int .i64 r, .int .i64 c, .slice a l m]] w' (Gives (.bool (isSq r c xs)) w')) := fun w' hb => by
    have := iIsSq r c a m xs w' (H.out.below hb) (by rw [HX.out]; exact hn)
    rw [HX.out] at this
    exact this
  rcases Bool.eq_false_or_eq_true (isSq r c xs) with hs | hs
  · obtain ⟨n, rfl, rfl, h6, hl, nx⟩ := isSq_says hs
    have V : Hid (detOf n n xs = detM n xs) := by show detOf n n xs = _; unfold detOf; rw [if_pos hs]; rfl
    have LN : l = n * n := by rw [← HX.out]; exact hl
    subst LN
    have NW : Hid (∀ w', Calls Try.prog 75 #[.agg #[.int .i64 n, .int .i64 n, .slice a (n * n) m]] w' (MnNewR n n (n * n) m a w')) := fun w' => iMinorsOf n n (n * n) m a w' h6
    have FC : Hid (∀ w', Calls Try.prog 99 #[.int .i64 n] w' fun e w2 => e = .returned (.int .u64 ((2 ^ n - 1 : Nat) : Int)) ∧ w2 = w') := fun w' => iFirst n h6 w'
    have RL : (List.range n).length = n := List.length_range
    have MI : Hid (∀ (px bm B : Nat) (V : Value) (w' : World), Blk5 w' px 114 (.int .i64 n) (.int .i64 n) (.slice a (n * n) m) V (.map (some bm)) → w'.ownsRow B 3 1 V (List.range n).length ((List.range n).map fun (r : Nat) => Value.int .i64 (r : Int)) → Mp w' bm 0 (.map []) → Below w.heap.size w w' →
        Calls Try.prog 78 #[.pointer (some ⟨px, 0, none⟩), .int .u64 ((2 ^ n - 1 : Nat) : Int)] w' (fun e w2 => e = .returned (.tuple #[.int .i64 (detM n xs).1, .bool (detM n xs).2]) ∧ w'.grownBy w2 (some bm))) := fun px bm B V w' h5 ho hm hb => by
      obtain ⟨q, l, qc, rfl⟩ := rows_form ho
      have := iMinor n n a m xs (List.range n) q qc px bm h6 h6 hl nx (fun i hi => range_pick hi) (by omega) n (by omega) (2 ^ n - 1) 0 w' (by have := Nat.two_pow_pos n; omega) (by rw [colsL_full n h6, List.length_range]) (new_st h5 ho hm (H.out.below hb) (by omega)) (pow7 n h6)
      rw [setD_all h6 hl] at this
      refine this.mono ?_
      rintro e w2 ⟨rfl, -, hg⟩
      exact ⟨rfl, hg⟩
    obtain ⟨dn, hdn⟩ : ∃ d, (detM n xs).1 = d := ⟨_, rfl⟩
    obtain ⟨db, hdb⟩ : ∃ d, (detM n xs).2 = d := ⟨_, rfl⟩
    rw [V.out]
    rw [hdn, hdb] at MI ⊢
    obtain ⟨F, hF⟩ : ∃ F, (2 ^ n - 1 : Nat) = F := ⟨_, rfl⟩
    rw [hF] at MI FC
    clear V hdn hdb hF RL
    rw [hs] at SQ
    clear hs
    go_enter Try.func46, Try.ntmps46
    go_wp2_with fail
    refine (SQ.out _ (B0.out _)).mono ?_
    rintro e w1 ⟨rfl, hb⟩
    have K0 : Hid (Blk3 w1 w.heap.size 26 (.int .i64 n) (.int .i64 n) (.slice a (n * n) m)) := (Blk3.at_ _ _ _ _ rfl).keep hb (by simp)
    have B : Hid (Below w.heap.size w w1) := (B0.out _).trans (hb.mono (by simp))
    clear hb
    obtain ⟨a0, a1, a2, -, -, -⟩ := K0.out.all
    have hS := Lib.hid (And.intro a0 (And.intro a1 (And.intro a2 B.out)))
    have SZ : w.heap.size < w1.heap.size := K0.out.lt
    go_upto_region 3 with fail
    go_region_held3 (fun w' => w'.cell? ⟨w.heap.size, 0, none⟩ = some (.int .i64 n) ∧ w'.cell? ⟨w.heap.size, 1, none⟩ = some (.int .i64 n) ∧ w'.cell? ⟨w.heap.size, 2, none⟩ = some (.slice a (n * n) m) ∧ Below w.heap.size w w') (first | exact keepD hS.out (Below.refl _ _).drew | with_reducible exact keepD ‹_› ‹Below _ _ _› | with_reducible exact keepG ‹_› ‹World.grownBy _ _ _› ‹_› (Nat.le_of_lt ‹_›))
      (first
      | (go_at_call 75; (with_reducible refine (NW.out _).mono ?_); rintro e w2 ⟨px, bm, V, rfl, -, x2, x3, x4, x5, hb1⟩; replace x2 : w.heap.size < bm := Nat.lt_of_lt_of_le SZ x2)
      | (go_at_call 99; (with_reducible refine (FC.out _).mono ?_); rintro e w3 ⟨rfl, rfl⟩; have hb3 := Below.refl w3.heap.size w3)
      | (go_at_call 78; (with_reducible refine (MI.out _ _ _ _ _ ‹_› ‹_› ‹_› (And.right (And.right (And.right ‹_›)))).mono ?_); rintro e w4 ⟨rfl, hg4⟩))
    all_goals
      go_wp2_with fail
      exact bodyPost_ret (v := .tuple #[.int .i64 dn, .bool db]) (by simp [results, Try.results46, go_sem]) rfl ⟨rfl, (And.right (And.right (And.right ‹_ ∧ _ ∧ _ ∧ Below w.heap.size w _›)))⟩
  · have V : Hid (detOf r c xs = (0, false)) := by show detOf r c xs = _; unfold detOf; rw [if_neg (by rw [hs]; decide)]
    rw [hs] at SQ
    clear hs
    rw [V.out]
    go_enter Try.func46, Try.ntmps46
    go_wp2_with fail
    refine (SQ.out _ (B0.out _)).mono ?_
    rintro e w1 ⟨rfl, hb⟩
    have B : Hid (Below w.heap.size w w1) := (B0.out _).trans (hb.mono (by simp))
    clear hb
    go_wp2_with fail
    exact bodyPost_ret (v := .tuple #[.int .i64 0, .bool false]) (by simp [results, Try.results46, go_sem]) rfl ⟨rfl, B.out⟩
end Go.Proofs.Ytpelnfenfeoeeaa
