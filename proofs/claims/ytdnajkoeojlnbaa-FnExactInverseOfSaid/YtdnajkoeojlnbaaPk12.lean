/-
  Texts of this seat, joined: AdjS · AdjTo · AdjI · AdjI2
-/
import Derived.Deep.RegionHeld3
import Derived.Deep.DeepCutAuto
import Derived.Test.YtdnajkoeojlnbaaPk1
import Derived.Test.YtdnajkoeojlnbaaPk2
import Derived.Test.YtdnajkoeojlnbaaPk4
import Derived.Test.YtdnajkoeojlnbaaPk9

section
/-
  Chapter 6, in the program: what is known while the adjugate is made. No function of the program is named.
-/
namespace Go.Proofs.Ytdnajkoeojlnbaa
set_option maxRecDepth 100000
open Go.RowKit Go.Maps

theorem own_ne3 {w : World} {B n b k : Nat} {v : Value} {us : List Value} {p q r : Value} (h : w.ownsRow B 3 1 v n us) (hk : v.ownBlock = some k) (h3 : Blk3 w b 27 p q r) : b ≠ k := by
  rcases h.2 with ⟨rfl, -⟩ | ⟨g, cap, cur, rfl, -, hg, -⟩
  · cases hk
  · injection hk with hk
    subst hk
    rintro rfl
    unfold Blk3 at h3
    change w.heap[b]? = _ at hg
    rw [hg] at h3
    injection h3 with h3
    injection h3 with _ h3 _
    exact absurd h3 (by decide)
theorem Blk3.ne5 {w : World} {b c : Nat} {t t' : TypeId} {p q r x y z u v : Value} (h : Blk3 w b t p q r) (k : Blk5 w c t' x y z u v) : b ≠ c := by
  rintro rfl
  unfold Blk3 at h
  unfold Blk5 at k
  rw [h] at k
  injection k with k
  injection k with k _ _
  have := congrArg Array.size k
  simp at this
theorem Ints.ne5 {w : World} {g c : Nat} {zs : List Int} {x y z u v : Value} (h : Ints w g zs) (k : Blk5 w c 89 x y z u v) : g ≠ c := by
  rintro rfl
  obtain ⟨rest, h⟩ := h
  unfold Blk5 at k
  rw [h] at k
  injection k with k
  injection k with _ k _
  exact absurd k (by decide)
theorem In.row {B T : Nat} {w w' : World} {v : Value} {zs : List Int} {row : Option Nat} (h : In B T w v zs) (hg : w.grownBy w' row) (hn : ∀ g, Ints w g zs → B ≤ g → g < T → some g ≠ row) : In B T w' v zs := by
  rcases h with h | ⟨g, cap, hv, hB, hT, hi, r⟩
  · exact .inl h
  · exact .inr ⟨g, cap, hv, hB, hT, hi.move (hg.block g hi.lt (hn g hi hB hT)), r⟩
/-- Between two columns. -/
def AdjO (n N m : Nat) (a : Option Addr) (zs : List Int) (B p px : Nat) (w : World) : Prop := ∃ (q : Option Addr) (qc T bm l c : Nat) (V : Value) (us : List Value) (D : DataW Unit), Blk3 w p 27 (.int .i64 n) (.int .i64 n) (.slice q N qc) ∧ In B T w (.slice q N qc) zs ∧ Blk5 w px 89 (.int .i64 n) (.int .i64 n) (.slice a N m) V (.map (some bm)) ∧ w.ownsRow T 3 1 V l us ∧ Mp w bm c D ∧ (B ≤ p ∧ B ≤ px ∧ B ≤ bm ∧ B ≤ T ∧ T ≤ w.heap.size)
/-- In a column. -/
def AdjN (n N m : Nat) (a : Option Addr) (xs : List Int) (rows : List Nat) (zs : List Int) (B p px c : Nat) (w : World) : Prop := ∃ (g cap T bm qrc : Nat) (qr : Option Addr), Blk3 w p 27 (.int .i64 n) (.int .i64 n) (.slice (some ⟨g, 0, none⟩) N cap) ∧ (B ≤ g ∧ g < T ∧ zs.length = N ∧ N ≤ cap ∧ N ≤ 16777216) ∧ Ints w g zs ∧ MnSt n a m xs rows qr qrc px bm c w ∧ w.ownsRow T 3 1 (.slice qr rows.length qrc) rows.length (rows.map fun (r : Nat) => Value.int .i64 (r : Int)) ∧ (B ≤ p ∧ B ≤ px ∧ B ≤ bm ∧ B ≤ T ∧ T ≤ w.heap.size)
theorem adj_fin {v v' : World} {row : Option Nat} {n N m B T p px bm qc l c : Nat} {a q : Option Addr} {zs : List Int} {V : Value} {us : List Value} {D : DataW Unit} (G : v.grownBy v' row) (hr : row = none ∨ ∃ x y z, row = some p ∧ Blk3 v p 27 x y z)
    (VB : Blk3 v' p 27 (.int .i64 n) (.int .i64 n) (.slice q N qc)) (O : In B T v (.slice q N qc) zs) (h5 : Blk5 v px 89 (.int .i64 n) (.int .i64 n) (.slice a N m) V (.map (some bm))) (ho : v.ownsRow T 3 1 V l us) (hm : Mp v bm c D) (hb : B ≤ p ∧ B ≤ px ∧ B ≤ bm ∧ B ≤ T ∧ T ≤ v.heap.size) : AdjO n N m a zs B p px v' := by
  have n5 : some px ≠ row := by
    rcases hr with rfl | ⟨x, y, z, rfl, k⟩
    · simp
    · intro e; injection e with e; exact k.ne5 h5 e.symm
  have nm : some bm ≠ row := by
    rcases hr with rfl | ⟨x, y, z, rfl, k⟩
    · simp
    · intro e; injection e with e; exact hm.ne3 k e.symm
  have nv : V.ownBlock = none ∨ V.ownBlock ≠ row := by
    rcases hr with rfl | ⟨x, y, z, rfl, k⟩
    · cases hv : V.ownBlock with
      | none => exact .inl rfl
      | some g => exact .inr (by simp)
    · exact .inr fun e => own_ne3 ho e k rfl
  have ng : ∀ g, Ints v g zs → B ≤ g → g < T → some g ≠ row := fun g hi _ _ => by
    rcases hr with rfl | ⟨x, y, z, rfl, k⟩
    · simp
    · intro e; injection e with e; exact hi.ne_blk k e
  exact ⟨q, qc, T, bm, l, c, V, us, D, VB, O.row G ng, h5.grown G n5, ho.kept G nv, hm.kept G nm, hb.1, hb.2.1, hb.2.2.1, hb.2.2.2.1, Nat.le_trans hb.2.2.2.2 G.size⟩
theorem In.keepTo {B T : Nat} {w w' : World} {v : Value} {zs : List Int} (h : In B T w v zs) (hT : T ≤ w.heap.size) (hb : Below w.heap.size w w') : In B w.heap.size w' v zs := (h.wide (Nat.le_refl _) hT).keep hb
theorem grown3 (v : World) (p : Nat) (x y z : Value) : v.grownBy (((v.setCell ⟨p, 0, none⟩ x).setCell ⟨p, 1, none⟩ y).setCell ⟨p, 2, none⟩ z) (some p) := by
  have h0 : v.grownBy (v.setCell ⟨p, 0, none⟩ x) (some p) := grown_set_one (b := p) (a := ⟨p, 0, none⟩) (World.grownBy.refl v _) rfl x
  have h1 : v.grownBy ((v.setCell ⟨p, 0, none⟩ x).setCell ⟨p, 1, none⟩ y) (some p) := grown_set_one (b := p) (a := ⟨p, 1, none⟩) h0 rfl y
  exact grown_set_one (b := p) (a := ⟨p, 2, none⟩) h1 rfl z
theorem adj_fin3 {v : World} {n N m B T p px bm qc l c : Nat} {a q : Option Addr} {zs : List Int} {V : Value} {us : List Value} {D : DataW Unit} {x y z : Value} (k : Blk3 v p 27 x y z)
    (O : In B T v (.slice q N qc) zs) (h5 : Blk5 v px 89 (.int .i64 n) (.int .i64 n) (.slice a N m) V (.map (some bm))) (ho : v.ownsRow T 3 1 V l us) (hm : Mp v bm c D) (hb : B ≤ p ∧ B ≤ px ∧ B ≤ bm ∧ B ≤ T ∧ T ≤ v.heap.size) : AdjO n N m a zs B p px (((v.setCell ⟨p, 0, none⟩ (.int .i64 n)).setCell ⟨p, 1, none⟩ (.int .i64 n)).setCell ⟨p, 2, none⟩ (.slice q N qc)) :=
  adj_fin (row := some p) (grown3 v p _ _ _) (.inr ⟨_, _, _, rfl, k⟩) (k.set3 _ _ _) O h5 ho hm hb
theorem adj_fin0 {v : World} {n N m B T px bm qc l c : Nat} {a q : Option Addr} {zs : List Int} {V : Value} {us : List Value} {D : DataW Unit}
    (O : In B T v (.slice q N qc) zs) (h5 : Blk5 v px 89 (.int .i64 n) (.int .i64 n) (.slice a N m) V (.map (some bm))) (ho : v.ownsRow T 3 1 V l us) (hm : Mp v bm c D) (hb : B ≤ v.heap.size ∧ B ≤ px ∧ B ≤ bm ∧ B ≤ T ∧ T ≤ v.heap.size) : AdjO n N m a zs B v.heap.size px (v.alloc (.cells #[.int .i64 n, .int .i64 n, .slice q N qc] 27)) :=
  adj_fin (row := none) (World.grownBy_alloc _ _ _) (.inl rfl) (Blk3.at_ _ _ _ _ rfl) O h5 ho hm hb
/-- Over to the rows but one. -/
theorem adj_take {n N m B T p px bm qc : Nat} {a q : Option Addr} {xs zs : List Int} {V V' : Value} {l c : Nat} {us : List Value} {D : DataW Unit} {rows : List Nat} {w w' : World} (k : Blk3 w p 27 (.int .i64 n) (.int .i64 n) (.slice q N qc)) (O : In B T w (.slice q N qc) zs) (h5 : Blk5 w px 89 (.int .i64 n) (.int .i64 n) (.slice a N m) V (.map (some bm))) (ho : w.ownsRow T 3 1 V l us) (hm : Mp w bm c D) (hb : B ≤ p ∧ B ≤ px ∧ B ≤ bm ∧ B ≤ T ∧ T ≤ w.heap.size)
    (hN : N = n * n) (hp : 0 < N) (hr : rows.length ≤ 6) (R : Rd w' a xs) (h5' : Blk5 w' px 89 (.int .i64 n) (.int .i64 n) (.slice a N m) V' (.map (some bm))) (ho' : w'.ownsRow T 3 1 V' rows.length (rows.map fun (r : Nat) => Value.int .i64 (r : Int))) (hm' : Mp w' bm 0 (.map [])) (F : FrS (fun k => k = px ∨ k = bm ∨ V.ownBlock = some k) w w') : AdjN n N m a xs rows zs B p px 0 w' := by
  subst hN
  have k' := k.frs F (by
    rintro (e | e | e)
    · exact k.ne5 h5 e
    · exact hm.ne3 k e
    · exact own_ne3 ho e k rfl)
  obtain ⟨q', l', qc', rfl⟩ := rows_form ho'
  obtain ⟨rfl, -⟩ := rows_rd ho' hr
  rcases O with ⟨e, -⟩ | ⟨g, cap, e, hB, hT, hi, hl, hs⟩
  · injection e with _ e _
    omega
  · injection e with e1 e2 e3
    subst e1
    have hi' := hi.frs F (by
      rintro (e | e | e)
      · exact hi.ne5 h5 e
      · exact hm.neInts hi e
      · have := (ho.lt _ e).1
        omega)
    exact ⟨g, qc, T, bm, qc', q', k', ⟨hB, hT, e2.symm, by omega, by omega⟩, hi', new_st h5' ho' hm' R hr, ho', hb.1, hb.2.1, hb.2.2.1, hb.2.2.2.1, Nat.le_trans hb.2.2.2.2 F.size⟩
theorem AdjN.out {n N m : Nat} {a : Option Addr} {xs : List Int} {rows : List Nat} {zs : List Int} {B p px c : Nat} {w : World} (h : AdjN n N m a xs rows zs B p px c w) (hN : N = n * n) : AdjO n N m a zs B p px w := by
  subst hN
  obtain ⟨g, cap, T, bm, qrc, qr, k, ⟨h1, h2, h3, h4, h5⟩, hi, st, ho, hb⟩ := h
  obtain ⟨D, hD, -⟩ := st.memo
  exact ⟨_, _, T, bm, _, c, _, _, D, k, .inr ⟨g, cap, by rw [h3], h1, h2, hi, by omega, by omega⟩, st.blk, ho, hD, hb⟩
/-- A determinant has been found. -/
theorem adj_turn {n N m T p px bm qrc g cap c : Nat} {a qr : Option Addr} {xs zs : List Int} {rows : List Nat} {w w' : World} (k : Blk3 w p 27 (.int .i64 n) (.int .i64 n) (.slice (some ⟨g, 0, none⟩) N cap)) (hi : Ints w g zs) (st : MnSt n a m xs rows qr qrc px bm c w) (ho : w.ownsRow T 3 1 (.slice qr rows.length qrc) rows.length (rows.map fun (r : Nat) => Value.int .i64 (r : Int)))
    (G : w.grownBy w' (some bm)) : Blk3 w' p 27 (.int .i64 n) (.int .i64 n) (.slice (some ⟨g, 0, none⟩) N cap) ∧ Ints w' g zs ∧ w'.ownsRow T 3 1 (.slice qr rows.length qrc) rows.length (rows.map fun (r : Nat) => Value.int .i64 (r : Int)) := by
  obtain ⟨D, hD, -⟩ := st.memo
  refine ⟨k.keepOne G (hD.ne3 k), hi.one G (hD.neInts hi), ho.kept G ?_⟩
  cases hv : (Value.slice qr rows.length qrc).ownBlock with
  | none => exact .inl rfl
  | some g0 => exact .inr fun e => own_neM ho hv hD (by injection e with e; exact e.symm)
/-- A cell has been written. -/
theorem adj_set {n N m B T p px bm qrc g cap c : Nat} {a qr : Option Addr} {xs zs : List Int} {rows : List Nat} {w : World} (k : Blk3 w p 27 (.int .i64 n) (.int .i64 n) (.slice (some ⟨g, 0, none⟩) N cap)) (h : B ≤ g ∧ g < T ∧ zs.length = N ∧ N ≤ cap ∧ N ≤ 16777216) (hi : Ints w g zs) (st : MnSt n a m xs rows qr qrc px bm c w) (ho : w.ownsRow T 3 1 (.slice qr rows.length qrc) rows.length (rows.map fun (r : Nat) => Value.int .i64 (r : Int))) (hb : B ≤ p ∧ B ≤ px ∧ B ≤ bm ∧ B ≤ T ∧ T ≤ w.heap.size)
    (hr : rows.length ≤ 6) (i : Nat) (z : Int) (R : Rd (w.setCell ⟨g, i, none⟩ (.int .i64 z)) a xs) : AdjN n N m a xs rows (zs.set i z) B p px c (w.setCell ⟨g, i, none⟩ (.int .i64 z)) := by
  obtain ⟨D, hD, hM⟩ := st.memo
  have G : w.grownBy (w.setCell ⟨g, i, none⟩ (.int .i64 z)) (some g) := grown_set_one (World.grownBy.refl _ _) rfl _
  have ho' : (w.setCell ⟨g, i, none⟩ (.int .i64 z)).ownsRow T 3 1 (.slice qr rows.length qrc) rows.length (rows.map fun (r : Nat) => Value.int .i64 (r : Int)) := by
    refine ho.kept G ?_
    cases hv : (Value.slice qr rows.length qrc).ownBlock with
    | none => exact .inl rfl
    | some g0 =>
      refine .inr fun e => ?_
      injection e with e
      have := (ho.lt _ hv).1
      omega
  exact ⟨g, cap, T, bm, qrc, qr, k.far (a := ⟨g, i, none⟩) (fun e => hi.ne_blk k e.symm) _, ⟨h.1, h.2.1, by rw [List.length_set]; exact h.2.2.1, h.2.2.2.1, h.2.2.2.2⟩, hi.set i z, ⟨st.blk.one G (fun e => hi.ne5 st.blk e.symm), R, (rows_rd ho' hr).2, D, hD.move (Below.heap_setCell _ _ _ _ (fun e => hD.neInts hi e.symm)), hM⟩, ho', by simpa [World.setCell] using hb⟩
theorem cells3 {W w' : World} {b : Nat} {t : TypeId} {p q r : Value} (h0 : Blk3 W b t p q r) (hb : Below W.heap.size W w') : w'.cell? ⟨b, 0, none⟩ = some p ∧ w'.cell? ⟨b, 1, none⟩ = some q ∧ w'.cell? ⟨b, 2, none⟩ = some r :=
  ⟨(h0.keep hb h0.lt).cell0, (h0.keep hb h0.lt).cell1, (h0.keep hb h0.lt).cell2⟩
end Go.Proofs.Ytdnajkoeojlnbaa
end

section
/-
  Plain mathematics of chapter 6: the adjugate, made column by column. Nothing of a program is used.
-/
namespace Go.Proofs.Ytdnajkoeojlnbaa

/-- The cells of the first i columns, and the first j of the next one, are done. -/
def adjTo (n : Nat) (xs : List Int) (i j : Nat) : List Int := tab n n fun p q => if q < i ∨ (q = i ∧ p < j) then adjAt n xs q p else xs.getD (p * n + q) 0
theorem adjTo_length (n : Nat) (xs : List Int) (i j : Nat) : (adjTo n xs i j).length = n * n := tab_length _ _ _
theorem adjTo_start {n : Nat} {xs : List Int} (hx : xs.length = n * n) : adjTo n xs 0 0 = xs := by
  refine (tab_ext hx fun p q _ _ => ?_).symm
  rw [if_neg (by omega)]
theorem adjTo_step {n : Nat} {xs : List Int} {i j : Nat} (hi : i < n) (hj : j < n) : (adjTo n xs i j).set (j * n + i) (adjAt n xs i j) = adjTo n xs i (j + 1) := by
  refine tab_ext (by rw [List.length_set, adjTo_length]) fun p q hp hq => ?_
  rw [getD_set _ _ _ _ (by rw [adjTo_length]; exact idx_lt hj hi)]
  have e0 : (adjTo n xs i j).getD (p * n + q) 0 = if q < i ∨ (q = i ∧ p < j) then adjAt n xs q p else xs.getD (p * n + q) 0 := tab_at n n _ hp hq
  by_cases e : p * n + q = j * n + i
  · obtain ⟨rfl, rfl⟩ := idx_inj hq hi e
    rw [if_pos (by omega), if_pos (by omega)]
  · have ne : ¬ (p = j ∧ q = i) := by rintro ⟨rfl, rfl⟩; exact e rfl
    rw [if_neg (by omega), e0]
    by_cases h : q < i ∨ (q = i ∧ p < j)
    · rw [if_pos h, if_pos (by omega)]
    · rw [if_neg h, if_neg (by omega)]
theorem adjTo_col {n : Nat} {xs : List Int} {i : Nat} : adjTo n xs i n = adjTo n xs (i + 1) 0 := by
  refine tab_ext (adjTo_length _ _ _ _) fun p q hp hq => ?_
  have e0 : (adjTo n xs i n).getD (p * n + q) 0 = if q < i ∨ (q = i ∧ p < n) then adjAt n xs q p else xs.getD (p * n + q) 0 := tab_at n n _ hp hq
  rw [e0]
  by_cases h : q < i ∨ (q = i ∧ p < n)
  · rw [if_pos h, if_pos (by omega)]
  · rw [if_neg h, if_neg (by omega)]
theorem adjT_length (n : Nat) (xs : List Int) : (adjL n xs).length = n * n := by unfold adjL turnL; exact tab_length _ _ _
theorem adjT_at {n : Nat} {xs : List Int} {p q : Nat} (hp : p < n) (hq : q < n) : (adjL n xs).getD (p * n + q) 0 = adjAt n xs q p := by
  unfold adjL turnL adjC
  rw [tab_at n n _ hp hq, tab_at n n _ hq hp]
theorem adjTo_all {n : Nat} {xs : List Int} : adjTo n xs n 0 = adjL n xs := by
  have hl := adjT_length n xs
  refine (tab_ext hl fun p q hp hq => ?_).symm
  rw [adjT_at hp hq, if_pos (by omega)]
theorem adjAt_num {n : Nat} {xs : List Int} {i j : Nat} {d : Int} (hd : detB (n - 1) (woL n i j xs (n * n)) = d) (h : d ≠ badN) : adjAt n xs i j = if (i + j) % 2 = 1 then -d else d := by
  have hn : NumP d := by
    have := detB_or (n - 1) (woL n i j xs (n * n))
    rw [hd] at this
    exact this.resolve_left h
  unfold adjAt
  rw [hd]
  by_cases e : (i + j) % 2 = 1
  · rw [if_pos e, if_pos e, mulB_num hn ⟨by decide, by decide⟩, Int.mul_neg, Int.mul_one, fitB_num (by unfold NumP at hn ⊢; omega)]
  · rw [if_neg e, if_neg e]
theorem adjAt_isNum {n : Nat} {xs : List Int} {i j : Nat} (h : detB (n - 1) (woL n i j xs (n * n)) ≠ badN) : NumP (adjAt n xs i j) := by
  have hn := (detB_or (n - 1) (woL n i j xs (n * n))).resolve_left h
  rw [adjAt_num rfl h]
  split
  · unfold NumP at hn ⊢; omega
  · exact hn
theorem adjT_bad {n : Nat} {xs : List Int} {i j : Nat} (hi : i < n) (hj : j < n) (h : detB (n - 1) (woL n i j xs (n * n)) = badN) : MR.done n n (adjL n xs) = MR.no := by
  unfold MR.done
  refine if_neg fun hm => ?_
  obtain ⟨-, -, -, hn⟩ := isMat_says hm
  have hl := adjT_length n xs
  have := nums_at hn (j := j * n + i) (by rw [hl]; exact idx_lt hj hi)
  rw [adjT_at hj hi] at this
  unfold adjAt at this
  rw [h] at this
  have e : mulB badN (-1) = badN := by unfold mulB; rw [if_pos (.inl rfl)]
  rw [e] at this
  split at this <;> exact this.ne_bad rfl
theorem adjT_ok {n : Nat} {xs : List Int} (h6 : n ≤ 6) (h : ∀ i j, i < n → j < n → detB (n - 1) (woL n i j xs (n * n)) ≠ badN) : MR.done n n (adjL n xs) = ⟨true, n, n, adjL n xs⟩ := by
  have hl := adjT_length n xs
  unfold MR.done
  refine if_pos ?_
  unfold isMat
  have h1 : nums (adjL n xs) = true := nums_true fun p hp => by
    rw [hl] at hp
    have hn : 0 < n := by
      rcases Nat.eq_zero_or_pos n with e | e
      · subst e; omega
      · exact e
    have e : p = p / n * n + p % n := by rw [Nat.mul_comm]; exact (Nat.div_add_mod p n).symm
    rw [e, adjT_at (Nat.div_lt_of_lt_mul hp) (Nat.mod_lt p hn)]
    exact adjAt_isNum (h _ _ (Nat.mod_lt p hn) (Nat.div_lt_of_lt_mul hp))
  have hs : SizeP (n : Int) := by unfold SizeP; omega
  rw [h1, decide_eq_true hs, hl, decide_eq_true (show ((n * n : Nat) : Int) = (n : Int) * n from Int.natCast_mul n n)]
  rfl
end Go.Proofs.Ytdnajkoeojlnbaa
end

section
/-
  Chapter 6, in the program: AdjugateOf.
-/
namespace Go.Proofs.Ytdnajkoeojlnbaa
set_option maxRecDepth 100000
open Go.RowKit Go.Maps

theorem pow5 : ∀ n, n ≤ 6 → 7 ^ (n - 1) ≤ 16807 := by decide
theorem cross_card : ∀ n, n ≤ 6 → ∀ j, j < n → (colsL n (lessS (2 ^ n - 1) j)).length = n - 1 := by decide +kernel
theorem rowsBut_card : ∀ n, n ≤ 6 → ∀ i : Nat, i < n → (rowsBut n (i : Int)).length = n - 1 := by decide +kernel
set_option maxHeartbeats 1000000 in
theorem iAdj_t (n : Nat) (a : Option Addr) (m : Nat) (xs : List Int) (w : World) (h : Rd w a xs) (hx : xs.length = n * n) (h6 : n ≤ 6) (nx : nums xs = true) (hs : isSq n n xs = true) :
    Calls Try.prog 29 #[.agg #[.int .i64 n, .int .i64 n, .slice a xs.length m]] w (MatRes (MR.done n n (adjL n xs)) w) := by
  have hle : n * n ≤ 6 * 6 := Nat.mul_le_mul h6 h6
  have B0 : Hid (∀ o1 o2, Below w.heap.size w ((w.alloc o1).alloc o2)) := fun o1 o2 => ((Below.refl _ _).alloc (Nat.le_refl _) _).alloc (by simp) _
  obtain ⟨N, hN⟩ : ∃ N, n * n = N := ⟨_, rfl⟩
  have SQ : Hid (∀ w', Below w.heap.size w w' → Calls Try.prog 18 #[.agg #[.int .i64 n, .int .i64 n, .slice a N m]] w' (Gives (.bool true) w')) := fun w' hb => by
    have := iIsSq n n a m xs w' (h.below hb) (by omega)
    rw [hx, hN, hs] at this
    exact this
  have CP : Hid (∀ w', Rd w' a xs → Calls Try.prog 73 #[.agg #[.int .i64 n, .int .i64 n, .slice a N m]] w' (CopyM n n N xs w')) := fun w' hr => iCopyOf n n a m N xs (by omega) w' hr (by omega)
  have NW : Hid (∀ w', Calls Try.prog 67 #[.agg #[.int .i64 n, .int .i64 n, .slice a N m]] w' (MnNewR n N m a w')) := fun w' => iMinorsOf n N m a w' h6
  have TK : Hid (∀ (i px bm T l c : Nat) (D : DataW Unit) (V : Value) (us : List Value) (w' : World), Blk5 w' px 89 (.int .i64 n) (.int .i64 n) (.slice a N m) V (.map (some bm)) → w'.ownsRow T 3 1 V l us → Mp w' bm c D → T ≤ w'.heap.size → Calls Try.prog 80 #[.pointer (some ⟨px, 0, none⟩), .int .i64 i] w' (fun r w2 => Void r ∧ ∃ V', Blk5 w2 px 89 (.int .i64 n) (.int .i64 n) (.slice a N m) V' (.map (some bm)) ∧ w2.ownsRow T 3 1 V' (rowsBut n i).length ((rowsBut n i).map fun (r : Nat) => Value.int .i64 (r : Int)) ∧ (∀ g, V'.ownBlock = some g → V.ownBlock = some g ∨ w'.heap.size ≤ g) ∧ Mp w2 bm 0 (.map []) ∧ FrS (fun k => k = px ∨ k = bm ∨ V.ownBlock = some k) w' w2)) := fun i px bm T l c D V us w' h5 ho hm hT => iTake n N m a i px bm c T l D V us w' h6 h5 ho hm hT
  obtain ⟨DM, hDM⟩ : ∃ DM : Nat → Nat → Int, (fun i j => detB (n - 1) (woL n (i : Nat) (j : Nat) xs (n * n))) = DM := ⟨_, rfl⟩
  obtain ⟨F, hF⟩ : ∃ F, (2 ^ n - 1 : Nat) = F := ⟨_, rfl⟩
  have FC : Hid (∀ w', Calls Try.prog 69 #[.int .i64 n] w' fun e w2 => e = .returned (.int .u64 (F : Int)) ∧ w2 = w') := fun w' => by rw [← hF]; exact iFirst n h6 w'
  have F64 : F < 2 ^ n := by have := Nat.two_pow_pos n; omega
  have WI : Hid (∀ j (w' : World), j < n → Calls Try.prog 81 #[.int .u64 F, .int .i64 j] w' fun e w2 => e = .returned (.int .u64 (lessS F j)) ∧ w2 = w') := fun j w' hj => iWithout F j (by have := pow_64 n h6; omega) (by omega) w'
  have MI : Hid (∀ (i j qrc px bm c : Nat) (qr : Option Addr) (w' : World), i < n → j < n → MnSt n a m xs (rowsBut n i) qr qrc px bm c w' → c ≤ 200000 → Calls Try.prog 68 #[.pointer (some ⟨px, 0, none⟩), .int .u64 (lessS F j)] w' (fun e w2 => e = .returned (.tuple #[.int .i64 (detR (DM i j)).1, .bool (detR (DM i j)).2]) ∧ MnSt n a m xs (rowsBut n i) qr qrc px bm (c + 16807) w2 ∧ w'.grownBy w2 (some bm))) := fun i j qrc px bm c qr w' hi hj st hc => by
    have p5 := pow5 n h6
    have := iMinor n a m xs (rowsBut n i) qr qrc px bm h6 hx nx (fun k hk => rowsBut_lt hk) (by rw [rowsBut_card n h6 i hi]; omega) (n - 1) (by rw [rowsBut_card n h6 i hi]; omega) (lessS F j) c w' (lessS_lt n h6 F F64 j hj) (by rw [← hF]; exact cross_card n h6 j hj) st (by omega)
    rw [← hF, setD_cross h6 hx hi hj] at this
    have e : detB (n - 1) (woL n i j xs (n * n)) = DM i j := by rw [← hDM]
    rw [e] at this
    rw [← hF]
    refine this.mono ?_
    rintro e w2 ⟨rfl, hm, hg⟩
    exact ⟨rfl, hm.mono (by omega), hg⟩
  have AD : Hid (∀ i j, i < n → j < n → DM i j = badN → MR.done n n (adjL n xs) = MR.no) := fun i j hi hj hb => adjT_bad hi hj (by rw [← hDM] at hb; exact hb)
  have AK : Hid ((∀ i j, i < n → j < n → DM i j ≠ badN) → MR.done n n (adjL n xs) = ⟨true, n, n, adjL n xs⟩) := fun h1 => adjT_ok h6 fun i j hi hj => by have := h1 i j hi hj; rw [← hDM] at this; exact this
  have AN : Hid (∀ i j, DM i j ≠ badN → adjAt n xs i j = if (i + j) % 2 = 1 then -(DM i j) else DM i j) := fun i j hb => adjAt_num (by rw [← hDM]) hb
  have DN : Hid (∀ i j, DM i j = badN ∨ NumP (DM i j)) := fun i j => by rw [← hDM]; exact detB_or _ _
  have RC : Hid (∀ i : Nat, i < n → (rowsBut n i).length ≤ 6) := fun i hi => by rw [rowsBut_card n h6 i hi]; omega
  have AS : Hid (adjTo n xs 0 0 = xs) := adjTo_start hx
  have H := Lib.hid h
  have HN := Lib.hid hN
  rw [hx, hN]
  rw [hN] at hx hle
  have HX := Lib.hid hx
  clear h hx nx hs hN hDM hF F64
  go_enter Try.func29, Try.ntmps29
  go_wp2_with fail
  refine (SQ.out _ (B0.out _ _)).mono ?_
  rintro e w1 ⟨rfl, hb⟩
  have K0 : Hid (Blk3 w1 w.heap.size 27 (.int .i64 n) (.int .i64 n) (.slice a N m)) := ((Blk3.at_ _ _ _ _ rfl).old _).keep hb (by simp <;> omega)
  have K1 : Hid (Blk3 w1 (w.heap.size + 1) 27 (.int .i64 0) (.int .i64 0) (.slice none 0 0)) := (Blk3.at_ _ _ _ _ (by simp)).keep hb (by simp)
  have B : Hid (Below w.heap.size w w1) := (B0.out _ _).trans (hb.mono (by simp <;> omega))
  have l1 := K1.out.lt
  clear hb
  have H1 := Lib.hid (H.out.below B.out)
  go_upto_region 3 with fail
  go_cut [4, 5] (fun s4 s5 wx => ∃ p4 px : Nat, s4 = .pointer (some ⟨p4, 0, none⟩) ∧ s5 = .pointer (some ⟨px, 0, none⟩) ∧ AdjO n N m a xs w1.heap.size p4 px wx ∧ Below w1.heap.size w1 wx)
  case first =>
    refine wp_region_held_drew (S := fun w' => Below w1.heap.size w1 w') (by kernel_rfl) (Below.refl _ _).drew (fun hH => ?_)
    refine wpAnyH_take (i := 0) (v := ?_) (by simp only [List.getElem?_toArray, List.getElem?_cons_zero]; rfl) (by kernel_rfl) (by kernel_rfl) (by kernel_rfl) (by exact fun _ _ _ h => h) (Or.inl ⟨by rfl, ?_⟩) hH ?_
    rotate_left
    · (intro wS hS; (try dsimp only at hS); obtain ⟨k1, k2, k3⟩ := cells3 K0.out hS; go_simp; try rfl)
    try simp only [Act.put, List.setIfInBounds_toArray, List.set_cons_zero, List.set_cons_succ]
    refine wpAnyH_take (i := 2) (v := ?_) (by simp only [List.getElem?_toArray, List.getElem?_cons_succ, List.getElem?_cons_zero]; rfl) (by kernel_rfl) (by kernel_rfl) (by kernel_rfl) (by exact fun _ _ _ h => h) (Or.inl ⟨by rfl, ?_⟩) hH ?_
    rotate_left
    · (intro wS hS; (try dsimp only at hS); obtain ⟨k1, k2, k3⟩ := cells3 K0.out hS; go_simp; try rfl)
    try simp only [Act.put, List.setIfInBounds_toArray, List.set_cons_zero, List.set_cons_succ]
    refine wpAnyH_ready (rs := [1, 4]) (by kernel_rfl) (by simp) ?_
    refine AllReadyH.cons (by simp only [List.getElem?_toArray, List.getElem?_cons_succ, List.getElem?_cons_zero]; rfl) (fun K hK => ?_) (AllReadyH.cons (by simp only [List.getElem?_toArray, List.getElem?_cons_succ, List.getElem?_cons_zero]; rfl) (fun K hK => ?_) AllReadyH.nil)
    · go_simp
      have hs1 := hH.size
      (with_reducible refine (CP.out _ (H1.out.below hH)).mono ?_)
      rintro e v1 ⟨q, qc, rfl, own, hb1⟩
      have O := Lib.hid own.inn
      have ob := own.le hs1
      replace O := Lib.hid ob.inn
      clear own ob
      try dsimp only
      refine hK.out _ _ ?_ (fun hH2 => ?_)
      · exact hH.trans (hb1.mono hH.size)
      clear hK K
      have hO := hH
      clear hH
      have hH := hH2
      clear hH2
      try simp only [Act.put, List.setIfInBounds_toArray, List.set_cons_zero, List.set_cons_succ]
      have z1 := hb1.size
      refine wpAnyH_ready (rs := [3, 4]) (by kernel_rfl) (by simp) ?_
      refine AllReadyH.cons (by simp only [List.getElem?_toArray, List.getElem?_cons_succ, List.getElem?_cons_zero]; rfl) (fun K hK => ?_) (AllReadyH.cons (by simp only [List.getElem?_toArray, List.getElem?_cons_succ, List.getElem?_cons_zero]; rfl) (fun K hK => ?_) AllReadyH.nil)
      · go_simp
        have hs2 := hH.size
        (with_reducible refine (NW.out _).mono ?_)
        rintro e v2 ⟨px, bm, V, rfl, x1, x2, h5, ho, hm, hb2⟩
        have P5 := Lib.hid h5
        have PO := Lib.hid ho
        have PM := Lib.hid hm
        replace O := Lib.hid (O.out.keepTo (by first | exact Nat.le_refl _ | simp) hb2)
        clear h5 ho hm
        try dsimp only
        refine hK.out _ _ ?_ (fun hH2 => ?_)
        · exact hH.trans (hb2.mono hH.size)
        clear hK K
        have hO := hH
        clear hH
        have hH := hH2
        clear hH2
        try simp only [Act.put, List.setIfInBounds_toArray, List.set_cons_zero, List.set_cons_succ]
        have z2 := hb2.size
        refine wpAnyH_ready (rs := [4]) (by kernel_rfl) (by simp) ?_
        refine AllReadyH.cons (by simp only [List.getElem?_toArray, List.getElem?_cons_succ, List.getElem?_cons_zero]; rfl) (fun K hK => ?_) AllReadyH.nil
        go_simp
        have VB : Hid (Blk3 (v2.alloc (.cells #[.int .i64 0, .int .i64 0, .slice none 0 0] 27)) v2.heap.size 27 (.int .i64 0) (.int .i64 0) (.slice none 0 0)) := Blk3.at_ _ _ _ _ rfl
        have PL : w1.heap.size ≤ v2.heap.size := hH.size
        try dsimp only
        refine hK.out _ _ ?_ (fun hH2 => ?_)
        · exact hH.alloc hH.size _
        clear hK K
        have hO := hH
        clear hH
        have hH := hH2
        clear hH2
        try simp only [Act.put, List.setIfInBounds_toArray, List.set_cons_zero, List.set_cons_succ]
        refine wpAnyH_ready (rs := [5]) (by kernel_rfl) (by simp) ?_
        refine AllReadyH.cons (by simp only [List.getElem?_toArray, List.getElem?_cons_succ, List.getElem?_cons_zero]; rfl) (fun K hK => ?_) AllReadyH.nil
        go_simp
        have VB : Hid (Blk3 (v2.alloc (.cells #[.int .i64 n, .int .i64 n, .slice q N qc] 27)) v2.heap.size 27 (.int .i64 n) (.int .i64 n) (.slice q N qc)) := Blk3.at_ _ _ _ _ rfl
        try dsimp only
        refine hK.out _ _ ?_ (fun hH2 => ?_)
        · exact hO.alloc hO.size _
        clear hK K
        have hO := hH
        clear hH
        have hH := hH2
        clear hH2
        try simp only [Act.put, List.setIfInBounds_toArray, List.set_cons_zero, List.set_cons_succ]
        refine wpAnyH_take (i := 6) (v := ?_) (by simp only [List.getElem?_toArray, List.getElem?_cons_succ, List.getElem?_cons_zero]; rfl) (by kernel_rfl) (by kernel_rfl) (by kernel_rfl) (by exact fun _ _ _ h => h) (Or.inl ⟨by rfl, ?_⟩) hH ?_
        rotate_left
        · (intro wS hS; clear hS; go_simp; try rfl)
        try simp only [Act.put, List.setIfInBounds_toArray, List.set_cons_zero, List.set_cons_succ]
        refine wpAnyH_done (by kernel_rfl) ?_ _
        have FF := Lib.hid (adj_fin0 O.out P5.out PO.out PM.out ⟨PL, by omega, by omega, by omega, z2⟩)
        go_wp2_with (fail)
        go_meet
        exact ⟨_, px, rfl, rfl, FF.out, hH⟩
      · go_simp
        have VB : Hid (Blk3 (v1.alloc (.cells #[.int .i64 0, .int .i64 0, .slice none 0 0] 27)) v1.heap.size 27 (.int .i64 0) (.int .i64 0) (.slice none 0 0)) := Blk3.at_ _ _ _ _ rfl
        have O := Lib.hid (O.out.old (.cells #[.int .i64 0, .int .i64 0, .slice none 0 0] 27))
        have PL : w1.heap.size ≤ v1.heap.size := hH.size
        try dsimp only
        refine hK.out _ _ ?_ (fun hH2 => ?_)
        · exact hH.alloc hH.size _
        clear hK K
        have hO := hH
        clear hH
        have hH := hH2
        clear hH2
        try simp only [Act.put, List.setIfInBounds_toArray, List.set_cons_zero, List.set_cons_succ]
        refine wpAnyH_ready (rs := [3]) (by kernel_rfl) (by simp) ?_
        refine AllReadyH.cons (by simp only [List.getElem?_toArray, List.getElem?_cons_succ, List.getElem?_cons_zero]; rfl) (fun K hK => ?_) AllReadyH.nil
        go_simp
        have hs2 := hH.size
        have lb2 := VB.out.lt
        (with_reducible refine (NW.out _).mono ?_)
        rintro e v2 ⟨px, bm, V, rfl, x1, x2, h5, ho, hm, hb2⟩
        have P5 := Lib.hid h5
        have PO := Lib.hid ho
        have PM := Lib.hid hm
        replace O := Lib.hid (O.out.keepTo (by first | exact Nat.le_refl _ | simp) hb2)
        clear h5 ho hm
        have VB := Lib.hid (VB.out.keep hb2 VB.out.lt)
        try dsimp only
        refine hK.out _ _ ?_ (fun hH2 => ?_)
        · exact hH.trans (hb2.mono hH.size)
        clear hK K
        have hO := hH
        clear hH
        have hH := hH2
        clear hH2
        try simp only [Act.put, List.setIfInBounds_toArray, List.set_cons_zero, List.set_cons_succ]
        have z2 := hb2.size
        refine wpAnyH_ready (rs := [5]) (by kernel_rfl) (by simp) ?_
        refine AllReadyH.cons (by simp only [List.getElem?_toArray, List.getElem?_cons_succ, List.getElem?_cons_zero]; rfl) (fun K hK => ?_) AllReadyH.nil
        have VC := VB
        obtain ⟨y0, y1, y2, y3, y4, y5⟩ := VB.out.all
        go_simp
        have VB := Lib.hid (((VB.out.set0 (.int .i64 n)).set1 (.int .i64 n)).set2 (.slice q N qc))
        try dsimp only
        refine hK.out _ _ ?_ (fun hH2 => ?_)
        · exact (((hH.setCell PL _).setCell PL _).setCell PL _)
        clear hK K
        have hO := hH
        clear hH
        have hH := hH2
        clear hH2
        try simp only [Act.put, List.setIfInBounds_toArray, List.set_cons_zero, List.set_cons_succ]
        refine wpAnyH_take (i := 6) (v := ?_) (by simp only [List.getElem?_toArray, List.getElem?_cons_succ, List.getElem?_cons_zero]; rfl) (by kernel_rfl) (by kernel_rfl) (by kernel_rfl) (by exact fun _ _ _ h => h) (Or.inl ⟨by rfl, ?_⟩) hH ?_
        rotate_left
        · (intro wS hS; clear hS; go_simp; try rfl)
        try simp only [Act.put, List.setIfInBounds_toArray, List.set_cons_zero, List.set_cons_succ]
        refine wpAnyH_done (by kernel_rfl) ?_ _
        have FF := Lib.hid (adj_fin3 VC.out O.out P5.out PO.out PM.out ⟨PL, by omega, by omega, by omega, z2⟩)
        go_wp2_with (fail)
        go_meet
        exact ⟨_, px, rfl, rfl, FF.out, hH⟩
    · go_simp
      have VB : Hid (Blk3 (w1.drew.alloc (.cells #[.int .i64 0, .int .i64 0, .slice none 0 0] 27)) w1.heap.size 27 (.int .i64 0) (.int .i64 0) (.slice none 0 0)) := Blk3.at_ _ _ _ _ rfl
      have PL : w1.heap.size ≤ w1.drew.heap.size := hH.size
      try dsimp only
      refine hK.out _ _ ?_ (fun hH2 => ?_)
      · exact hH.alloc hH.size _
      clear hK K
      have hO := hH
      clear hH
      have hH := hH2
      clear hH2
      try simp only [Act.put, List.setIfInBounds_toArray, List.set_cons_zero, List.set_cons_succ]
      refine wpAnyH_ready (rs := [1]) (by kernel_rfl) (by simp) ?_
      refine AllReadyH.cons (by simp only [List.getElem?_toArray, List.getElem?_cons_succ, List.getElem?_cons_zero]; rfl) (fun K hK => ?_) AllReadyH.nil
      go_simp
      have hs1 := hH.size
      have lb1 := VB.out.lt
      (with_reducible refine (CP.out _ (H1.out.below hH)).mono ?_)
      rintro e v1 ⟨q, qc, rfl, own, hb1⟩
      have O := Lib.hid own.inn
      have ob := own.le hs1
      replace O := Lib.hid ob.inn
      clear own ob
      have VB := Lib.hid (VB.out.keep hb1 VB.out.lt)
      try dsimp only
      refine hK.out _ _ ?_ (fun hH2 => ?_)
      · exact hH.trans (hb1.mono hH.size)
      clear hK K
      have hO := hH
      clear hH
      have hH := hH2
      clear hH2
      try simp only [Act.put, List.setIfInBounds_toArray, List.set_cons_zero, List.set_cons_succ]
      have z1 := hb1.size
      refine wpAnyH_ready (rs := [3]) (by kernel_rfl) (by simp) ?_
      refine AllReadyH.cons (by simp only [List.getElem?_toArray, List.getElem?_cons_succ, List.getElem?_cons_zero]; rfl) (fun K hK => ?_) AllReadyH.nil
      go_simp
      have hs2 := hH.size
      have lb2 := VB.out.lt
      (with_reducible refine (NW.out _).mono ?_)
      rintro e v2 ⟨px, bm, V, rfl, x1, x2, h5, ho, hm, hb2⟩
      have P5 := Lib.hid h5
      have PO := Lib.hid ho
      have PM := Lib.hid hm
      replace O := Lib.hid (O.out.keepTo (by first | exact Nat.le_refl _ | simp) hb2)
      clear h5 ho hm
      have VB := Lib.hid (VB.out.keep hb2 VB.out.lt)
      try dsimp only
      refine hK.out _ _ ?_ (fun hH2 => ?_)
      · exact hH.trans (hb2.mono hH.size)
      clear hK K
      have hO := hH
      clear hH
      have hH := hH2
      clear hH2
      try simp only [Act.put, List.setIfInBounds_toArray, List.set_cons_zero, List.set_cons_succ]
      have z2 := hb2.size
      refine wpAnyH_ready (rs := [5]) (by kernel_rfl) (by simp) ?_
      refine AllReadyH.cons (by simp only [List.getElem?_toArray, List.getElem?_cons_succ, List.getElem?_cons_zero]; rfl) (fun K hK => ?_) AllReadyH.nil
      have VC := VB
      obtain ⟨y0, y1, y2, y3, y4, y5⟩ := VB.out.all
      go_simp
      have VB := Lib.hid (((VB.out.set0 (.int .i64 n)).set1 (.int .i64 n)).set2 (.slice q N qc))
      try dsimp only
      refine hK.out _ _ ?_ (fun hH2 => ?_)
      · exact (((hH.setCell PL _).setCell PL _).setCell PL _)
      clear hK K
      have hO := hH
      clear hH
      have hH := hH2
      clear hH2
      try simp only [Act.put, List.setIfInBounds_toArray, List.set_cons_zero, List.set_cons_succ]
      refine wpAnyH_take (i := 6) (v := ?_) (by simp only [List.getElem?_toArray, List.getElem?_cons_succ, List.getElem?_cons_zero]; rfl) (by kernel_rfl) (by kernel_rfl) (by kernel_rfl) (by exact fun _ _ _ h => h) (Or.inl ⟨by rfl, ?_⟩) hH ?_
      rotate_left
      · (intro wS hS; clear hS; go_simp; try rfl)
      try simp only [Act.put, List.setIfInBounds_toArray, List.set_cons_zero, List.set_cons_succ]
      refine wpAnyH_done (by kernel_rfl) ?_ _
      have FF := Lib.hid (adj_fin3 VC.out O.out P5.out PO.out PM.out ⟨PL, by omega, by omega, by omega, z2⟩)
      go_wp2_with (fail)
      go_meet
      exact ⟨_, px, rfl, rfl, FF.out, hH⟩
  case rest =>
    obtain ⟨p4, px, rfl, rfl, adj, hb⟩ := hcut
    have AO := Lib.hid adj
    have BW := Lib.hid hb
    have K0w := Lib.hid (K0.out.keep hb K0.out.lt)
    obtain ⟨c0, c1, c2, -, -, -⟩ := K0w.out.all
    clear adj hb K0w
    go_wp2_with fail
    clear c0 c1 c2
    go_loopw [3, 6, 7, 8, 9, 20, 28] (fun s3 _ _ _ _ s20 _ wr => ∃ i : Nat, s3 = .bool false ∧ s20 = .int .i64 i ∧ i ≤ n ∧ AdjO n N m a (adjTo n xs i 0) w1.heap.size p4 px wr ∧ Below w1.heap.size w1 wr ∧ ∀ i' j', i' < i → j' < n → DM i' j' ≠ badN) (fun _ _ _ _ _ s20 _ _ => n - (intOf s20).toNat)
    case atStart => exact ⟨0, rfl, rfl, by omega, by rw [AS.out]; exact AO.out, BW.out, fun i' j' h => absurd h (by omega)⟩
    case round =>
      obtain ⟨i, rfl, rfl, hi, adj, hb, hgood⟩ := hrel
      have GOOD := Lib.hid hgood
      have BW := Lib.hid hb
      clear AO hgood hb
      by_cases hlt : i < n
      · obtain ⟨q, qc, T, bm, l, c, V, us, D, k, O, h5, ho, hm, hbb⟩ := adj
        have hp : 0 < N := by rw [← HN.out]; exact Nat.mul_pos (by omega) (by omega)
        have TKi := Lib.hid (TK.out i px bm T l c D V us _ h5 ho hm hbb.2.2.2.2)
        have NX : Hid (∀ V' w', Blk5 w' px 89 (.int .i64 n) (.int .i64 n) (.slice a N m) V' (.map (some bm)) → w'.ownsRow T 3 1 V' (rowsBut n i).length ((rowsBut n i).map fun (r : Nat) => Value.int .i64 (r : Int)) → Mp w' bm 0 (.map []) → FrS (fun k => k = px ∨ k = bm ∨ V.ownBlock = some k) wr w' → AdjN n N m a xs (rowsBut n i) (adjTo n xs i 0) w1.heap.size p4 px 0 w' ∧ Below w1.heap.size w1 w') := fun V' w' h5' ho' hm' F => by
          have hb2 : Below w1.heap.size w1 w' := BW.out.trans (F.below (fun k hk => by
            rcases hk with e | e | e
            · omega
            · omega
            · have := (ho.lt _ e).1; omega) BW.out.size)
          exact ⟨adj_take k O h5 ho hm hbb HN.out.symm hp (RC.out i hlt) (H1.out.below hb2) h5' ho' hm' F, hb2⟩
        clear k O h5 ho hm hbb
        go_wp2_with fail
        refine TKi.out.mono ?_
        rintro e w2 ⟨rfl, V', h5', ho', -, hm', F⟩
        obtain ⟨adn, hb2⟩ := NX.out V' w2 h5' ho' hm' F
        have AN2 := Lib.hid adn
        have BW2 := Lib.hid hb2
        have K0w := Lib.hid (K0.out.keep hb2 K0.out.lt)
        obtain ⟨c0, c1, c2, -, -, -⟩ := K0w.out.all
        clear adn hb2 h5' ho' hm' F TKi NX BW
        go_wp2_with fail
        clear c0 c1 c2
        go_loopw [3, 7, 8, 9, 28] (fun s3 _ _ _ s28 wr => ∃ j c : Nat, s3 = .bool false ∧ s28 = .int .i64 j ∧ j ≤ n ∧ c ≤ j * 16807 ∧ AdjN n N m a xs (rowsBut n i) (adjTo n xs i j) w1.heap.size p4 px c wr ∧ Below w1.heap.size w1 wr ∧ ∀ j', j' < j → DM i j' ≠ badN) (fun _ _ _ _ s28 _ => n - (intOf s28).toNat)
        case atStart => exact ⟨0, 0, rfl, rfl, by omega, by omega, AN2.out, BW2.out, fun j' h => absurd h (by omega)⟩
        case round =>
          obtain ⟨j, c, rfl, rfl, hj, hc, adj, hb, hgood⟩ := hrel
          have GOODJ := Lib.hid hgood
          have BW := Lib.hid hb
          clear AN2 BW2 K0w hgood hb
          by_cases hjt : j < n
          · obtain ⟨g, cap, T, bm, qrc, qr, k, hg, hi2, st, ho, hbb⟩ := adj
            have K0w := Lib.hid (K0.out.keep BW.out K0.out.lt)
            obtain ⟨c0, c1, c2, -, -, -⟩ := K0w.out.all
            have HBB := Lib.hid hbb
            have HG := Lib.hid hg
            have TN : Hid (∀ c' w', MnSt n a m xs (rowsBut n i) qr qrc px bm c' w' → wr.grownBy w' (some bm) → Blk3 w' p4 27 (.int .i64 n) (.int .i64 n) (.slice (some ⟨g, 0, none⟩) N cap) ∧ Ints w' g (adjTo n xs i j) ∧ w'.ownsRow T 3 1 (.slice qr (rowsBut n i).length qrc) (rowsBut n i).length ((rowsBut n i).map fun (r : Nat) => Value.int .i64 (r : Int)) ∧ Below w1.heap.size w1 w') := fun c' w' _ G => by
              obtain ⟨t1, t2, t3⟩ := adj_turn k hi2 st ho G
              exact ⟨t1, t2, t3, BW.out.trans (below_of_one G hbb.2.2.1 BW.out.size)⟩
            have ST := Lib.hid st
            clear k hi2 st ho hbb hg
            go_wp2_with fail
            refine (FC.out _).mono ?_
            rintro e w3 ⟨rfl, rfl⟩
            go_wp2_with fail
            refine (WI.out j _ hjt).mono ?_
            rintro e w3 ⟨rfl, rfl⟩
            go_wp2_with fail
            refine (MI.out i j qrc px bm c qr _ hlt hjt ST.out (by omega)).mono ?_
            rintro e w4 ⟨rfl, st4, G4⟩
            obtain ⟨k4, i4, o4, b4⟩ := TN.out _ w4 st4 G4
            have HS4 : Hid (T ≤ w4.heap.size) := Nat.le_trans HBB.out.2.2.2.2 G4.size
            have K4 := Lib.hid k4
            have I4 := Lib.hid i4
            have O4 := Lib.hid o4
            have B4 := Lib.hid b4
            have S4 := Lib.hid st4
            have K0w := Lib.hid (K0.out.keep b4 K0.out.lt)
            have K1w := Lib.hid (K1.out.keep b4 K1.out.lt)
            clear c0 c1 c2 k4 i4 o4 b4 st4 G4 TN
            obtain ⟨c0, c1, c2, -, -, -⟩ := K0w.out.all
            obtain ⟨d, hd⟩ : ∃ d, DM i j = d := ⟨_, rfl⟩
            rw [hd]
            have dn := DN.out i j
            have an := AN.out i j
            rw [hd] at dn an
            have HD := Lib.hid hd
            clear hd
            by_cases hbad : d = badN
            · have R := detR_bad hbad
              have Z : Hid (MR.done n n (adjL n xs) = MR.no) := AD.out i j hlt hjt (by rw [HD.out]; exact hbad)
              obtain ⟨q0, q1, q2, f0, f1, f2⟩ := K1w.out.all
              have BB : Hid (Below w.heap.size w w4) := B.out.trans (B4.out.mono B.out.size)
              have l4 := BB.out.size
              rw [R]
              clear R hbad dn an
              go_wp2_with fail
              obtain ⟨E0, E1, E2, -, -, -⟩ := (K1w.out.set3 (.int .i64 0) (.int .i64 0) (.slice none 0 0)).all
              rw [Z.out]
              exact bodyPost_ret (v := .tuple #[.agg #[.int .i64 0, .int .i64 0, .slice none 0 0], .bool false]) (by simp [results, Try.results29, go_sem, E0, E1, E2]) rfl ⟨_, rfl, .inl ⟨rfl, rfl⟩, ((BB.out.setCell (by show w.heap.size ≤ w.heap.size + 1; omega) _).setCell (by show w.heap.size ≤ w.heap.size + 1; omega) _).setCell (by show w.heap.size ≤ w.heap.size + 1; omega) _⟩
            · have R := detR_num hbad
              have AV := an hbad
              have dn := dn.resolve_left hbad
              unfold NumP at dn
              have GD : Hid (∀ j', j' < j + 1 → DM i j' ≠ badN) := fun j' h => by
                rcases Nat.lt_or_ge j' j with h1 | h1
                · exact GOODJ.out j' h1
                · obtain rfl : j' = j := by omega
                  rw [HD.out]; exact hbad
              have SE : Hid (∀ z, adjAt n xs i j = z → Below w1.heap.size w1 (w4.setCell ⟨g, j * n + i, none⟩ (.int .i64 z)) ∧ AdjN n N m a xs (rowsBut n i) (adjTo n xs i (j + 1)) w1.heap.size p4 px (c + 16807) (w4.setCell ⟨g, j * n + i, none⟩ (.int .i64 z))) := fun z hz => by
                have hbz : Below w1.heap.size w1 (w4.setCell ⟨g, j * n + i, none⟩ (.int .i64 z)) := B4.out.setCell HG.out.1 _
                have := adj_set K4.out HG.out I4.out S4.out O4.out ⟨HBB.out.1, HBB.out.2.1, HBB.out.2.2.1, HBB.out.2.2.2.1, HS4.out⟩ (RC.out i hlt) (j * n + i) z (H1.out.below hbz)
                rw [← hz, adjTo_step hlt hjt, hz] at this
                exact ⟨hbz, this⟩
              obtain ⟨r0, r1, r2, -, -, -⟩ := K4.out.all
              have i2 : j * n + i < N := by rw [← HN.out]; exact idx_lt hjt hlt
              have hold := I4.out.cell (i := j * n + i) (by rw [adjTo_length, HN.out]; exact i2)
              have hfr := I4.out.free (j * n + i)
              have cc2 : (j : Int) * (n : Int) = ((j * n : Nat) : Int) := (Int.natCast_mul _ _).symm
              have d2 : 0 ≤ (j : Int) * (n : Int) ∧ (j : Int) * (n : Int) ≤ 600 := by rw [cc2]; omega
              have e4 : 0 ≤ (j : Int) * (n : Int) + (i : Int) := by omega
              have e5 : (j : Int) * (n : Int) + (i : Int) < (N : Int) := by rw [cc2]; omega
              have e6 : ((j : Int) * (n : Int) + (i : Int)).toNat = j * n + i := by rw [cc2]; omega
              obtain ⟨d21, d22⟩ := d2
              have v1 : IntKind.i64.wrap ((i : Int) + (j : Int)) = (i : Int) + (j : Int) := IntWalk.i64_in _ (by omega)
              have v2 : Int.tmod ((i : Int) + (j : Int)) 2 = (((i + j) % 2 : Nat) : Int) := by rw [Int.tmod_eq_emod_of_nonneg (by omega)]; omega
              have v3 : IntKind.i64.wrap ((j : Int) * (n : Int)) = (j : Int) * (n : Int) := IntWalk.i64_in _ (by omega)
              have v4 : IntKind.i64.wrap ((j : Int) * (n : Int) + (i : Int)) = (j : Int) * (n : Int) + (i : Int) := IntWalk.i64_in _ (by omega)
              have v5 : IntKind.i64.wrap (((i + j) % 2 : Nat) : Int) = (((i + j) % 2 : Nat) : Int) := IntWalk.i64_in _ (by omega)
              have v6 : IntKind.i64.wrap (-d) = -d := IntWalk.i64_in _ (by omega)
              have c5 : c + 16807 ≤ (j + 1) * 16807 := by omega
              rw [R]
              clear R hbad an cc2 dn
              by_cases hodd : (i + j) % 2 = 1
              · rw [if_pos hodd] at AV
                rw [hodd] at v2 v5
                have SZ := Lib.hid (SE.out _ AV)
                clear hodd AV SE
                go_wp2_with fail
                go_roundw
                case rel => exact ⟨j + 1, c + 16807, rfl, by go_num, by omega, c5, SZ.out.2, SZ.out.1, GD.out⟩
                case measure => simp [intOf]; omega
              · rw [if_neg hodd] at AV
                obtain hodd : (i + j) % 2 = 0 := by omega
                rw [hodd] at v2 v5
                have SZ := Lib.hid (SE.out _ AV)
                clear hodd AV SE
                go_wp2_with fail
                go_roundw
                case rel => exact ⟨j + 1, c + 16807, rfl, by go_num, by omega, c5, SZ.out.2, SZ.out.1, GD.out⟩
                case measure => simp [intOf]; omega
          · have hjn : j = n := by omega
            have NXT : Hid (AdjO n N m a (adjTo n xs (i + 1) 0) w1.heap.size p4 px wr) := by
              have := adj.out HN.out.symm
              rw [hjn, adjTo_col] at this
              exact this
            have GD : Hid (∀ i' j', i' < i + 1 → j' < n → DM i' j' ≠ badN) := fun i' j' h h2 => by
              rcases Nat.lt_or_ge i' i with h1 | h1
              · exact GOOD.out i' j' h1 h2
              · obtain rfl : i' = i := by omega
                exact GOODJ.out j' (by omega)
            clear adj hjn
            go_wp2_with fail
            go_roundw
            case rel => exact ⟨i + 1, rfl, by go_num, by omega, NXT.out, BW.out, GD.out⟩
            case measure => simp [intOf]; omega
      · obtain rfl : i = n := by omega
        have Z : Hid (MR.done i i (adjL i xs) = ⟨true, i, i, adjL i xs⟩) := AK.out GOOD.out
        rw [adjTo_all] at adj
        obtain ⟨q, qc, T, bm, l, c, V, us, D, k, O, -, -, -, hbb⟩ := adj
        have K4 := Lib.hid k
        have O4 := Lib.hid O
        have HBB := Lib.hid hbb
        have K1w := Lib.hid (K1.out.keep BW.out K1.out.lt)
        have BB : Hid (Below w.heap.size w wr) := B.out.trans (BW.out.mono B.out.size)
        obtain ⟨r0, r1, r2, -, -, -⟩ := K4.out.all
        obtain ⟨q0, q1, q2, f0, f1, f2⟩ := K1w.out.all
        clear k O hbb
        go_wp2_with fail
        obtain ⟨E0, E1, E2, -, -, -⟩ := (K1w.out.set3 (.int .i64 i) (.int .i64 i) (.slice q N qc)).all
        rw [Z.out]
        refine bodyPost_ret (v := .tuple #[.agg #[.int .i64 i, .int .i64 i, .slice q N qc], .bool true]) (by simp [results, Try.results29, go_sem, E0, E1, E2]) rfl ⟨_, rfl, ?_, ((BB.out.setCell (by show w.heap.size ≤ w.heap.size + 1; omega) _).setCell (by show w.heap.size ≤ w.heap.size + 1; omega) _).setCell (by show w.heap.size ≤ w.heap.size + 1; omega) _⟩
        rcases O4.out with ⟨e1, e2⟩ | ⟨g, cap, e1, hB, hT, hi3, hl3, hs3⟩
        · exact .inl ⟨e1, e2⟩
        · refine .inr ⟨g, cap, e1, by omega, ((hi3.far (by show g ≠ w.heap.size + 1; omega) _).far (by show g ≠ w.heap.size + 1; omega) _).far (by show g ≠ w.heap.size + 1; omega) _, hl3, hs3⟩
end Go.Proofs.Ytdnajkoeojlnbaa
end

section
/-
  Chapter 6, in the program: AdjugateOf, of any matrix.
-/
namespace Go.Proofs.Ytdnajkoeojlnbaa
set_option maxRecDepth 100000
open Go.RowKit

set_option maxHeartbeats 1000000 in
theorem iAdj (r c : Int) (a : Option Addr) (m : Nat) (xs : List Int) (w : World) (h : Rd w a xs) (hn : xs.length ≤ 16777216) :
    Calls Try.prog 29 #[.agg #[.int .i64 r, .int .i64 c, .slice a xs.length m]] w (MatRes (adjM r c xs) w) := by
  rcases Bool.eq_false_or_eq_true (isSq r c xs) with hs | hs
  · obtain ⟨n, rfl, rfl, h6, hl, nx⟩ := isSq_says hs
    have V : adjM n n xs = MR.done n n (adjL n xs) := by unfold adjM; rw [if_pos hs]; rfl
    rw [V]
    exact iAdj_t n a m xs w h hl h6 nx hs
  · have V : Hid (adjM r c xs = MR.no) := by show adjM r c xs = _; unfold adjM; rw [if_neg (by rw [hs]; decide)]
    have H := Lib.hid h
    have HN := Lib.hid hn
    have B0 : Hid (∀ o1 o2, Below w.heap.size w ((w.alloc o1).alloc o2)) := fun o1 o2 => ((Below.refl _ _).alloc (Nat.le_refl _) _).alloc (by simp) _
    have SQ : Hid (∀ w', Below w.heap.size w w' → Calls Try.prog 18 #[.agg #[.int .i64 r, .int .i64 c, .slice a xs.length m]] w' (Gives (.bool false) w')) := fun w' hb => by
      have := iIsSq r c a m xs w' (H.out.below hb) HN.out
      rw [hs] at this
      exact this
    clear hs h hn
    generalize xs.length = l at SQ ⊢
    go_enter Try.func29, Try.ntmps29
    go_wp2_with fail
    refine (SQ.out _ (B0.out _ _)).mono ?_
    rintro e w1 ⟨rfl, hb⟩
    have K1 : Hid (Blk3 w1 (w.heap.size + 1) 27 (.int .i64 0) (.int .i64 0) (.slice none 0 0)) := (Blk3.at_ _ _ _ _ (by simp)).keep hb (by simp)
    have B : Hid (Below w.heap.size w w1) := (B0.out _ _).trans (hb.mono (by simp <;> omega))
    clear hb
    obtain ⟨p0, p1, p2, f0, f1, f2⟩ := K1.out.all
    go_wp2_with fail
    obtain ⟨E0, E1, E2, -, -, -⟩ := (K1.out.set3 (.int .i64 0) (.int .i64 0) (.slice none 0 0)).all
    rw [V.out]
    exact bodyPost_ret (v := .tuple #[.agg #[.int .i64 0, .int .i64 0, .slice none 0 0], .bool false]) (by simp [results, Try.results29, go_sem, E0, E1, E2]) rfl ⟨_, rfl, .inl ⟨rfl, rfl⟩, ((B.out.setCell (by show w.heap.size ≤ w.heap.size + 1; omega) _).setCell (by show w.heap.size ≤ w.heap.size + 1; omega) _).setCell (by show w.heap.size ≤ w.heap.size + 1; omega) _⟩
end Go.Proofs.Ytdnajkoeojlnbaa
end
