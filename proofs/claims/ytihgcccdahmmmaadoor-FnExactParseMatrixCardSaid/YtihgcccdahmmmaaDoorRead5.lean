/-
  Chapter 4, in the program: the reader's matrix.
-/
import Derived.Test.YtihgcccdahmmmaaDoorReadMM
import Derived.Test.YtihgcccdahmmmaaDoorRead1
import Derived.Deep.RegionHeld3
import Derived.Deep.DeepCutAuto
namespace Go.Proofs.YtihgcccdahmmmaaDoor
open Go.RowKit
open Go.Lib (decDigits itoa nDigits)

/-- A row of ints of the call's own, that append may go on with. -/
def OwnA (B : Nat) (w : World) (v : Value) (zs : List Int) : Prop := w.ownsRow B 3 1 v zs.length (zs.map (Value.int .i64))
theorem OwnA.le {B : Nat} {w : World} {v : Value} {zs : List Int} (h : OwnA B w v zs) {k : Nat} (hk : v.ownBlock = some k) : B ≤ k := by
  rcases h.2 with ⟨rfl, -⟩ | ⟨g, cap, cur, rfl, hB, -⟩
  · cases hk
  · simp [Value.ownBlock] at hk; omega
theorem OwnA.ne_blk {B : Nat} {w : World} {v : Value} {zs : List Int} {b : Nat} {p q r : Value} (h : OwnA B w v zs) (hb : Blk3 w b 26 p q r) {k : Nat} (hk : v.ownBlock = some k) : k ≠ b := by
  rcases h.2 with ⟨rfl, -⟩ | ⟨g, cap, cur, rfl, hB, hg, -⟩
  · cases hk
  · simp only [Value.ownBlock, Option.some.injEq] at hk
    subst hk
    rintro rfl
    unfold Blk3 at hb
    rw [hg] at hb
    injection hb with hb
    injection hb with _ h2 _
    exact absurd h2 (by decide)
theorem OwnA.move {B : Nat} {w w' : World} {v : Value} {zs : List Int} (h : OwnA B w v zs) (hb : ∀ k, v.ownBlock = some k → w'.heap[k]? = w.heap[k]?) : OwnA B w' v zs := by
  obtain ⟨h1, ⟨h2, h3⟩ | ⟨g, cap, cur, rfl, hB, hg, rest⟩⟩ := h
  · exact ⟨h1, .inl ⟨h2, h3⟩⟩
  · exact ⟨h1, .inr ⟨g, cap, cur, rfl, hB, (hb g rfl).trans hg, rest⟩⟩
theorem OwnA.lt {B : Nat} {w : World} {v : Value} {zs : List Int} (h : OwnA B w v zs) {k : Nat} (hk : v.ownBlock = some k) : k < w.heap.size := by
  rcases h.2 with ⟨rfl, -⟩ | ⟨g, cap, cur, rfl, hB, hg, -⟩
  · cases hk
  · simp only [Value.ownBlock, Option.some.injEq] at hk
    subst hk
    exact lt_of_block hg
theorem OwnA.one {B rb : Nat} {w w' : World} {v : Value} {zs : List Int} (h : OwnA B w v zs) (hg : w.grownBy w' (some rb)) (hr : rb < B) : OwnA B w' v zs :=
  h.move fun k hk => hg.block k (h.lt hk) (by have := h.le hk; simp; omega)
theorem OwnA.drew {B : Nat} {w : World} {v : Value} {zs : List Int} (h : OwnA B w v zs) : OwnA B w.drew v zs := h
theorem OwnA.keep {B : Nat} {w w' : World} {v : Value} {zs : List Int} (h : OwnA B w v zs) (hb : Below w.heap.size w w') : OwnA B w' v zs := h.move fun k hk => hb.block k (h.lt hk)
theorem OwnA.form {B : Nat} {w : World} {v : Value} {zs : List Int} (h : OwnA B w v zs) : ∃ a c, v = .slice a zs.length c := by
  obtain ⟨h1, ⟨h2, h3⟩ | ⟨g, cap, cur, e, hB, hg, rest⟩⟩ := h
  · exact ⟨_, _, by rw [h2, h3]⟩
  · exact ⟨_, _, e⟩
theorem OwnA.own {B : Nat} {w : World} {v : Value} {zs : List Int} (h : OwnA B w v zs) (hn : zs.length ≤ 16777216) : Own B w v zs := Own.of_row h hn
theorem OwnA.nil (B : Nat) (w : World) : OwnA B w (.slice none 0 0) [] := ⟨rfl, .inl ⟨rfl, rfl⟩⟩
/-- append of one number. -/
theorem appendOne (B : Nat) (w : World) (v : Value) (zs : List Int) (z : Int) (n : Nat) (hn : zs.length = n) (h : OwnA B w v zs) (hb : n ≤ 1000000) (hB : B ≤ w.heap.size) :
    ∃ v' w', (Builtin.append_ #[24, 24] 24 #[v, .slice (some ⟨w.heap.size, 0, none⟩) 1 1]).run Tryd.prog (w.alloc (.cells #[.int .i64 z] 3)) = .ok v' w' ∧ OwnA B w' v' (zs ++ [z]) ∧ (w.alloc (.cells #[.int .i64 z] 3)).grownBy w' v.ownBlock := by
  obtain ⟨fi, hfi, hz0, hz1, hz2⟩ := facts_int
  subst hn
  have h' : OwnA B (w.alloc (.cells #[.int .i64 z] 3)) v zs := h.keep ((Below.refl _ _).alloc (Nat.le_refl _) _)
  obtain ⟨v', w', hr, h2, h3, h4, -⟩ := run_append_own_at (P := Tryd.prog) (w.alloc (.cells #[.int .i64 z] 3)) B 24 24 3 fi (.int .i64 0) 1 8 underlying_ints hfi hz0 hz1 hz2 rfl (by decide) v zs.length _ h' ⟨w.heap.size, 0, none⟩ 1 1 [.int .i64 z] rfl (cell_one_new _ _ _)
    (by intro u hu; obtain rfl := List.mem_singleton.mp hu; rfl) (by unfold maxLen; omega) (by omega) (by simp; omega)
  refine ⟨v', w', hr, ?_, h3⟩
  unfold OwnA
  rw [List.length_append, List.map_append]
  exact h2

/-- The reader has read a matrix and gone on, or the call ends in its panic. -/
def WentM (rb : Nat) (o : Option ((Int × Int × List Int) × List UInt8)) (w : World) (e : Ending) (w' : World) : Prop :=
  w.grownBy w' (some rb) ∧ match o with | some ((r, c, zs), l') => ∃ v, e = .returned (.agg #[.int .i64 r, .int .i64 c, v]) ∧ OwnA w.heap.size w' v zs ∧ Rdr w' rb l' | none => Boom e
theorem wentM_no {rb : Nat} {o : Option ((Int × Int × List Int) × List UInt8)} {w w' : World} {e : Ending} (h : o = none) (g : w.grownBy w' (some rb)) (he : Boom e) : WentM rb o w e w' := ⟨g, by rw [h]; exact he⟩
theorem wentM_yes {rb : Nat} {o : Option ((Int × Int × List Int) × List UInt8)} {r c : Int} {zs : List Int} {v : Value} {l' : List UInt8} {w w' : World} {e : Ending} (h : o = some ((r, c, zs), l')) (g : w.grownBy w' (some rb)) (he : e = .returned (.agg #[.int .i64 r, .int .i64 c, v])) (ho : OwnA w.heap.size w' v zs) (hr : Rdr w' rb l') : WentM rb o w e w' := ⟨g, by rw [h]; exact ⟨v, he, ho, hr⟩⟩

theorem cellsAt_none {C : Nat} {s : List UInt8} {k n : Nat} (h : cellsAt C s k = none) (hk : k ≤ n) : cellsAt C s n = none := by
  obtain ⟨m, rfl⟩ : ∃ m, n = k + m := ⟨n - k, by omega⟩
  clear hk
  induction m with
  | zero => exact h
  | succ m ih =>
    show (match cellsAt C s (k + m) with | none => none | some (zs, l) => match cellStep ((k + m) / C) ((k + m) % C) l with | none => none | some (z, t) => some (zs ++ [z], t)) = none
    rw [ih]
theorem cellsAt_step {C : Nat} {s : List UInt8} {k : Nat} {zs : List Int} {l : List UInt8} (h : cellsAt C s k = some (zs, l)) : cellsAt C s (k + 1) = match cellStep (k / C) (k % C) l with | none => none | some (z, t) => some (zs ++ [z], t) := by
  show (match cellsAt C s k with | none => none | some (zs, l) => match cellStep (k / C) (k % C) l with | none => none | some (z, t) => some (zs ++ [z], t)) = _
  rw [h]
/-- The reading, with names for its parts. -/
theorem goM1_at (s : List UInt8) (r c : Int) (ok1 h1 ok2 h2 : Bool) (t1 q1 t2 q2 : List UInt8) (hr : (numT (headN s)).1 = r) (e1 : sizeOk s = ok1) (et1 : tailN s = t1) (eh1 : Lib.hasPrefix t1 [120] = h1) (eq1 : Lib.trimPrefix t1 [120] = q1)
    (hc : (numT (headN q1)).1 = c) (e2 : sizeOk q1 = ok2) (et2 : tailN q1 = t2) (eh2 : Lib.hasPrefix t2 [91] = h2) (eq2 : Lib.trimPrefix t2 [91] = q2) :
    goM1 s = if ok1 = true then if h1 = true then if ok2 = true then if h2 = true then
      match cellsAt c.toNat q2 (r.toNat * c.toNat) with
      | none => none
      | some (zs, l) => if Lib.hasPrefix l [93] = true then some ((r, c, zs), Lib.trimPrefix l [93]) else none
      else none else none else none else none := by
  unfold goM1
  rw [hr, et1, eh1, eq1, hc, et2, eh2, eq2, ← e1, ← e2]
  rfl
end Go.Proofs.YtihgcccdahmmmaaDoor
