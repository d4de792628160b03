/-
  Texts of this seat, joined: Rq · RgT · RgP · RatS · RatI · RatI2 · RatLaw · LawRq · MemQ
-/
import Derived.Test.YtcapddcmnjeloaaProg
import Derived.OrdersHeld
import Derived.RegionTactic
import Derived.Deep.RegionHeld
import Derived.ChangeAlike
import Derived.Deep.RegionWith
import Derived.Deep.RegionHeld3
import Derived.Deep.DeepCutAuto
import Derived.Test.YtcapddcmnjeloaaPk1
import Derived.Test.YtcapddcmnjeloaaPk2
import Derived.Test.YtcapddcmnjeloaaPk3
import Derived.Test.YtcapddcmnjeloaaPk4
import Derived.Test.YtcapddcmnjeloaaPk6

section
/-
  Ratios as a list, a slice that shows them, a block that holds them. Nothing of a program is used but its types.
-/
namespace Go.Proofs.Ytcapddcmnjeloaa
open Go.RowKit

/-- A slice that shows the ratios l. -/
def RdQ (w : World) (a : Option Addr) (l : List (Int × Int)) : Prop :=
  ∀ q : Nat, q < l.length → ∃ b o : Nat, a = some ⟨b, o, none⟩ ∧ b < w.heap.size ∧ w.cell? ⟨b, o + q * 2, none⟩ = some (.int .i64 (l.getD q (0, 0)).1) ∧ w.cell? ⟨b, o + q * 2 + 1, none⟩ = some (.int .i64 (l.getD q (0, 0)).2)
theorem RdQ.below {w w' : World} {a : Option Addr} {l : List (Int × Int)} (h : RdQ w a l) (hb : Below w.heap.size w w') : RdQ w' a l := fun q hq => by
  obtain ⟨b, o, e, hl, h0, h1⟩ := h q hq
  have c : ∀ x : Nat, w'.cell? ⟨b, x, none⟩ = w.cell? ⟨b, x, none⟩ := fun x => (bcell hb).1 b x hl
  exact ⟨b, o, e, Nat.lt_of_lt_of_le hl hb.size, by rw [c]; exact h0, by rw [c]; exact h1⟩
theorem RdQ.nil (w : World) (a : Option Addr) : RdQ w a [] := fun q h => absurd h (by simp)
def flatQ (l : List (Int × Int)) : List Value := l.flatMap fun u => [.int .i64 u.1, .int .i64 u.2]
theorem info_rat : (Try.prog.info? 80).map (fun i => (i.zero, i.size, i.bytes)) = some (some (.agg #[.int .i64 0, .int .i64 0]), 2, 16) := by kernel_rfl
theorem underlying_rats : Try.prog.underlying 49 = some (.slice 80) := by kernel_rfl
theorem facts_rat : ∃ i, Try.prog.info? 80 = some i ∧ i.zero = some (.agg #[.int .i64 0, .int .i64 0]) ∧ i.size = 2 ∧ i.bytes = 16 := by
  have h := info_rat
  cases hi : Try.prog.info? 80 with
  | none => rw [hi] at h; simp at h
  | some i => rw [hi] at h; simp only [Option.map_some, Option.some.injEq, Prod.mk.injEq] at h; exact ⟨i, rfl, h.1, h.2.1, h.2.2⟩
theorem flatQ_length (l : List (Int × Int)) : (flatQ l).length = l.length * 2 := by
  induction l with
  | nil => rfl
  | cons u l ih => rw [show flatQ (u :: l) = [.int .i64 u.1, .int .i64 u.2] ++ flatQ l from rfl, List.length_append, ih]; simp; omega
theorem flatQ_app (l l' : List (Int × Int)) : flatQ (l ++ l') = flatQ l ++ flatQ l' := by unfold flatQ; exact List.flatMap_append
theorem cellsQ_new (w : World) (t : TypeId) (p q : Value) : ∀ j u, [p, q][j]? = some u → (w.alloc (.cells #[p, q] t)).cell? ((⟨w.heap.size, 0, none⟩ : Addr).add j) = some u := by
  intro j u hu
  obtain ⟨c0, c1, -, -⟩ := (Blk2.at_ t p q (rfl : w.heap.size = w.heap.size)).all
  match j, hu with
  | 0, h => simp only [List.getElem?_cons_zero, Option.some.injEq] at h; subst h; exact c0
  | 1, h => simp only [List.getElem?_cons_succ, List.getElem?_cons_zero, Option.some.injEq] at h; subst h; exact c1
  | j + 2, h => simp at h
/-- A block that begins with the ratios l. -/
def QsB (w : World) (g : Nat) (l : List (Int × Int)) : Prop := ∃ rest : List Value, w.heap[g]? = some (.cells (flatQ l ++ rest).toArray 80 (0, 0))
theorem QsB.move {w w' : World} {g : Nat} {l : List (Int × Int)} (h : QsB w g l) (e : w'.heap[g]? = w.heap[g]?) : QsB w' g l := by
  obtain ⟨rest, h⟩ := h
  exact ⟨rest, e.trans h⟩
theorem QsB.lt {w : World} {g : Nat} {l : List (Int × Int)} (h : QsB w g l) : g < w.heap.size := by
  obtain ⟨rest, h⟩ := h
  exact lt_of_block h
theorem QsB.free {w : World} {g : Nat} {l : List (Int × Int)} (h : QsB w g l) (i : Nat) : w.frozen? ⟨g, i, none⟩ = false := by
  obtain ⟨rest, h⟩ := h
  simp [World.frozen?, h]
theorem flatQ_cons (u : Int × Int) (l : List (Int × Int)) : flatQ (u :: l) = .int .i64 u.1 :: .int .i64 u.2 :: flatQ l := rfl
theorem flatQ_at (l : List (Int × Int)) (rest : List Value) : ∀ q : Nat, q < l.length →
    (flatQ l ++ rest)[q * 2]? = some (.int .i64 (l.getD q (0, 0)).1) ∧ (flatQ l ++ rest)[q * 2 + 1]? = some (.int .i64 (l.getD q (0, 0)).2) := by
  induction l with
  | nil => intro q h; simp at h
  | cons u l ih =>
    intro q h
    rw [flatQ_cons]
    cases q with
    | zero => exact ⟨rfl, rfl⟩
    | succ q =>
      have := ih q (by simpa using h)
      rw [show (q + 1) * 2 = q * 2 + 2 by omega]
      exact this
theorem QsB.cells {w : World} {g : Nat} {l : List (Int × Int)} (h : QsB w g l) {q : Nat} (hq : q < l.length) :
    w.cell? ⟨g, q * 2, none⟩ = some (.int .i64 (l.getD q (0, 0)).1) ∧ w.cell? ⟨g, q * 2 + 1, none⟩ = some (.int .i64 (l.getD q (0, 0)).2) := by
  obtain ⟨rest, h⟩ := h
  have f := flatQ_at l rest q hq
  have c : ∀ n : Nat, w.cell? ⟨g, n, none⟩ = (flatQ l ++ rest)[n]? := fun n => by simp only [World.cell?, h]; simp
  rw [c, c]
  exact f
theorem QsB.rd {w : World} {g : Nat} {l : List (Int × Int)} (h : QsB w g l) : RdQ w (some ⟨g, 0, none⟩) l := fun q hq => by
  have c := h.cells hq
  refine ⟨g, 0, rfl, h.lt, ?_⟩
  simpa using c
theorem flatQ_set (l : List (Int × Int)) (rest : List Value) (u : Int × Int) : ∀ q : Nat, q < l.length →
    ((flatQ l ++ rest).set (q * 2) (.int .i64 u.1)).set (q * 2 + 1) (.int .i64 u.2) = flatQ (l.set q u) ++ rest := by
  induction l with
  | nil => intro q h; simp at h
  | cons v l ih =>
    intro q h
    cases q with
    | zero => rfl
    | succ q =>
      have := ih q (by simpa using h)
      rw [show (q + 1) * 2 = q * 2 + 2 by omega, List.set_cons_succ, flatQ_cons, flatQ_cons]
      exact congrArg (fun L => Value.int .i64 v.1 :: .int .i64 v.2 :: L) this
theorem setCell_blockQ {w : World} {g : Nat} {L : List Value} {t : TypeId} (h : w.heap[g]? = some (.cells L.toArray t (0, 0))) (n : Nat) (u : Value) : (w.setCell ⟨g, n, none⟩ u).heap[g]? = some (.cells (L.set n u).toArray t (0, 0)) := by
  have hlt := lt_of_block h
  have h' : w.heap[g] = .cells L.toArray t (0, 0) := by simpa [Array.getElem?_eq_getElem hlt] using h
  show (w.heap.modify g _)[g]? = _
  rw [Array.getElem?_eq_getElem (by simpa using hlt), Array.getElem_modify_self, h']
  simp
theorem QsB.set {w : World} {g : Nat} {l : List (Int × Int)} (h : QsB w g l) {q : Nat} (hq : q < l.length) (u : Int × Int) :
    QsB ((w.setCell ⟨g, q * 2, none⟩ (.int .i64 u.1)).setCell ⟨g, q * 2 + 1, none⟩ (.int .i64 u.2)) g (l.set q u) := by
  obtain ⟨rest, h⟩ := h
  refine ⟨rest, ?_⟩
  rw [← flatQ_set l rest u q hq]
  exact setCell_blockQ (setCell_blockQ h _ _) _ _
theorem QsB.far {w : World} {g : Nat} {l : List (Int × Int)} (h : QsB w g l) {a : Addr} (ha : g ≠ a.block) (u : Value) : QsB (w.setCell a u) g l := h.move (Below.heap_setCell w a u g ha)
theorem QsB.keep {w w' : World} {g B : Nat} {l : List (Int × Int)} (h : QsB w g l) (hb : Below B w w') (hB : g < B) : QsB w' g l := h.move (hb.block g hB)
theorem QsB.one {w w' : World} {g c : Nat} {l : List (Int × Int)} (h : QsB w g l) (hg : w.grownBy w' (some c)) (hne : g ≠ c) : QsB w' g l := h.move (hg.block g h.lt (by simpa using hne))
theorem QsB.old {w : World} {g : Nat} {l : List (Int × Int)} (h : QsB w g l) (o : Obj) : QsB (w.alloc o) g l := h.move (Below.heap_alloc w o g h.lt)
theorem flatQ_zero_mem (n : Nat) : ∀ x ∈ flatQ (List.replicate n ((0, 0) : Int × Int)), x = .int .i64 0 := by
  intro x hx
  obtain ⟨u, hu, hx⟩ := List.mem_flatMap.mp hx
  obtain rfl := List.eq_of_mem_replicate hu
  simpa using hx
theorem flatQ_zeros (n : Nat) : madeCells #[.int .i64 0, .int .i64 0] (n * 2) = (flatQ (List.replicate n ((0, 0) : Int × Int))).toArray := by
  apply Array.ext
  · simp [madeCells, flatQ_length]
  · intro i h1 h2
    have e : (flatQ (List.replicate n ((0, 0) : Int × Int))).toArray[i] = .int .i64 0 := flatQ_zero_mem n _ (by simp)
    rw [e]
    have h4 : i % 2 = 0 ∨ i % 2 = 1 := by omega
    rcases h4 with h | h <;> simp [madeCells, h]
theorem QsB.made {w : World} {g : Nat} (n : Nat) (hg : g = w.heap.size) : QsB (w.alloc (.cells (madeCells #[.int .i64 0, .int .i64 0] (n * 2)) 80)) g (List.replicate n ((0, 0) : Int × Int)) := by
  subst hg
  refine ⟨[], ?_⟩
  rw [flatQ_zeros, List.append_nil]
  exact heap_alloc_new w _

/-! ### A list of ratios that a call builds by append -/
def OwnR (B : Nat) (w : World) (v : Value) (l : List (Int × Int)) : Prop := w.ownsRow B 80 2 v l.length (flatQ l)
theorem OwnR.form {B : Nat} {w : World} {v : Value} {l : List (Int × Int)} (h : OwnR B w v l) : ∃ a c, v = .slice a l.length c := by
  obtain ⟨h1, ⟨h2, h3⟩ | ⟨g, cap, cur, e, -⟩⟩ := h
  · exact ⟨_, _, by rw [h2, h3]⟩
  · exact ⟨_, _, e⟩
theorem OwnR.empty {B : Nat} {w : World} (hB : B ≤ w.heap.size) : OwnR B (w.alloc (.cells #[] 80)) (.slice (some ⟨w.heap.size, 0, none⟩) 0 0) [] := ⟨rfl, .inr ⟨w.heap.size, 0, #[], rfl, hB, heap_alloc_new w _, Nat.le_refl _, by decide, rfl, rfl⟩⟩
theorem OwnR.nil (B : Nat) (w : World) : OwnR B w (.slice none 0 0) [] := ⟨rfl, .inl ⟨rfl, rfl⟩⟩
theorem OwnR.keep {B : Nat} {w w' : World} {v : Value} {l : List (Int × Int)} (h : OwnR B w v l) (hb : Below w.heap.size w w') : OwnR B w' v l := rows_keep h hb
theorem OwnR.le {B B' : Nat} {w : World} {v : Value} {l : List (Int × Int)} (h : OwnR B w v l) (hB : B' ≤ B) : OwnR B' w v l := by
  obtain ⟨h1, h2 | ⟨g, cap, cur, e, h3, rest⟩⟩ := h
  · exact ⟨h1, .inl h2⟩
  · exact ⟨h1, .inr ⟨g, cap, cur, e, Nat.le_trans hB h3, rest⟩⟩
theorem OwnR.old {B : Nat} {w : World} {v : Value} {l : List (Int × Int)} (h : OwnR B w v l) (o : Obj) : OwnR B (w.alloc o) v l := h.keep ((Below.refl _ _).alloc (Nat.le_refl _) o)
/-- It is nil, or it begins a block of its own. -/
theorem OwnR.blk {B : Nat} {w : World} {v : Value} {l : List (Int × Int)} (h : OwnR B w v l) : (v = .slice none 0 0 ∧ l = []) ∨ ∃ g cap : Nat, v = .slice (some ⟨g, 0, none⟩) l.length cap ∧ B ≤ g ∧ QsB w g l ∧ l.length ≤ cap := by
  rcases h.2 with ⟨rfl, h0⟩ | ⟨g, cap, cur, rfl, hB, hg, hc, -, -, ht⟩
  · exact .inl ⟨rfl, List.eq_nil_of_length_eq_zero h0⟩
  · refine .inr ⟨g, cap, rfl, hB, ⟨cur.toList.drop (l.length * 2), ?_⟩, hc⟩
    rw [hg]
    congr 1
    congr 1
    rw [← ht, List.take_append_drop]
theorem OwnR.rd {B : Nat} {w : World} {a : Option Addr} {n c : Nat} {l : List (Int × Int)} (h : OwnR B w (.slice a n c) l) : RdQ w a l := by
  rcases h.blk with ⟨e, rfl⟩ | ⟨g, cap, e, -, hi, -⟩
  · exact RdQ.nil _ _
  · injection e with e1 e2 e3
    rw [e1]; exact hi.rd
/-- What a function that solves answers: a list of the call's own and a bool. -/
def QRes (zs : List (Int × Int)) (ok : Bool) (w : World) (e : Ending) (w' : World) : Prop := ∃ v : Value, e = .returned (.tuple #[v, .bool ok]) ∧ OwnR w.heap.size w' v zs ∧ Below w.heap.size w w'
theorem flatQ_snoc (l : List (Int × Int)) (u : Int × Int) : flatQ (l ++ [u]) = flatQ l ++ [.int .i64 u.1, .int .i64 u.2] := by rw [flatQ_app]; rfl
end Go.Proofs.Ytcapddcmnjeloaa
end

section
/-
  A region that draws its order and stores, at its end, into cells that it loads: a condition on the world is shown again behind each operation but those that come after all loads. No function of the program is named.
-/
namespace Go.Proofs.Ytcapddcmnjeloaa

theorem two_only {p : Nat → Prop} (a b : Nat) (ha : p a) (hb : p b) : ∀ j, (j == a || j == b) = true → p j := fun j hj => by
  rw [Bool.or_eq_true, beq_iff_eq, beq_iff_eq] at hj
  rcases hj with rfl | rfl
  · exact ha
  · exact hb
section
variable {P : Program} {ops : Array Oper} {Q : Exit → Act → World → Prop} {md : Region.Mode} {S : World → Prop} {T : Nat → Bool}

/-- Operation j waits for i, at once or by others. -/
def anc (md : Region.Mode) (ops : Array Oper) (i : Nat) : Nat → Nat → Bool
  | 0, _ => false
  | f + 1, j => match ops[j]? with
    | some o => o.after.any fun e => Region.binds md e && (e.on == i || anc md ops i f e.on)
    | none => false
/-- What has come up has come up behind all that it waits for. -/
def closedB (md : Region.Mode) (ops : Array Oper) (listed : Array Bool) : Bool :=
  (List.range ops.size).all fun j => match ops[j]? with
    | some o => !(listed.getD j false) || o.after.all fun e => !(Region.binds md e) || listed.getD e.on false
    | none => true
def Closed (md : Region.Mode) (ops : Array Oper) (listed : Array Bool) : Prop := ∀ (j : Nat) (o : Oper), ops[j]? = some o → listed.getD j false = true → ∀ e ∈ o.after, Region.binds md e = true → listed.getD e.on false = true
theorem closed_of {listed : Array Bool} (h : closedB md ops listed = true) : Closed md ops listed := fun j o ho hl e he hb => by
  unfold closedB at h
  rw [List.all_eq_true] at h
  have hj : j < ops.size := by
    rcases Nat.lt_or_ge j ops.size with h1 | h1
    · exact h1
    · rw [Array.getElem?_eq_none h1] at ho; cases ho
  have h1 := h j (List.mem_range.mpr hj)
  rw [ho] at h1
  dsimp only at h1
  rw [hl] at h1
  simp only [Bool.not_true, Bool.false_or] at h1
  rw [Array.all_eq_true_iff_forall_mem] at h1
  have h2 := h1 e he
  rw [hb] at h2
  simpa using h2
theorem Closed.set {listed : Array Bool} {i : Nat} (h : Closed md ops listed) (hr : i ∈ Region.ready md ops listed) : Closed md ops (listed.setIfInBounds i true) := fun j o ho hl e he hb => by
  by_cases hji : i = j
  · subst hji
    obtain ⟨-, o', ho', hall⟩ := mem_ready.1 hr
    rw [ho] at ho'
    cases ho'
    exact getD_set_true (hall e he hb)
  · rw [getD_set_ne false hji] at hl
    exact getD_set_true (h j o ho hl e he hb)
theorem anc_unlisted {listed : Array Bool} {i : Nat} (h : Closed md ops listed) (hi : listed.getD i false = false) : ∀ (f j : Nat), anc md ops i f j = true → listed.getD j false = false
  | 0, j, ha => by cases ha
  | f + 1, j, ha => by
    unfold anc at ha
    cases ho : ops[j]? with
    | none => rw [ho] at ha; cases ha
    | some o =>
      rw [ho] at ha
      dsimp only at ha
      rw [Array.any_eq_true'] at ha
      obtain ⟨e, he, hb⟩ := ha
      rw [Bool.and_eq_true, Bool.or_eq_true] at hb
      cases hl : listed.getD j false with
      | false => rfl
      | true =>
        have h1 := h j o ho hl e he hb.1
        rcases hb.2 with h2 | h2
        · have e2 : e.on = i := by simpa using h2
          rw [e2, hi] at h1
          cases h1
        · rw [anc_unlisted h hi f e.on h2] at h1
          cases h1
theorem anc_not_ready {listed : Array Bool} {i j f : Nat} (h : Closed md ops listed) (hi : listed.getD i false = false) (ha : anc md ops i f j = true) : j ∉ Region.ready md ops listed := fun hr => by
  have h1 := h.set hr
  obtain ⟨-, o, ho, hall⟩ := mem_ready.1 hr
  cases f with
  | zero => cases ha
  | succ f =>
    unfold anc at ha
    rw [ho] at ha
    dsimp only at ha
    rw [Array.any_eq_true'] at ha
    obtain ⟨e, he, hb⟩ := ha
    rw [Bool.and_eq_true, Bool.or_eq_true] at hb
    have h2 := hall e he hb.1
    rcases hb.2 with h3 | h3
    · have e2 : e.on = i := by simpa using h3
      rw [e2, hi] at h2
      cases h2
    · rw [anc_unlisted h hi f e.on h3] at h2
      cases h2
/-- Whatever order is picked from here on, and S holds behind every operation but those of T. -/
def wpAnyT (P : Program) (md : Region.Mode) (ops : Array Oper) (Q : Exit → Act → World → Prop) (S : World → Prop) (T : Nat → Bool) : Nat → Array Bool → Act → World → Prop
  | 0, listed, a, w => Region.ready md ops listed = [] ∧ Q .normal a w
  | fuel + 1, listed, a, w =>
    (Region.ready md ops listed = [] → Q .normal a w) ∧
    ∀ i ∈ Region.ready md ops listed, wpOp P ops Q i (fun a' w' => (T i = false → S w') ∧ wpAnyT P md ops Q S T fuel (listed.setIfInBounds i true) a' w') a w
theorem wpAny_of_T : ∀ (fuel : Nat) (listed : Array Bool) (a : Act) (w : World), wpAnyT P md ops Q S T fuel listed a w → wpAny P md ops Q fuel listed a w
  | 0, _, _, _, h => h
  | fuel + 1, _, _, _, h => ⟨h.1, fun i hi => wpOp_mono (fun a' w' h' => wpAny_of_T fuel _ a' w' h'.2) (h.2 i hi)⟩
theorem getD_swap {listed : Array Bool} {i : Nat} (h : listed.getD i true = false) : listed.getD i false = false := by
  rcases Nat.lt_or_ge i listed.size with h' | h'
  · simp [h'] at h ⊢; exact h
  · simp [Array.getElem?_eq_none h'] at h
theorem wpAnyT_first {i : Nat} {oi : Oper} {v : Value} (hi : ops[i]? = some oi) (hsel : ∀ (j : Nat) (o : Oper) cs b, ops[j]? = some o → o.op ≠ .select cs b)
    (hQ : ∀ c a w, Q (.panic c) (a.put oi.dst v) w → Q (.panic c) a w) (hT : ∀ j, T j = true → anc md ops i ops.size j = true) :
    ∀ (fuel : Nat) (listed : Array Bool) (a : Act) (w : World), Closed md ops listed →
      (∀ j oj, ops[j]? = some oj → j ≠ i → listed.getD j true = false → (∀ e ∈ oj.after, Region.binds md e = true → e.on ≠ i) → oi.apart ops oj = true) →
      i ∈ Region.ready md ops listed → YieldsIf P ops S oi v a → S w →
      wpAnyT P md ops Q S T fuel (listed.setIfInBounds i true) (a.put oi.dst v) w → wpAnyT P md ops Q S T (fuel + 1) listed a w := by
  intro fuel
  induction fuel with
  | zero =>
    intro listed a w _ _ hr hy hS H
    refine ⟨fun h => (by rw [h] at hr; cases hr), fun j hj => ?_⟩
    by_cases hji : j = i
    · subst hji; exact hy.wpOp hi hS ⟨fun _ => hS, H⟩
    · have := ready_mono hj hji
      rw [H.1] at this
      cases this
  | succ fuel ih =>
    intro listed a w hcl hfree hr hy hS H
    refine ⟨fun h => (by rw [h] at hr; cases hr), fun j hj => ?_⟩
    by_cases hji : j = i
    · subst hji; exact hy.wpOp hi hS ⟨fun _ => hS, H⟩
    · have h1 := H.2 j (ready_mono hj hji)
      have hli := getD_swap (mem_ready.1 hr).1
      have hTj : T j = false := by
        cases hb : T j with
        | false => rfl
        | true => exact absurd hj (anc_not_ready hcl hli (hT j hb))
      obtain ⟨hjun, oj, hoj, hall⟩ := mem_ready.1 hj
      have hnot : ∀ e ∈ oj.after, Region.binds md e = true → e.on ≠ i := fun e he hb heq => by
        have h1 := hall e he hb
        rw [heq, hli] at h1
        cases h1
      have h2 := wpOp_putIf hoj (hfree j oj hoj hji hjun hnot) (fun cs b => hsel i oi cs b hi) (fun cs b => hsel j oj cs b hoj) hQ hy h1
      have hfree' : ∀ k ok, ops[k]? = some ok → k ≠ i → (listed.setIfInBounds j true).getD k true = false →
          (∀ e ∈ ok.after, Region.binds md e = true → e.on ≠ i) → oi.apart ops ok = true := fun k ok hk hki hun hno => by
        refine hfree k ok hk hki ?_ hno
        by_cases hjk : j = k
        · subst hjk; exact hjun
        · rw [getD_set_ne true hjk] at hun; exact hun
      refine wpOp_mono (fun a' w' h3 => ⟨h3.2.1, ih (listed.setIfInBounds j true) a' w' (hcl.set hj) hfree' (ready_mono hr (Ne.symm hji)) h3.1 (h3.2.1 hTj) ?_⟩) h2
      rw [Array.setIfInBounds_comm _ _ hji]
      exact h3.2.2
/-- Take number i first. -/
theorem wpAnyT_take {i : Nat} {oi : Oper} {v : Value} {fuel : Nat} {listed : Array Bool} {a : Act} {w : World} (hi : ops[i]? = some oi)
    (hs : Region.noSelect ops = true) (hf : Region.free md ops listed i = true) (hr : (Region.ready md ops listed).contains i = true) (hcl : closedB md ops listed = true)
    (hT : ∀ j, T j = true → anc md ops i ops.size j = true)
    (hQ : ∀ c a w, Q (.panic c) (a.put oi.dst v) w → Q (.panic c) a w) (hy : YieldsIf P ops S oi v a) (hS : S w)
    (h : wpAnyT P md ops Q S T fuel (listed.setIfInBounds i true) (a.put oi.dst v) w) : wpAnyT P md ops Q S T (fuel + 1) listed a w :=
  wpAnyT_first hi (Region.noSelect_spec hs) hQ hT fuel listed a w (closed_of hcl) (Region.free_spec hi hf) (by simpa using hr) hy hS h
theorem wpAnyT_done {listed : Array Bool} {a : Act} {w : World} (hr : Region.ready md ops listed = []) (h : Q .normal a w) :
    ∀ fuel, wpAnyT P md ops Q S T fuel listed a w
  | 0 => ⟨hr, h⟩
  | _ + 1 => ⟨fun _ => h, by rw [hr]; simp⟩
/-- Each of the operations rs comes up next. -/
def AllReadyT (P : Program) (md : Region.Mode) (ops : Array Oper) (Q : Exit → Act → World → Prop) (S : World → Prop) (T : Nat → Bool) (fuel : Nat) (listed : Array Bool) (a : Act) (w : World) (rs : List Nat) : Prop :=
  ∀ i ∈ rs, wpOp P ops Q i (fun a' w' => (T i = false → S w') ∧ wpAnyT P md ops Q S T fuel (listed.setIfInBounds i true) a' w') a w
theorem AllReadyT.nil {fuel : Nat} {listed : Array Bool} {a : Act} {w : World} : AllReadyT P md ops Q S T fuel listed a w [] := fun _ h => by cases h
theorem AllReadyT.cons {fuel : Nat} {listed : Array Bool} {a : Act} {w : World} {i : Nat} {o : Oper} {rs : List Nat} (ho : ops[i]? = some o)
    (h : ∀ K' : Act → World → Prop, Shut (∀ a w, (T i = false → S w) → wpAnyT P md ops Q S T fuel (listed.setIfInBounds i true) a w → K' a w) → if Region.wanted o (yielded ops a.tmps) = true then Oper.wp P o a w K' Q else K' (a.put o.dst undef) w)
    (hs : AllReadyT P md ops Q S T fuel listed a w rs) : AllReadyT P md ops Q S T fuel listed a w (i :: rs) := fun j hj => by
  rcases List.mem_cons.1 hj with rfl | hj
  · exact wpOp_step ho (fun K' hK => h K' (fun a w hS hW => hK a w ⟨hS, hW⟩))
  · exact hs j hj
theorem wpAnyT_ready {rs : List Nat} {fuel : Nat} {listed : Array Bool} {a : Act} {w : World} (hr : Region.ready md ops listed = rs) (hne : rs ≠ [])
    (h : AllReadyT P md ops Q S T fuel listed a w rs) : wpAnyT P md ops Q S T (fuel + 1) listed a w := ⟨fun h0 => absurd (hr ▸ h0) hne, hr ▸ h⟩
end
end Go.Proofs.Ytcapddcmnjeloaa
end

section
/-
  A region that draws its order and stores, at its end, into cells that it loads: outside of a fence. No function of the program is named.
-/
namespace Go.Proofs.Ytcapddcmnjeloaa

theorem one_only {p : Nat → Prop} (a : Nat) (ha : p a) : ∀ j, (j == a) = true → p j := fun j hj => by
  rw [beq_iff_eq] at hj
  subst hj
  exact ha
theorem wp_region_T {P : Program} {id : Nat} {ops : Array Oper} {Q : Exit → Act → World → Prop} {S : World → Prop} {T : Nat → Bool} {a : Act} {w : World} (hm : P.follows .mixedOrders = true) (hS : S w.drew)
    (h : S w.drew → wpAnyT P .any ops Q S T ops.size (Array.replicate ops.size false) a w.drew) : (Code.region id ops true).wp P Q a w := wp_region_any hm (wpAny_of_T _ _ _ _ (h hS))
end Go.Proofs.Ytcapddcmnjeloaa
end

section
/-
  Chapter 2, in the model: IsRatio, the lowest terms, MakeRatio.
-/
namespace Go.Proofs.Ytcapddcmnjeloaa
open Go.RowKit

/-- A ratio as a value. -/
def ratV (r : Int × Int) : Value := .agg #[.int .i64 r.1, .int .i64 r.2]

theorem sIsRat (n d : Int) (w : World) : Calls Try.prog 97 #[.agg #[.int .i64 n, .int .i64 d]] w (Gives (.bool (isRat n d)) w) := by
  by_cases h12 : 1 ≤ d ∧ d ≤ 400000000
  · obtain ⟨h1, h2⟩ := h12
    by_cases h3 : -400000000 ≤ n ∧ n ≤ 400000000
    · have E : Hid (isRat n d = (((Int.gcd n d : Nat) : Int) == 1)) := by
        show isRat n d = _
        unfold isRat IsRatP
        by_cases hg : Int.gcd n d = 1
        · simp [h1, h2, h3, hg]
        · have : (((Int.gcd n d : Nat) : Int) == 1) = false := by simp; omega
          simp [hg, this]
      obtain ⟨h3, h4⟩ := h3
      go_enter Try.func97, Try.ntmps97
      go_wp2_with (first | (go_at_call 96; refine (sIn_t _ _ _ _ (by omega) (by omega)).mono ?_; rintro e w' ⟨rfl, rfl⟩) | (go_at_call 59; refine (sIsNum_t _ _ (by omega) (by omega)).mono ?_; rintro e w' ⟨rfl, rfl⟩) | (go_at_call 120; refine (sGcd _ _ _ (by omega) (by omega)).mono ?_; rintro e w' ⟨rfl, k, rfl⟩))
      go_ret
      refine ⟨by rw [E.out]; rfl, ?_⟩
      exact below_drewN ((Below.refl _ _).alloc (Nat.le_refl _) _) _
    · have E : Hid (isRat n d = false) := by
        show isRat n d = _
        unfold isRat IsRatP
        exact decide_eq_false (fun k => h3 ⟨k.2.2.1, k.2.2.2.1⟩)
      have h3' : n < -400000000 ∨ 400000000 < n := by omega
      clear h3
      go_enter Try.func97, Try.ntmps97
      go_wp2_with (first | (go_at_call 96; refine (sIn_t _ _ _ _ (by omega) (by omega)).mono ?_; rintro e w' ⟨rfl, rfl⟩) | (go_at_call 59; refine (sIsNum_f _ _ h3').mono ?_; rintro e w' ⟨rfl, rfl⟩))
      go_ret
      exact ⟨by rw [E.out]; rfl, (Below.refl _ _).alloc (Nat.le_refl _) _⟩
  · have E : Hid (isRat n d = false) := by
      show isRat n d = _
      unfold isRat IsRatP
      exact decide_eq_false (fun k => h12 ⟨k.1, k.2.1⟩)
    have h' : d < 1 ∨ 400000000 < d := by omega
    clear h12
    go_enter Try.func97, Try.ntmps97
    go_wp2_with (go_at_call 96; refine (sIn_f _ _ _ _ h').mono ?_; rintro e w' ⟨rfl, rfl⟩)
    go_ret
    exact ⟨by rw [E.out]; rfl, (Below.refl _ _).alloc (Nat.le_refl _) _⟩

/-- The model's test at parts that are cancelled. -/
theorem sMake_pos (n d : Int) (w : World) (hn : -2000000000000000000 ≤ n ∧ n ≤ 2000000000000000000) (hd : 0 < d ∧ d ≤ 2000000000000000000) :
    Calls Try.prog 98 #[.int .i64 n, .int .i64 d] w (Gives (ratV (low n d)) w) := by
  obtain ⟨n1, n2⟩ := hn
  obtain ⟨d1, d2⟩ := hd
  have hz : (d == 0) = false := by simp; omega
  have hs : decide (d < 0) = false := by simp; omega
  go_enter Try.func98, Try.ntmps98
  go_wp2_with fail
  go_loopw [5, 6] (fun x y wr => ∃ p q : Int, x = .int .i64 p ∧ y = .int .i64 q ∧ -2000000000000000000 ≤ p ∧ p ≤ 2000000000000000000 ∧ -2000000000000000000 ≤ q ∧ q ≤ 2000000000000000000 ∧ Int.gcd p q = Int.gcd n d ∧ ∃ m, wr = (w.alloc (.cells #[.int .i64 0, .int .i64 0] 80)).drewN m) (fun _ y _ => (intOf y).natAbs)
  case atStart => exact ⟨n, d, rfl, rfl, n1, n2, by omega, d2, rfl, 0, rfl⟩
  case round =>
    obtain ⟨p, q, rfl, rfl, p1, p2, q1, q2, hg, m, rfl⟩ := hrel
    have HG := Lib.hid hg
    clear hg
    by_cases hq : q = 0
    · subst hq
      have hp := HG.out
      rw [Int.gcd_zero_right] at hp
      obtain ⟨G, hG, hG0⟩ : ∃ G : Nat, Int.gcd n d = G ∧ 0 < G := ⟨_, rfl, gcd_pos_of n d (by omega)⟩
      rw [hG] at hp
      have hg0 : ((G : Int) == 0) = false := by simp; omega
      obtain ⟨bn1, bn2⟩ := tdiv_bdw n G (by omega) (by omega)
      obtain ⟨bd1, bd2⟩ := tdiv_bdw d G (by omega) (by omega)
      have LN : Hid (lowN n d = n.tdiv G) := by show lowN n d = _; unfold lowN; rw [if_neg (by omega), hG]
      have LD : Hid (lowD n d = d.tdiv G) := by show lowD n d = _; unfold lowD; rw [if_neg (by omega), hG]
      clear hG HG
      go_wp2_with fail
      refine (sAbs p _ (by omega) (by omega)).mono ?_
      rintro e w' ⟨rfl, rfl⟩
      rw [hp]
      clear hp
      go_wp2_with fail
      go_region
      go_wp2_with fail
      refine (sIsRat _ _ _).mono ?_
      rintro e w1 ⟨rfl, hb⟩
      have K0 : Hid (Blk2 w1 w.heap.size 80 (.int .i64 0) (.int .i64 0)) := (((Blk2.at_ _ _ _ rfl).drewN _).old _).keep hb (by simp; omega)
      have K1 : Blk2 w1 (w.heap.size + 1) 80 (.int .i64 (n.tdiv G)) (.int .i64 (d.tdiv G)) := (Blk2.at_ _ _ _ (by simp)).keep hb (by simp)
      obtain ⟨C0, C1, F0, F1⟩ := K0.out.all
      obtain ⟨D0, D1, -, -⟩ := K1.all
      have B : Hid (Below w.heap.size w w1) := ((below_drewN ((Below.refl _ _).alloc (Nat.le_refl _) _) _).alloc (by simp) _).trans (hb.mono (by simp; omega))
      have R := isRat_of_fits (n := n) (d := d) (by omega)
      rw [LN.out, LD.out] at R
      rw [R]
      clear K1 hb R
      by_cases hf : Fits (n.tdiv G) (d.tdiv G)
      · have L : Hid (low n d = (n.tdiv G, d.tdiv G)) := by
          have := (low_fits (n := n) (d := d) (by omega) (by rw [LN.out, LD.out]; exact hf)).1
          rw [LN.out, LD.out] at this; exact this
        rw [decide_eq_true hf]
        clear hf
        go_wp2_with fail
        obtain ⟨E0, E1, -, -⟩ := ((K0.out.set0 (.int .i64 (n.tdiv G))).set1 (.int .i64 (d.tdiv G))).all
        refine bodyPost_ret (v := ratV (n.tdiv G, d.tdiv G)) (by simp [results, Try.results98, go_sem, E0, E1, ratV]) rfl ⟨by rw [L.out], ?_⟩
        exact (B.out.setCell (Nat.le_refl _) _).setCell (Nat.le_refl _) _
      · have L : Hid (low n d = (0, 0)) := low_none (by rw [LN.out, LD.out]; exact hf)
        rw [decide_eq_false hf]
        clear hf
        go_wp2_with fail
        obtain ⟨E0, E1, -, -⟩ := ((K0.out.set0 (.int .i64 0)).set1 (.int .i64 0)).all
        refine bodyPost_ret (v := ratV (0, 0)) (by simp [results, Try.results98, go_sem, E0, E1, ratV]) rfl ⟨by rw [L.out], ?_⟩
        exact (B.out.setCell (Nat.le_refl _) _).setCell (Nat.le_refl _) _
    · have t1 := tmod_small p q hq
      have t2 := gcd_round p q
      have b1 : -2000000000000000000 ≤ p.tmod q := by omega
      have b2 : p.tmod q ≤ 2000000000000000000 := by omega
      have T1 := Lib.hid t1
      have T2 := Lib.hid t2
      clear t1 t2
      have hq' : (q == 0) = false := by simpa using hq
      go_wp2
      go_quiet (fail)
      go_wp2
      go_roundw
      case rel => exact ⟨q, p.tmod q, rfl, rfl, q1, q2, b1, b2, T2.out.trans HG.out, _, by rw [World.drewN_drewN]⟩
      case measure => simpa [intOf] using T1.out
theorem sMake_neg (n d : Int) (w : World) (hn : -2000000000000000000 ≤ n ∧ n ≤ 2000000000000000000) (hd : 0 < d ∧ d ≤ 2000000000000000000) :
    Calls Try.prog 98 #[.int .i64 (-n), .int .i64 (-d)] w (Gives (ratV (low n d)) w) := by
  obtain ⟨n1, n2⟩ := hn
  obtain ⟨d1, d2⟩ := hd
  have hz : (-d == 0) = false := by simp; omega
  have hs : decide (-d < 0) = true := by simp; omega
  go_enter Try.func98, Try.ntmps98
  go_wp2_with fail
  go_loopw [5, 6] (fun x y wr => ∃ p q : Int, x = .int .i64 p ∧ y = .int .i64 q ∧ -2000000000000000000 ≤ p ∧ p ≤ 2000000000000000000 ∧ -2000000000000000000 ≤ q ∧ q ≤ 2000000000000000000 ∧ Int.gcd p q = Int.gcd n d ∧ ∃ m, wr = (w.alloc (.cells #[.int .i64 0, .int .i64 0] 80)).drewN m) (fun _ y _ => (intOf y).natAbs)
  case atStart => exact ⟨n, d, rfl, rfl, n1, n2, by omega, d2, rfl, 0, rfl⟩
  case round =>
    obtain ⟨p, q, rfl, rfl, p1, p2, q1, q2, hg, m, rfl⟩ := hrel
    have HG := Lib.hid hg
    clear hg
    by_cases hq : q = 0
    · subst hq
      have hp := HG.out
      rw [Int.gcd_zero_right] at hp
      obtain ⟨G, hG, hG0⟩ : ∃ G : Nat, Int.gcd n d = G ∧ 0 < G := ⟨_, rfl, gcd_pos_of n d (by omega)⟩
      rw [hG] at hp
      have hg0 : ((G : Int) == 0) = false := by simp; omega
      obtain ⟨bn1, bn2⟩ := tdiv_bdw n G (by omega) (by omega)
      obtain ⟨bd1, bd2⟩ := tdiv_bdw d G (by omega) (by omega)
      have LN : Hid (lowN n d = n.tdiv G) := by show lowN n d = _; unfold lowN; rw [if_neg (by omega), hG]
      have LD : Hid (lowD n d = d.tdiv G) := by show lowD n d = _; unfold lowD; rw [if_neg (by omega), hG]
      clear hG HG
      go_wp2_with fail
      refine (sAbs p _ (by omega) (by omega)).mono ?_
      rintro e w' ⟨rfl, rfl⟩
      rw [hp]
      clear hp
      go_wp2_with fail
      go_region
      go_wp2_with fail
      refine (sIsRat _ _ _).mono ?_
      rintro e w1 ⟨rfl, hb⟩
      have K0 : Hid (Blk2 w1 w.heap.size 80 (.int .i64 0) (.int .i64 0)) := (((Blk2.at_ _ _ _ rfl).drewN _).old _).keep hb (by simp; omega)
      have K1 : Blk2 w1 (w.heap.size + 1) 80 (.int .i64 (n.tdiv G)) (.int .i64 (d.tdiv G)) := (Blk2.at_ _ _ _ (by simp)).keep hb (by simp)
      obtain ⟨C0, C1, F0, F1⟩ := K0.out.all
      obtain ⟨D0, D1, -, -⟩ := K1.all
      have B : Hid (Below w.heap.size w w1) := ((below_drewN ((Below.refl _ _).alloc (Nat.le_refl _) _) _).alloc (by simp) _).trans (hb.mono (by simp; omega))
      have R := isRat_of_fits (n := n) (d := d) (by omega)
      rw [LN.out, LD.out] at R
      rw [R]
      clear K1 hb R
      by_cases hf : Fits (n.tdiv G) (d.tdiv G)
      · have L : Hid (low n d = (n.tdiv G, d.tdiv G)) := by
          have := (low_fits (n := n) (d := d) (by omega) (by rw [LN.out, LD.out]; exact hf)).1
          rw [LN.out, LD.out] at this; exact this
        rw [decide_eq_true hf]
        clear hf
        go_wp2_with fail
        obtain ⟨E0, E1, -, -⟩ := ((K0.out.set0 (.int .i64 (n.tdiv G))).set1 (.int .i64 (d.tdiv G))).all
        refine bodyPost_ret (v := ratV (n.tdiv G, d.tdiv G)) (by simp [results, Try.results98, go_sem, E0, E1, ratV]) rfl ⟨by rw [L.out], ?_⟩
        exact (B.out.setCell (Nat.le_refl _) _).setCell (Nat.le_refl _) _
      · have L : Hid (low n d = (0, 0)) := low_none (by rw [LN.out, LD.out]; exact hf)
        rw [decide_eq_false hf]
        clear hf
        go_wp2_with fail
        obtain ⟨E0, E1, -, -⟩ := ((K0.out.set0 (.int .i64 0)).set1 (.int .i64 0)).all
        refine bodyPost_ret (v := ratV (0, 0)) (by simp [results, Try.results98, go_sem, E0, E1, ratV]) rfl ⟨by rw [L.out], ?_⟩
        exact (B.out.setCell (Nat.le_refl _) _).setCell (Nat.le_refl _) _
    · have t1 := tmod_small p q hq
      have t2 := gcd_round p q
      have b1 : -2000000000000000000 ≤ p.tmod q := by omega
      have b2 : p.tmod q ≤ 2000000000000000000 := by omega
      have T1 := Lib.hid t1
      have T2 := Lib.hid t2
      clear t1 t2
      have hq' : (q == 0) = false := by simpa using hq
      go_wp2
      go_quiet (fail)
      go_wp2
      go_roundw
      case rel => exact ⟨q, p.tmod q, rfl, rfl, q1, q2, b1, b2, T2.out.trans HG.out, _, by rw [World.drewN_drewN]⟩
      case measure => simpa [intOf] using T1.out

theorem low_neg (n d : Int) (hd : 0 < d) : low (-n) (-d) = low n d := by
  have e1 : lowN (-n) (-d) = lowN n d := by
    unfold lowN; rw [if_pos (by omega), if_neg (by omega), Int.neg_gcd, Int.gcd_neg, Int.neg_tdiv, Int.neg_neg]
  have e2 : lowD (-n) (-d) = lowD n d := by
    unfold lowD; rw [if_pos (by omega), if_neg (by omega), Int.neg_gcd, Int.gcd_neg, Int.neg_tdiv, Int.neg_neg]
  unfold low
  rw [e1, e2, if_neg (show ¬ (-d = 0) by omega), if_neg (show ¬ (d = 0) by omega)]
theorem sMake (n d : Int) (w : World) (hn : -2000000000000000000 ≤ n ∧ n ≤ 2000000000000000000) (hd : -2000000000000000000 ≤ d ∧ d ≤ 2000000000000000000) :
    Calls Try.prog 98 #[.int .i64 n, .int .i64 d] w (Gives (ratV (low n d)) w) := by
  rcases Int.lt_trichotomy d 0 with h | h | h
  · obtain ⟨m, rfl⟩ : ∃ m, n = -m := ⟨-n, by omega⟩
    obtain ⟨e, rfl⟩ : ∃ e, d = -e := ⟨-d, by omega⟩
    rw [low_neg m e (by omega)]
    exact sMake_neg m e w (by omega) (by omega)
  · subst h
    go_enter Try.func98, Try.ntmps98
    go_wp2_with fail
    refine bodyPost_ret (v := ratV (0, 0)) (by simp [results, Try.results98, go_sem, ratV]) rfl ⟨by rw [low_zero], ?_⟩
    exact (Below.refl _ _).alloc (Nat.le_refl _) _
  · exact sMake_pos n d w hn (by omega)

theorem sMk (n d : Int) (w : World) : Calls Try.prog 71 #[.int .i64 n, .int .i64 d] w (Gives (ratV (mkRat n d)) w) := by
  by_cases hn : -400000000 ≤ n ∧ n ≤ 400000000
  · by_cases hd : -400000000 ≤ d ∧ d ≤ 400000000
    · rw [mkRat_in ⟨hn, hd⟩]
      go_enter Try.func71, Try.ntmps71
      go_wp2_with fail
      refine (sIsNum_t _ _ hn.1 hn.2).mono ?_
      rintro e w' ⟨rfl, rfl⟩
      go_wp2_with fail
      refine (sIsNum_t _ _ hd.1 hd.2).mono ?_
      rintro e w' ⟨rfl, rfl⟩
      go_wp2_with fail
      refine (sMake n d _ (by omega) (by omega)).mono ?_
      rintro e w1 ⟨rfl, hb⟩
      have K0 : Hid (Blk2 w1 w.heap.size 80 (.int .i64 0) (.int .i64 0)) := (Blk2.at_ _ _ _ rfl).keep hb (by simp)
      obtain ⟨C0, C1, F0, F1⟩ := K0.out.all
      have B : Hid (Below w.heap.size w w1) := ((Below.refl _ _).alloc (Nat.le_refl _) _).trans (hb.mono (by simp))
      clear hb
      unfold ratV
      go_wp2_with fail
      obtain ⟨E0, E1, -, -⟩ := ((K0.out.set0 (.int .i64 (low n d).1)).set1 (.int .i64 (low n d).2)).all
      refine bodyPost_ret (v := ratV (low n d)) (by simp [results, Try.results71, go_sem, E0, E1, ratV]) rfl ⟨rfl, ?_⟩
      exact (B.out.setCell (Nat.le_refl _) _).setCell (Nat.le_refl _) _
    · rw [mkRat_out (fun k => hd k.2)]
      have hd' : d < -400000000 ∨ 400000000 < d := by omega
      clear hd
      go_enter Try.func71, Try.ntmps71
      go_wp2_with fail
      refine (sIsNum_t _ _ hn.1 hn.2).mono ?_
      rintro e w' ⟨rfl, rfl⟩
      go_wp2_with fail
      refine (sIsNum_f _ _ hd').mono ?_
      rintro e w' ⟨rfl, rfl⟩
      go_wp2_with fail
      refine bodyPost_ret (v := ratV (0, 0)) (by simp [results, Try.results71, go_sem, ratV]) rfl ⟨rfl, ?_⟩
      exact (Below.refl _ _).alloc (Nat.le_refl _) _
  · rw [mkRat_out (fun k => hn k.1)]
    have hn' : n < -400000000 ∨ 400000000 < n := by omega
    clear hn
    go_enter Try.func71, Try.ntmps71
    go_wp2_with fail
    refine (sIsNum_f _ _ hn').mono ?_
    rintro e w' ⟨rfl, rfl⟩
    go_wp2_with fail
    refine bodyPost_ret (v := ratV (0, 0)) (by simp [results, Try.results71, go_sem, ratV]) rfl ⟨rfl, ?_⟩
    exact (Below.refl _ _).alloc (Nat.le_refl _) _
end Go.Proofs.Ytcapddcmnjeloaa
end

section
/-
  Chapter 2, in the program: lowest terms, MakeRatio, IsRatio.
-/
namespace Go.Proofs.Ytcapddcmnjeloaa
open Go.RowKit

set_option maxHeartbeats 400000 in
theorem iLow (n d : Int) (w : World) (hn : -2000000000000000000 ≤ n ∧ n ≤ 2000000000000000000) (hd : -2000000000000000000 ≤ d ∧ d ≤ 2000000000000000000) (hd0 : d ≠ 0) :
    Calls Try.prog 100 #[.agg #[.int .i64 n, .int .i64 d]] w (Gives (ratV (low n d)) w) := by
  have hz : (d == 0) = false := by simpa using hd0
  obtain ⟨G, hG, hG0⟩ : ∃ G : Nat, Int.gcd n d = G ∧ 0 < G := ⟨_, rfl, gcd_pos_of n d hd0⟩
  -- the divisor with the sign of d
  obtain ⟨k, hk, hk0, hk1, LN, LD⟩ : ∃ k : Int, (k = if d < 0 then -(G : Int) else G) ∧ (k == 0) = false ∧ (k ≠ 0) ∧ lowN n d = n.tdiv k ∧ lowD n d = d.tdiv k := by
    refine ⟨_, rfl, ?_, ?_, ?_, ?_⟩
    · split <;> (simp; omega)
    · split <;> omega
    · unfold lowN; rw [hG]; split <;> simp [Int.tdiv_neg]
    · unfold lowD; rw [hG]; split <;> simp [Int.tdiv_neg]
  obtain ⟨bn1, bn2⟩ := tdiv_bdw n k (by omega) (by omega)
  obtain ⟨bd1, bd2⟩ := tdiv_bdw d k (by omega) (by omega)
  have hG9 : (G : Int) ≤ 2000000000000000000 := by
    have := Int.le_of_dvd (show (0 : Int) < d.natAbs by omega) (Int.dvd_natAbs.2 (Int.gcd_dvd_right (a := n) (b := d)))
    rw [hG] at this; omega
  have HG := Lib.hid hG
  clear hG
  have L1 := Lib.hid LN
  have L2 := Lib.hid LD
  clear LN LD
  by_cases hs : d < 0
  · rw [if_pos hs] at hk
    have HK := Lib.hid hk
    have hs' : decide (d < 0) = true := by simpa using hs
    clear hk
    go_enter Try.func100, Try.ntmps100
    go_wp2_with fail
    refine (iGD n d _ (by omega) (by omega)).mono ?_
    rintro e w' ⟨rfl, m, rfl⟩
    rw [HG.out]
    go_wp2_with fail
    rw [← HK.out]
    go_quiet (fail)
    go_wp2_with fail
    by_cases h1 : -400000000 ≤ n.tdiv k ∧ n.tdiv k ≤ 400000000
    · refine (iIsNum_t _ _ h1.1 h1.2).mono ?_
      rintro e w' ⟨rfl, rfl⟩
      go_wp2_with fail
      by_cases h2 : -400000000 ≤ d.tdiv k ∧ d.tdiv k ≤ 400000000
      · have L : Hid (low n d = (n.tdiv k, d.tdiv k)) := by
          have := (low_fits (n := n) (d := d) hd0 (by rw [L1.out, L2.out]; exact ⟨h1.1, h1.2, h2.1, h2.2⟩)).1
          rw [L1.out, L2.out] at this; exact this
        refine (iIsNum_t _ _ h2.1 h2.2).mono ?_
        rintro e w' ⟨rfl, rfl⟩
        go_wp2_with fail
        refine bodyPost_ret (v := ratV (n.tdiv k, d.tdiv k)) (by simp [results, Try.results100, go_sem, ratV]) rfl ⟨by rw [L.out], ?_⟩
        repeat (first | exact Below.refl _ _ | refine below_drewN ?_ _ | refine Below.setCell ?_ (by simp) _ | refine Below.alloc ?_ (by simp) _ | (refine Below.alloc ?_ (by simp; omega) _))
      · have L : Hid (low n d = (0, 0)) := low_none (by rw [L1.out, L2.out]; exact fun k => h2 ⟨k.2.2.1, k.2.2.2⟩)
        refine (iIsNum_f _ _ (by omega)).mono ?_
        rintro e w' ⟨rfl, rfl⟩
        clear h2
        go_wp2_with fail
        refine bodyPost_ret (v := ratV (0, 0)) (by simp [results, Try.results100, go_sem, ratV]) rfl ⟨by rw [L.out], ?_⟩
        repeat (first | exact Below.refl _ _ | refine below_drewN ?_ _ | refine Below.setCell ?_ (by simp) _ | refine Below.alloc ?_ (by simp) _ | (refine Below.alloc ?_ (by simp; omega) _))
    · have L : Hid (low n d = (0, 0)) := low_none (by rw [L1.out, L2.out]; exact fun k => h1 ⟨k.1, k.2.1⟩)
      refine (iIsNum_f _ _ (by omega)).mono ?_
      rintro e w' ⟨rfl, rfl⟩
      clear h1
      go_wp2_with fail
      refine bodyPost_ret (v := ratV (0, 0)) (by simp [results, Try.results100, go_sem, ratV]) rfl ⟨by rw [L.out], ?_⟩
      repeat (first | exact Below.refl _ _ | refine below_drewN ?_ _ | refine Below.setCell ?_ (by simp) _ | refine Below.alloc ?_ (by simp) _ | (refine Below.alloc ?_ (by simp; omega) _))
  · rw [if_neg hs] at hk
    have HK := Lib.hid hk
    have hs' : decide (d < 0) = false := by simpa using hs
    clear hk
    go_enter Try.func100, Try.ntmps100
    go_wp2_with fail
    refine (iGD n d _ (by omega) (by omega)).mono ?_
    rintro e w' ⟨rfl, m, rfl⟩
    rw [HG.out]
    go_wp2_with fail
    rw [← HK.out]
    go_quiet (fail)
    go_wp2_with fail
    by_cases h1 : -400000000 ≤ n.tdiv k ∧ n.tdiv k ≤ 400000000
    · refine (iIsNum_t _ _ h1.1 h1.2).mono ?_
      rintro e w' ⟨rfl, rfl⟩
      go_wp2_with fail
      by_cases h2 : -400000000 ≤ d.tdiv k ∧ d.tdiv k ≤ 400000000
      · have L : Hid (low n d = (n.tdiv k, d.tdiv k)) := by
          have := (low_fits (n := n) (d := d) hd0 (by rw [L1.out, L2.out]; exact ⟨h1.1, h1.2, h2.1, h2.2⟩)).1
          rw [L1.out, L2.out] at this; exact this
        refine (iIsNum_t _ _ h2.1 h2.2).mono ?_
        rintro e w' ⟨rfl, rfl⟩
        go_wp2_with fail
        refine bodyPost_ret (v := ratV (n.tdiv k, d.tdiv k)) (by simp [results, Try.results100, go_sem, ratV]) rfl ⟨by rw [L.out], ?_⟩
        repeat (first | exact Below.refl _ _ | refine below_drewN ?_ _ | refine Below.setCell ?_ (by simp) _ | refine Below.alloc ?_ (by simp) _ | (refine Below.alloc ?_ (by simp; omega) _))
      · have L : Hid (low n d = (0, 0)) := low_none (by rw [L1.out, L2.out]; exact fun k => h2 ⟨k.2.2.1, k.2.2.2⟩)
        refine (iIsNum_f _ _ (by omega)).mono ?_
        rintro e w' ⟨rfl, rfl⟩
        clear h2
        go_wp2_with fail
        refine bodyPost_ret (v := ratV (0, 0)) (by simp [results, Try.results100, go_sem, ratV]) rfl ⟨by rw [L.out], ?_⟩
        repeat (first | exact Below.refl _ _ | refine below_drewN ?_ _ | refine Below.setCell ?_ (by simp) _ | refine Below.alloc ?_ (by simp) _ | (refine Below.alloc ?_ (by simp; omega) _))
    · have L : Hid (low n d = (0, 0)) := low_none (by rw [L1.out, L2.out]; exact fun k => h1 ⟨k.1, k.2.1⟩)
      refine (iIsNum_f _ _ (by omega)).mono ?_
      rintro e w' ⟨rfl, rfl⟩
      clear h1
      go_wp2_with fail
      refine bodyPost_ret (v := ratV (0, 0)) (by simp [results, Try.results100, go_sem, ratV]) rfl ⟨by rw [L.out], ?_⟩
      repeat (first | exact Below.refl _ _ | refine below_drewN ?_ _ | refine Below.setCell ?_ (by simp) _ | refine Below.alloc ?_ (by simp) _ | (refine Below.alloc ?_ (by simp; omega) _))
end Go.Proofs.Ytcapddcmnjeloaa
end

section
/-
  Chapter 2, in the program: MakeRatio, IsRatio.
-/
namespace Go.Proofs.Ytcapddcmnjeloaa
open Go.RowKit

theorem iLow0 (n : Int) (w : World) :
    Calls Try.prog 100 #[.agg #[.int .i64 n, .int .i64 0]] w (Gives (ratV (low n 0)) w) := by
  go_enter Try.func100, Try.ntmps100
  go_wp2_with fail
  refine bodyPost_ret (v := ratV (0, 0)) (by simp [results, Try.results100, go_sem, ratV]) rfl ⟨by rw [low_zero], ?_⟩
  exact ((Below.refl _ _).alloc (Nat.le_refl _) _).alloc (by simp) _
theorem iLowA (n d : Int) (w : World) (hn : -2000000000000000000 ≤ n ∧ n ≤ 2000000000000000000) (hd : -2000000000000000000 ≤ d ∧ d ≤ 2000000000000000000) :
    Calls Try.prog 100 #[.agg #[.int .i64 n, .int .i64 d]] w (Gives (ratV (low n d)) w) := by
  by_cases h : d = 0
  · subst h; exact iLow0 n w
  · exact iLow n d w hn hd h

theorem iMk (n d : Int) (w : World) : Calls Try.prog 106 #[.int .i64 n, .int .i64 d] w (Gives (ratV (mkRat n d)) w) := by
  by_cases hn : -400000000 ≤ n ∧ n ≤ 400000000
  · by_cases hd : -400000000 ≤ d ∧ d ≤ 400000000
    · rw [mkRat_in ⟨hn, hd⟩]
      go_enter Try.func106, Try.ntmps106
      go_wp2_with fail
      refine (iIsNum_t _ _ hn.1 hn.2).mono ?_
      rintro e w' ⟨rfl, rfl⟩
      go_wp2_with fail
      refine (iIsNum_t _ _ hd.1 hd.2).mono ?_
      rintro e w' ⟨rfl, rfl⟩
      go_wp2_with fail
      refine (iLowA n d _ (by omega) (by omega)).mono ?_
      rintro e w1 ⟨rfl, hb⟩
      have K0 : Hid (Blk2 w1 w.heap.size 80 (.int .i64 0) (.int .i64 0)) := (Blk2.at_ _ _ _ rfl).keep hb (by simp)
      obtain ⟨C0, C1, F0, F1⟩ := K0.out.all
      have B : Hid (Below w.heap.size w w1) := ((Below.refl _ _).alloc (Nat.le_refl _) _).trans (hb.mono (by simp))
      clear hb
      unfold ratV
      go_wp2_with fail
      obtain ⟨E0, E1, -, -⟩ := ((K0.out.set0 (.int .i64 (low n d).1)).set1 (.int .i64 (low n d).2)).all
      refine bodyPost_ret (v := ratV (low n d)) (by simp [results, Try.results106, go_sem, E0, E1, ratV]) rfl ⟨rfl, ?_⟩
      exact (B.out.setCell (Nat.le_refl _) _).setCell (Nat.le_refl _) _
    · rw [mkRat_out (fun k => hd k.2)]
      have hd' : d < -400000000 ∨ 400000000 < d := by omega
      clear hd
      go_enter Try.func106, Try.ntmps106
      go_wp2_with fail
      refine (iIsNum_t _ _ hn.1 hn.2).mono ?_
      rintro e w' ⟨rfl, rfl⟩
      go_wp2_with fail
      refine (iIsNum_f _ _ hd').mono ?_
      rintro e w' ⟨rfl, rfl⟩
      go_wp2_with fail
      refine bodyPost_ret (v := ratV (0, 0)) (by simp [results, Try.results106, go_sem, ratV]) rfl ⟨rfl, ?_⟩
      exact (Below.refl _ _).alloc (Nat.le_refl _) _
  · rw [mkRat_out (fun k => hn k.1)]
    have hn' : n < -400000000 ∨ 400000000 < n := by omega
    clear hn
    go_enter Try.func106, Try.ntmps106
    go_wp2_with fail
    refine (iIsNum_f _ _ hn').mono ?_
    rintro e w' ⟨rfl, rfl⟩
    go_wp2_with fail
    refine bodyPost_ret (v := ratV (0, 0)) (by simp [results, Try.results106, go_sem, ratV]) rfl ⟨rfl, ?_⟩
    exact (Below.refl _ _).alloc (Nat.le_refl _) _

/-- Two ratios compared. -/
theorem eqRat (n d a b : Int) (w : World) : (Op.equalIn 10000 80 (.agg #[.int .i64 n, .int .i64 d]) (.agg #[.int .i64 a, .int .i64 b])).run Try.prog w = .ok (n == a && d == b) w := by
  by_cases h1 : n = a
  · subst h1
    by_cases h2 : d = b
    · subst h2
      simp [go_sem]
    · have h2' : (d == b) = false := by simpa using h2
      simp [go_sem, h2']
  · have h1' : (n == a) = false := by simpa using h1
    simp [go_sem, h1']

theorem isRat_beq (n d : Int) (h : ¬ (n = 0 ∧ d = 0)) : (n == (mkRat n d).1 && d == (mkRat n d).2) = isRat n d := by
  rw [isRat_mk n d h]
  generalize mkRat n d = r
  obtain ⟨p, q⟩ := r
  rw [Bool.eq_iff_iff]
  simp only [Bool.and_eq_true, beq_iff_eq, decide_eq_true_eq, Prod.mk.injEq]
  exact ⟨fun h => ⟨h.1.symm, h.2.symm⟩, fun h => ⟨h.1.symm, h.2.symm⟩⟩

set_option maxHeartbeats 2000000 in
theorem iIsRat (n d : Int) (w : World) : Calls Try.prog 99 #[.agg #[.int .i64 n, .int .i64 d]] w (Gives (.bool (isRat n d)) w) := by
  by_cases h0 : n = 0 ∧ d = 0
  · obtain ⟨rfl, rfl⟩ := h0
    have E : Hid (isRat 0 0 = false) := decide_eq_false not_isRat_zero
    go_enter Try.func99, Try.ntmps99
    go_wp2_with fail
    go_quiet (fail)
    go_wp2_with fail
    go_ret
    exact ⟨by rw [E.out]; rfl, below_drewN ((Below.refl _ _).alloc (Nat.le_refl _) _) _⟩
  · have q1 : ∀ w : World, (Op.equalIn 10000 80 (.agg #[.int .i64 n, .int .i64 d]) (.agg #[.int .i64 0, .int .i64 0])).run Try.prog w = .ok false w := fun w => by
      rw [eqRat, show (n == 0 && d == 0) = false by simp; omega]
    have q2 : ∀ w : World, (Op.equalIn 10000 80 (.agg #[.int .i64 n, .int .i64 d]) (.agg #[.int .i64 (mkRat n d).1, .int .i64 (mkRat n d).2])).run Try.prog w = .ok (isRat n d) w := fun w => by
      rw [eqRat, isRat_beq n d h0]
    clear h0
    go_enter Try.func99, Try.ntmps99
    go_wp2_with fail
    go_region_with (go_at_call 106; refine (iMk _ _ _).mono ?_; rintro e w1 ⟨rfl, hb⟩; obtain ⟨C0, C1, -, -⟩ := (Blk2.keep (b := w.heap.size) (t := 80) (p := .int .i64 n) (q := .int .i64 d) (by first | exact Blk2.at_ _ _ _ rfl | exact (Blk2.at_ _ _ _ rfl).drewN _ | exact (Blk2.at_ _ _ _ rfl).drew) hb (by simp)).all; unfold ratV)
    all_goals
      go_wp2_with fail
      go_ret
      refine ⟨rfl, ?_⟩
      have B : Below w.heap.size w w1 := Below.trans (by repeat (first | exact Below.refl _ _ | refine below_drewN ?_ _ | refine Below.drew ?_ | refine Below.alloc ?_ (by simp) _)) (hb.mono (by simp))
      exact B
end Go.Proofs.Ytcapddcmnjeloaa
end

section
/-
  Chapter 2, the laws' own helpers: a ratio carried over, two ratios held against each other.
-/
namespace Go.Proofs.Ytcapddcmnjeloaa
open Go.RowKit

theorem toRat (a b : Int) (w : World) : Calls Try.prog 64 #[.agg #[.int .i64 a, .int .i64 b]] w (Gives (.agg #[.int .i64 a, .int .i64 b]) w) := by
  go_enter Try.func64, Try.ntmps64
  go_wp2
  refine bodyPost_ret (v := .agg #[.int .i64 a, .int .i64 b]) (by simp [results, Try.results64, go_sem]) rfl ⟨rfl, ?_⟩
  repeat (first | exact Below.refl _ _ | refine Below.alloc ?_ (by simp <;> omega) _ | refine Below.setCell ?_ (by simp <;> omega) _)
theorem eqRat_t (a b : Int) (w : World) : Calls Try.prog 67 #[.agg #[.int .i64 a, .int .i64 b], .agg #[.int .i64 a, .int .i64 b]] w (Gives (.bool true) w) := by
  go_enter Try.func67, Try.ntmps67
  go_wp2
  go_ret
  exact ⟨rfl, ((Below.refl _ _).alloc (Nat.le_refl _) _).alloc (by simp) _⟩
/-- A cell stays. -/
theorem cellKeep {w w1 : World} {b o : Nat} {v : Value} (hb : Below w.heap.size w w1) (h : w.cell? ⟨b, o, none⟩ = some v) : w1.cell? ⟨b, o, none⟩ = some v :=
  (hb.cell (p := ⟨b, o, none⟩) (World.block_lt_of_cell? w _ h)).trans h
theorem cellLt {w : World} {b o : Nat} {v : Value} (h : w.cell? ⟨b, o, none⟩ = some v) : b < w.heap.size := World.block_lt_of_cell? w _ h
theorem keep4 {w w1 : World} {b c : Nat} {p q r s : Value} (hb : Below w.heap.size w w1)
    (h : w.cell? ⟨b, 0, none⟩ = some p ∧ w.cell? ⟨b, 1, none⟩ = some q ∧ w.cell? ⟨c, 0, none⟩ = some r ∧ w.cell? ⟨c, 1, none⟩ = some s) :
    w1.cell? ⟨b, 0, none⟩ = some p ∧ w1.cell? ⟨b, 1, none⟩ = some q ∧ w1.cell? ⟨c, 0, none⟩ = some r ∧ w1.cell? ⟨c, 1, none⟩ = some s :=
  ⟨cellKeep hb h.1, cellKeep hb h.2.1, cellKeep hb h.2.2.1, cellKeep hb h.2.2.2⟩
theorem keep2 {w w1 : World} {b : Nat} {p q : Value} (hb : Below w.heap.size w w1)
    (h : w.cell? ⟨b, 0, none⟩ = some p ∧ w.cell? ⟨b, 1, none⟩ = some q) : w1.cell? ⟨b, 0, none⟩ = some p ∧ w1.cell? ⟨b, 1, none⟩ = some q :=
  ⟨cellKeep hb h.1, cellKeep hb h.2⟩
theorem cellNew {w : World} {b o : Nat} {v : Value} (A B : Obj) (hb : b < w.heap.size) (h : (w.alloc A).cell? ⟨b, o, none⟩ = some v) : (w.alloc B).cell? ⟨b, o, none⟩ = some v := by
  have e : ∀ O : Obj, (w.alloc O).cell? ⟨b, o, none⟩ = w.cell? ⟨b, o, none⟩ := fun O => ((Below.refl w.heap.size w).alloc (Nat.le_refl _) O).cell (p := ⟨b, o, none⟩) hb
  rw [e] at h ⊢; exact h
theorem cellFar {w : World} {b o g i : Nat} {v : Value} (u : Value) (hb : b < g) (h : w.cell? ⟨b, o, none⟩ = some v) : (w.setCell ⟨g, i, none⟩ u).cell? ⟨b, o, none⟩ = some v :=
  (((Below.refl g w).setCell (Nat.le_refl _) u).cell (p := ⟨b, o, none⟩) hb).trans h
theorem keep4n {w : World} {A B : Obj} {b c : Nat} {p q r s : Value} (hb : b < w.heap.size) (hc : c < w.heap.size)
    (h : (w.alloc A).cell? ⟨b, 0, none⟩ = some p ∧ (w.alloc A).cell? ⟨b, 1, none⟩ = some q ∧ (w.alloc A).cell? ⟨c, 0, none⟩ = some r ∧ (w.alloc A).cell? ⟨c, 1, none⟩ = some s) :
    (w.alloc B).cell? ⟨b, 0, none⟩ = some p ∧ (w.alloc B).cell? ⟨b, 1, none⟩ = some q ∧ (w.alloc B).cell? ⟨c, 0, none⟩ = some r ∧ (w.alloc B).cell? ⟨c, 1, none⟩ = some s :=
  ⟨cellNew A B hb h.1, cellNew A B hb h.2.1, cellNew A B hc h.2.2.1, cellNew A B hc h.2.2.2⟩
theorem keep4s {w : World} {g b c : Nat} {x y p q r s : Value} (hb : b < g) (hc : c < g)
    (h : w.cell? ⟨b, 0, none⟩ = some p ∧ w.cell? ⟨b, 1, none⟩ = some q ∧ w.cell? ⟨c, 0, none⟩ = some r ∧ w.cell? ⟨c, 1, none⟩ = some s) :
    ((w.setCell ⟨g, 0, none⟩ x).setCell ⟨g, 1, none⟩ y).cell? ⟨b, 0, none⟩ = some p ∧ ((w.setCell ⟨g, 0, none⟩ x).setCell ⟨g, 1, none⟩ y).cell? ⟨b, 1, none⟩ = some q ∧
      ((w.setCell ⟨g, 0, none⟩ x).setCell ⟨g, 1, none⟩ y).cell? ⟨c, 0, none⟩ = some r ∧ ((w.setCell ⟨g, 0, none⟩ x).setCell ⟨g, 1, none⟩ y).cell? ⟨c, 1, none⟩ = some s :=
  ⟨cellFar y hb (cellFar x hb h.1), cellFar y hb (cellFar x hb h.2.1), cellFar y hc (cellFar x hc h.2.2.1), cellFar y hc (cellFar x hc h.2.2.2)⟩
theorem keep2n {w : World} {A B : Obj} {b : Nat} {p q : Value} (hb : b < w.heap.size) (h : (w.alloc A).cell? ⟨b, 0, none⟩ = some p ∧ (w.alloc A).cell? ⟨b, 1, none⟩ = some q) :
    (w.alloc B).cell? ⟨b, 0, none⟩ = some p ∧ (w.alloc B).cell? ⟨b, 1, none⟩ = some q := ⟨cellNew A B hb h.1, cellNew A B hb h.2⟩
theorem keep2s {w : World} {g b : Nat} {x y p q : Value} (hb : b < g) (h : w.cell? ⟨b, 0, none⟩ = some p ∧ w.cell? ⟨b, 1, none⟩ = some q) :
    ((w.setCell ⟨g, 0, none⟩ x).setCell ⟨g, 1, none⟩ y).cell? ⟨b, 0, none⟩ = some p ∧ ((w.setCell ⟨g, 0, none⟩ x).setCell ⟨g, 1, none⟩ y).cell? ⟨b, 1, none⟩ = some q :=
  ⟨cellFar y hb (cellFar x hb h.1), cellFar y hb (cellFar x hb h.2)⟩
theorem fin4 {w W0 wx : World} {b c g : Nat} {L T : TypeId} {p q r s x y : Value} (A0 : Blk2 W0 b L p q) (A1 : Blk2 W0 c L r s) (B0 : Below w.heap.size w W0) (B : Below W0.heap.size W0 wx) (K : Blk2 wx g T x y) :
    Blk2 wx b L p q ∧ Blk2 wx c L r s ∧ Blk2 wx g T x y ∧ Below w.heap.size w wx := ⟨A0.keep B A0.lt, A1.keep B A1.lt, K, B0.trans (B.mono B0.size)⟩
theorem fin2 {w W0 wx : World} {b g : Nat} {L T : TypeId} {p q x y : Value} (A0 : Blk2 W0 b L p q) (B0 : Below w.heap.size w W0) (B : Below W0.heap.size W0 wx) (K : Blk2 wx g T x y) :
    Blk2 wx b L p q ∧ Blk2 wx g T x y ∧ Below w.heap.size w wx := ⟨A0.keep B A0.lt, K, B0.trans (B.mono B0.size)⟩
theorem finT {w W0 wx : World} {h g : Nat} {T : TypeId} {p q x y : Value} (A0 : Blk2 W0 g T p q) (B0 : Below w.heap.size w W0) (B : Below W0.heap.size W0 wx) (K : Blk2 wx h T x y) :
    Blk2 wx g T p q ∧ Blk2 wx h T x y ∧ Below w.heap.size w wx := ⟨A0.keep B A0.lt, K, B0.trans (B.mono B0.size)⟩
theorem keep6 {w w1 : World} {b c d : Nat} {p q r s t u : Value} (hb : Below w.heap.size w w1)
    (h : w.cell? ⟨b, 0, none⟩ = some p ∧ w.cell? ⟨b, 1, none⟩ = some q ∧ w.cell? ⟨c, 0, none⟩ = some r ∧ w.cell? ⟨c, 1, none⟩ = some s ∧ w.cell? ⟨d, 0, none⟩ = some t ∧ w.cell? ⟨d, 1, none⟩ = some u) :
    w1.cell? ⟨b, 0, none⟩ = some p ∧ w1.cell? ⟨b, 1, none⟩ = some q ∧ w1.cell? ⟨c, 0, none⟩ = some r ∧ w1.cell? ⟨c, 1, none⟩ = some s ∧ w1.cell? ⟨d, 0, none⟩ = some t ∧ w1.cell? ⟨d, 1, none⟩ = some u :=
  ⟨cellKeep hb h.1, cellKeep hb h.2.1, cellKeep hb h.2.2.1, cellKeep hb h.2.2.2.1, cellKeep hb h.2.2.2.2.1, cellKeep hb h.2.2.2.2.2⟩
theorem keep8 {w w1 : World} {b c d e : Nat} {p q r s t u x y : Value} (hb : Below w.heap.size w w1)
    (h : w.cell? ⟨b, 0, none⟩ = some p ∧ w.cell? ⟨b, 1, none⟩ = some q ∧ w.cell? ⟨c, 0, none⟩ = some r ∧ w.cell? ⟨c, 1, none⟩ = some s ∧ w.cell? ⟨d, 0, none⟩ = some t ∧ w.cell? ⟨d, 1, none⟩ = some u ∧ w.cell? ⟨e, 0, none⟩ = some x ∧ w.cell? ⟨e, 1, none⟩ = some y) :
    w1.cell? ⟨b, 0, none⟩ = some p ∧ w1.cell? ⟨b, 1, none⟩ = some q ∧ w1.cell? ⟨c, 0, none⟩ = some r ∧ w1.cell? ⟨c, 1, none⟩ = some s ∧ w1.cell? ⟨d, 0, none⟩ = some t ∧ w1.cell? ⟨d, 1, none⟩ = some u ∧ w1.cell? ⟨e, 0, none⟩ = some x ∧ w1.cell? ⟨e, 1, none⟩ = some y :=
  ⟨cellKeep hb h.1, cellKeep hb h.2.1, cellKeep hb h.2.2.1, cellKeep hb h.2.2.2.1, cellKeep hb h.2.2.2.2.1, cellKeep hb h.2.2.2.2.2.1, cellKeep hb h.2.2.2.2.2.2.1, cellKeep hb h.2.2.2.2.2.2.2⟩
/-- Four ratios lie in four blocks. -/
def Four (w : World) (T : TypeId) (b c d e : Nat) (p q r s x y u v : Int) : Prop := Blk2 w b T (.int .i64 p) (.int .i64 q) ∧ Blk2 w c T (.int .i64 r) (.int .i64 s) ∧ Blk2 w d T (.int .i64 x) (.int .i64 y) ∧ Blk2 w e T (.int .i64 u) (.int .i64 v)
theorem Four.keep {w w1 : World} {T : TypeId} {b c d e : Nat} {p q r s x y u v : Int} (h : Four w T b c d e p q r s x y u v) (hb : Below w.heap.size w w1) : Four w1 T b c d e p q r s x y u v :=
  ⟨h.1.keep hb h.1.lt, h.2.1.keep hb h.2.1.lt, h.2.2.1.keep hb h.2.2.1.lt, h.2.2.2.keep hb h.2.2.2.lt⟩
theorem Four.cells {w : World} {T : TypeId} {b c d e : Nat} {p q r s x y u v : Int} (h : Four w T b c d e p q r s x y u v) :
    w.cell? ⟨b, 0, none⟩ = some (.int .i64 p) ∧ w.cell? ⟨b, 1, none⟩ = some (.int .i64 q) ∧ w.cell? ⟨c, 0, none⟩ = some (.int .i64 r) ∧ w.cell? ⟨c, 1, none⟩ = some (.int .i64 s) ∧ w.cell? ⟨d, 0, none⟩ = some (.int .i64 x) ∧ w.cell? ⟨d, 1, none⟩ = some (.int .i64 y) ∧
      w.cell? ⟨e, 0, none⟩ = some (.int .i64 u) ∧ w.cell? ⟨e, 1, none⟩ = some (.int .i64 v) :=
  ⟨h.1.cell0, h.1.cell1, h.2.1.cell0, h.2.1.cell1, h.2.2.1.cell0, h.2.2.1.cell1, h.2.2.2.cell0, h.2.2.2.cell1⟩
theorem fourEnd {w W wx : World} {T : TypeId} {b c d e : Nat} {p q r s x y u v : Int} (h : Four W T b c d e p q r s x y u v) (B : Below w.heap.size w W) (hb : Below W.heap.size W wx) :
    Four wx T b c d e p q r s x y u v ∧ Below w.heap.size w wx := ⟨h.keep hb, B.trans (hb.mono B.size)⟩
end Go.Proofs.Ytcapddcmnjeloaa
end

section
/-
  The laws' own helpers for lists of ratios.
-/
namespace Go.Proofs.Ytcapddcmnjeloaa
open Go.RowKit

theorem stepBq {B : Nat} {w w1 w2 : World} (h : Below B w w1) (hb : Below w1.heap.size w1 w2) (hB : B ≤ w1.heap.size) : Below B w w2 := h.trans (hb.mono hB)
theorem szQ (a : Option Addr) (n cap : Nat) (l : Int) (w : World) (hn : (n : Int) ≤ l) (hl : l ≤ 1048576) :
    Calls Try.prog 27 #[.slice a n cap, .int .i64 l] w (Gives (.int .i64 (l - n)) w) := by
  go_enter Try.func27, Try.ntmps27
  go_wp2_with fail
  go_ret
  exact ⟨rfl, Below.refl _ _⟩
theorem szQ_f (a : Option Addr) (n cap : Nat) (l : Int) (w : World) (hn : l < (n : Int)) (h0 : 0 ≤ l) (hm : n ≤ 9223372036854775807) :
    Calls Try.prog 27 #[.slice a n cap, .int .i64 l] w (Gives (.int .i64 (-1)) w) := by
  go_enter Try.func27, Try.ntmps27
  go_wp2_with fail
  go_ret
  exact ⟨rfl, Below.refl _ _⟩
theorem makeQs (n : Nat) (h : n ≤ 4194304) (w : World) : (Instr.makeSlice 49 (.int .i64 (n : Int)) (.int .i64 (n : Int))).run Try.prog w = .ok (.slice (some ⟨w.heap.size, 0, none⟩) n n) (w.alloc (.cells (madeCells #[.int .i64 0, .int .i64 0] (n * 2)) 80)) := by
  obtain ⟨fi, hfi, hz0, hz1, hz2⟩ := facts_rat
  have := run_makeSlice (P := Try.prog) (w := w) 49 80 fi _ underlying_rats hfi hz0 .i64 .i64 (n : Int) (n : Int) (by omega) (by omega) (by rw [hz1]; omega) (by rw [hz2]; omega) (by omega)
  rw [hz1] at this
  simpa [Value.cells] using this
theorem set_stepQ (l : List (Int × Int)) (k : Nat) (hk : k < l.length) : (l.take k ++ List.replicate (l.length - k) (0, 0)).set k (l.getD k (0, 0)) = l.take (k + 1) ++ List.replicate (l.length - (k + 1)) (0, 0) := by
  apply List.ext_getElem (by simp; omega)
  intro i h1 h2
  simp only [List.getElem_set, List.getElem_append, List.length_take, List.getElem_take, List.getElem_replicate]
  by_cases e : k = i
  · subst e
    rw [if_pos rfl, dif_pos (by omega)]
    simp [List.getD, hk]
  · rw [if_neg e]
    by_cases e2 : i < k
    · rw [dif_pos (by omega), dif_pos (by omega)]
    · rw [dif_neg (by omega), dif_neg (by omega)]
theorem mid_zeroQ (l : List (Int × Int)) (m k : Nat) (hk : k ≤ l.length) : (l.take k ++ List.replicate m (0, 0)).getD k (0, 0) = (0, 0) := by
  unfold List.getD
  rw [List.getElem?_append_right (by simp <;> omega)]
  simp only [List.length_take, List.getElem?_replicate]
  split <;> rfl
set_option maxRecDepth 100000 in
set_option maxHeartbeats 4000000 in
theorem toQS (a : Option Addr) (cap : Nat) (l : List (Int × Int)) (w : World) (h : RdQ w a l) (hn : l.length ≤ 1048576) :
    Calls Try.prog 29 #[.slice a l.length cap] w fun e w' => e = .returned (.slice (some ⟨w.heap.size, 0, none⟩) l.length l.length) ∧ QsB w' w.heap.size l ∧ Below w.heap.size w w' := by
  have hmk := makeQs l.length (by omega)
  have H := Lib.hid h
  clear h
  obtain ⟨n, hnn⟩ : ∃ n, l.length = n := ⟨_, rfl⟩
  rw [hnn] at hn hmk ⊢
  have HN := Lib.hid hnn
  clear hnn
  go_enter Try.func29, Try.ntmps29
  go_wp2_with fail
  go_loopw [4] (fun i wr => ∃ k : Nat, i = .int .i64 k ∧ k ≤ n ∧ QsB wr w.heap.size (l.take k ++ List.replicate (n - k) (0, 0)) ∧ Below w.heap.size w wr) (fun i _ => n - (intOf i).toNat)
  case atStart => exact ⟨0, rfl, by omega, by simpa using QsB.made n rfl, (Below.refl _ _).alloc (Nat.le_refl _) _⟩
  case round =>
    obtain ⟨k, rfl, hk, hi, hb⟩ := hrel
    have I := Lib.hid hi
    have B := Lib.hid hb
    clear hi hb
    by_cases hlt : k < n
    · have HQ : Hid (k < l.length) := by show k < l.length; rw [HN.out]; exact hlt
      obtain ⟨b2, o2, rfl, hlt2, c0, c1⟩ := (H.out.below B.out) k HQ.out
      have KL : Hid (k < (l.take k ++ List.replicate (n - k) (0, 0)).length) := by show k < _; have := HQ.out; simp; omega
      obtain ⟨u, hu⟩ : ∃ u, l.getD k (0, 0) = u := ⟨_, rfl⟩
      rw [hu] at c0 c1
      have ST : Hid ((l.take k ++ List.replicate (n - k) (0, 0)).set k u = l.take (k + 1) ++ List.replicate (n - (k + 1)) (0, 0)) := by
        have S := set_stepQ l k HQ.out
        rw [HN.out, hu] at S
        exact S
      clear hu
      go_wp2_with (go_at_call 64; refine (toRat u.1 u.2 _).mono ?_; rintro e w1 ⟨rfl, hb1⟩; have I1 := Lib.hid (I.out.keep hb1 I.out.lt); have B1 := Lib.hid (stepBq B.out hb1 B.out.size); obtain ⟨d0, d1⟩ := I1.out.cells KL.out; have f0 := I1.out.free (k * 2); have f1 := I1.out.free (k * 2 + 1); clear hb1)
      go_roundw
      case rel =>
        refine ⟨k + 1, by go_num, by omega, ?_, ?_⟩
        · rw [← ST.out]
          exact I1.out.set KL.out u
        · exact (B1.out.setCell (Nat.le_refl _) _).setCell (Nat.le_refl _) _
      case measure => simp [intOf]; omega
    · have hkn : k = n := by omega
      subst hkn
      have e : l.take k ++ List.replicate (k - k) (0, 0) = l := by rw [← HN.out]; simp
      go_wp2_with fail
      go_ret
      exact ⟨rfl, by rw [← e]; exact I.out, B.out⟩
theorem qsF2 {w w' : World} {b2 o2 b3 o3 q : Nat} {l : List (Int × Int)} {u : Int × Int} (h : RdQ w (some ⟨b2, o2, none⟩) l) (h' : RdQ w (some ⟨b3, o3, none⟩) l) (hq : q < l.length) (hu : l.getD q (0, 0) = u) (hb : Below w.heap.size w w') :
    w'.cell? ⟨b2, o2 + q * 2, none⟩ = some (.int .i64 u.1) ∧ w'.cell? ⟨b2, o2 + q * 2 + 1, none⟩ = some (.int .i64 u.2) ∧ w'.cell? ⟨b3, o3 + q * 2, none⟩ = some (.int .i64 u.1) ∧ w'.cell? ⟨b3, o3 + q * 2 + 1, none⟩ = some (.int .i64 u.2) := by
  subst hu
  obtain ⟨b4, o4, e, -, h0, h1⟩ := (h.below hb) q hq
  simp only [Option.some.injEq, Addr.mk.injEq] at e
  obtain ⟨rfl, rfl, -⟩ := e
  obtain ⟨b4, o4, e, -, k0, k1⟩ := (h'.below hb) q hq
  simp only [Option.some.injEq, Addr.mk.injEq] at e
  obtain ⟨rfl, rfl, -⟩ := e
  exact ⟨h0, h1, k0, k1⟩
set_option maxRecDepth 100000 in
set_option maxHeartbeats 4000000 in
theorem eqQS (a b : Option Addr) (c d : Nat) (l : List (Int × Int)) (w : World) (h : RdQ w a l) (h' : RdQ w b l) (hn : l.length ≤ 16777216) :
    Calls Try.prog 31 #[.slice a l.length c, .slice b l.length d] w (Gives (.bool true) w) := by
  have H := Lib.hid h
  have H' := Lib.hid h'
  clear h h'
  obtain ⟨n, hnn⟩ : ∃ n, l.length = n := ⟨_, rfl⟩
  rw [hnn] at hn ⊢
  have HN := Lib.hid hnn
  clear hnn
  go_enter Try.func31, Try.ntmps31
  go_wp2_with fail
  go_loopw [5] (fun i wr => ∃ k : Nat, i = .int .i64 k ∧ k ≤ n ∧ Below w.heap.size w wr) (fun i _ => n - (intOf i).toNat)
  case atStart => exact ⟨0, rfl, by omega, Below.refl _ _⟩
  case round =>
    obtain ⟨k, rfl, hk, hb⟩ := hrel
    have B := Lib.hid hb
    clear hb
    by_cases hlt : k < n
    · have HQ : Hid (k < l.length) := by show k < l.length; rw [HN.out]; exact hlt
      obtain ⟨b2, o2, rfl, -, -⟩ := H.out k HQ.out
      obtain ⟨b3, o3, rfl, -, -⟩ := H'.out k HQ.out
      have R2 := Lib.hid (H.out.below B.out)
      have R3 := Lib.hid (H'.out.below B.out)
      obtain ⟨u, hu⟩ : ∃ u, l.getD k (0, 0) = u := ⟨_, rfl⟩
      have HU := Lib.hid hu
      clear hu
      go_upto_region 6 with fail
      refine wp_region_held_drew (S := fun w' => Below wr.heap.size wr w') (by kernel_rfl) (Below.refl _ _).drew (fun hH => ?_)
      refine wpAnyH_take (i := 0) (v := ?_) (by simp only [List.getElem?_toArray, List.getElem?_cons_zero]; rfl) (by kernel_rfl) (by kernel_rfl) (by kernel_rfl) (by exact fun _ _ _ h => h) (Or.inl ⟨by rfl, ?_⟩) hH ?_
      rotate_left
      · (intro wS hS; clear hS; go_simp; try rfl)
      try simp only [Act.put, List.setIfInBounds_toArray, List.set_cons_zero, List.set_cons_succ]
      refine wpAnyH_take (i := 1) (v := ?_) (by simp only [List.getElem?_toArray, List.getElem?_cons_succ, List.getElem?_cons_zero]; rfl) (by kernel_rfl) (by kernel_rfl) (by kernel_rfl) (by exact fun _ _ _ h => h) (Or.inl ⟨by rfl, ?_⟩) hH ?_
      rotate_left
      · (intro wS hS; clear hS; go_simp; try rfl)
      try simp only [Act.put, List.setIfInBounds_toArray, List.set_cons_zero, List.set_cons_succ]
      refine wpAnyH_take (i := 2) (v := ?_) (by simp only [List.getElem?_toArray, List.getElem?_cons_succ, List.getElem?_cons_zero]; rfl) (by kernel_rfl) (by kernel_rfl) (by kernel_rfl) (by exact fun _ _ _ h => h) (Or.inl ⟨by rfl, ?_⟩) hH ?_
      rotate_left
      · (intro wS hS; clear hS; go_simp; try rfl)
      try simp only [Act.put, List.setIfInBounds_toArray, List.set_cons_zero, List.set_cons_succ]
      refine wpAnyH_take (i := 3) (v := ?_) (by simp only [List.getElem?_toArray, List.getElem?_cons_succ, List.getElem?_cons_zero]; rfl) (by kernel_rfl) (by kernel_rfl) (by kernel_rfl) (by exact fun _ _ _ h => h) (Or.inl ⟨by rfl, ?_⟩) hH ?_
      rotate_left
      · (intro wS hS; (try dsimp only at hS); obtain ⟨k1, k2, k3, k4⟩ := qsF2 R2.out R3.out HQ.out HU.out hS; go_simp; try rfl)
      try simp only [Act.put, List.setIfInBounds_toArray, List.set_cons_zero, List.set_cons_succ]
      refine wpAnyH_take (i := 4) (v := ?_) (by simp only [List.getElem?_toArray, List.getElem?_cons_succ, List.getElem?_cons_zero]; rfl) (by kernel_rfl) (by kernel_rfl) (by kernel_rfl) (by exact fun _ _ _ h => h) (Or.inl ⟨by rfl, ?_⟩) hH ?_
      rotate_left
      · (intro wS hS; clear hS; go_simp; try rfl)
      try simp only [Act.put, List.setIfInBounds_toArray, List.set_cons_zero, List.set_cons_succ]
      refine wpAnyH_take (i := 5) (v := ?_) (by simp only [List.getElem?_toArray, List.getElem?_cons_succ, List.getElem?_cons_zero]; rfl) (by kernel_rfl) (by kernel_rfl) (by kernel_rfl) (by exact fun _ _ _ h => h) (Or.inl ⟨by rfl, ?_⟩) hH ?_
      rotate_left
      · (intro wS hS; clear hS; go_simp; try rfl)
      try simp only [Act.put, List.setIfInBounds_toArray, List.set_cons_zero, List.set_cons_succ]
      refine wpAnyH_take (i := 6) (v := ?_) (by simp only [List.getElem?_toArray, List.getElem?_cons_succ, List.getElem?_cons_zero]; rfl) (by kernel_rfl) (by kernel_rfl) (by kernel_rfl) (by exact fun _ _ _ h => h) (Or.inl ⟨by rfl, ?_⟩) hH ?_
      rotate_left
      · (intro wS hS; clear hS; go_simp; try rfl)
      try simp only [Act.put, List.setIfInBounds_toArray, List.set_cons_zero, List.set_cons_succ]
      refine wpAnyH_take (i := 7) (v := ?_) (by simp only [List.getElem?_toArray, List.getElem?_cons_succ, List.getElem?_cons_zero]; rfl) (by kernel_rfl) (by kernel_rfl) (by kernel_rfl) (by exact fun _ _ _ h => h) (Or.inl ⟨by rfl, ?_⟩) hH ?_
      rotate_left
      · (intro wS hS; (try dsimp only at hS); obtain ⟨k1, k2, k3, k4⟩ := qsF2 R2.out R3.out HQ.out HU.out hS; go_simp; try rfl)
      try simp only [Act.put, List.setIfInBounds_toArray, List.set_cons_zero, List.set_cons_succ]
      refine wpAnyH_ready (rs := [8]) (by kernel_rfl) (by simp) ?_
      refine AllReadyH.cons (by simp only [List.getElem?_toArray, List.getElem?_cons_succ, List.getElem?_cons_zero]; rfl) (fun K hK => ?_) AllReadyH.nil
      go_simp
      (with_reducible refine (eqRat_t u.1 u.2 _).mono ?_)
      rintro e v1 ⟨rfl, hb1⟩
      try dsimp only
      refine hK.out _ _ ?_ (fun hH2 => ?_)
      · exact hH.trans (hb1.mono hH.size)
      clear hK K hH
      have hH := hH2
      clear hH2
      try simp only [Act.put, List.setIfInBounds_toArray, List.set_cons_zero, List.set_cons_succ]
      refine wpAnyH_take (i := 9) (v := ?_) (by simp only [List.getElem?_toArray, List.getElem?_cons_succ, List.getElem?_cons_zero]; rfl) (by kernel_rfl) (by kernel_rfl) (by kernel_rfl) (by exact fun _ _ _ h => h) (Or.inl ⟨by rfl, ?_⟩) hH ?_
      rotate_left
      · (intro wS hS; clear hS; go_simp; try rfl)
      try simp only [Act.put, List.setIfInBounds_toArray, List.set_cons_zero, List.set_cons_succ]
      refine wpAnyH_done (by kernel_rfl) ?_ _
      go_wp2_with fail
      go_roundw
      case rel => exact ⟨k + 1, by go_num, by omega, B.out.trans (hH.mono B.out.size)⟩
      case measure => simp [intOf]; omega
    · have hkn : k = n := by omega
      subst hkn
      go_wp2_with fail
      go_ret
      exact ⟨rfl, B.out⟩
/-! ### Marks -/
def marksQ (c : Int) (n : Nat) : List (Int × Int) := (List.range n).map fun (q : Nat) => (c + 2 * (q : Int), c + 2 * (q : Int) + 1)
theorem marksQ_length (c : Int) (n : Nat) : (marksQ c n).length = n := by simp [marksQ]
theorem marksQ_getD (c : Int) (n q : Nat) (h : q < n) : (marksQ c n).getD q (0, 0) = (c + 2 * (q : Int), c + 2 * (q : Int) + 1) := by simp [marksQ, List.getD, h]
theorem markQ_step (l : List (Int × Int)) (c : Int) (q : Nat) (hq : q < l.length) : (marksQ c q ++ l.drop q).set q (c + 2 * (q : Int), c + 2 * (q : Int) + 1) = marksQ c (q + 1) ++ l.drop (q + 1) := by
  have e : marksQ c (q + 1) = marksQ c q ++ [(c + 2 * (q : Int), c + 2 * (q : Int) + 1)] := by simp [marksQ, List.range_succ]
  rw [e, List.append_assoc, List.set_append_right (h := by rw [marksQ_length]; exact Nat.le_refl _), marksQ_length, Nat.sub_self, List.drop_eq_getElem_cons hq]
  rfl
set_option maxRecDepth 100000 in
set_option maxHeartbeats 4000000 in
theorem markQS (g cap : Nat) (l : List (Int × Int)) (c : Int) (w : World) (h : QsB w g l) (hm : l.length ≤ 16777216) (hc0 : 0 ≤ c) (hc : c ≤ 16777216) :
    Calls Try.prog 34 #[.slice (some ⟨g, 0, none⟩) l.length cap, .int .i64 c] w fun e w' => e = .returned (.int .i64 (c + 2 * l.length)) ∧ QsB w' g (marksQ c l.length) ∧ w.grownBy w' (some g) := by
  have H := Lib.hid h
  clear h
  obtain ⟨n, hnn⟩ : ∃ n, l.length = n := ⟨_, rfl⟩
  rw [hnn] at hm ⊢
  have HN := Lib.hid hnn
  clear hnn
  go_enter Try.func34, Try.ntmps34
  go_wp2_with fail
  go_loopw [1, 5] (fun j i wr => ∃ q : Nat, i = .int .i64 q ∧ j = .int .i64 (c + 2 * (q : Int)) ∧ q ≤ n ∧ QsB wr g (marksQ c q ++ l.drop q) ∧ w.grownBy wr (some g)) (fun _ i _ => n - (intOf i).toNat)
  case atStart => exact ⟨0, rfl, by simp, by omega, by simpa [marksQ] using H.out, World.grownBy.refl _ _⟩
  case round =>
    obtain ⟨q, rfl, rfl, hk, hi, hg⟩ := hrel
    have I := Lib.hid hi
    have G := Lib.hid hg
    clear hi hg
    by_cases hlt : q < n
    · have HQ : Hid (q < l.length) := by show q < l.length; rw [HN.out]; exact hlt
      have KL : Hid (q < (marksQ c q ++ l.drop q).length) := by show q < _; have := HQ.out; simp [marksQ_length]; omega
      obtain ⟨d0, d1⟩ := I.out.cells KL.out
      have f0 := I.out.free (q * 2)
      have f1 := I.out.free (q * 2 + 1)
      go_wp2_with fail
      go_roundw
      case rel =>
        refine ⟨q + 1, by go_num, by go_num, by omega, ?_, ?_⟩
        · rw [← markQ_step l c q HQ.out]
          exact I.out.set KL.out (c + 2 * (q : Int), c + 2 * (q : Int) + 1)
        · exact grown_set_one (grown_set_one G.out rfl _) rfl _
      case measure => simp [intOf]; omega
    · have hkn : q = n := by omega
      subst hkn
      have e : marksQ c q ++ l.drop q = marksQ c q := by rw [← HN.out]; simp
      go_wp2_with fail
      go_ret
      exact ⟨rfl, by rw [← e]; exact I.out, G.out⟩
theorem markQS_nil (cap : Nat) (c : Int) (w : World) :
    Calls Try.prog 34 #[.slice none 0 cap, .int .i64 c] w fun e w' => e = .returned (.int .i64 c) ∧ w = w' := by
  go_enter Try.func34, Try.ntmps34
  go_wp2_with fail
  go_loopw [1, 5] (fun j i wr => j = .int .i64 c ∧ i = .int .i64 0 ∧ wr = w) (fun _ _ _ => 0)
  case atStart => exact ⟨rfl, rfl, rfl⟩
  case round =>
    obtain ⟨rfl, rfl, rfl⟩ := hrel
    go_wp2_with fail
    go_ret
    exact ⟨rfl, rfl⟩
set_option maxRecDepth 100000 in
set_option maxHeartbeats 4000000 in
theorem heldQS (a : Option Addr) (cap n : Nat) (c : Int) (w : World) (h : RdQ w a (marksQ c n)) (hm : n ≤ 16777216) (hc0 : 0 ≤ c) (hc : c ≤ 16777216) :
    Calls Try.prog 35 #[.slice a n cap, .int .i64 c] w (Gives (.int .i64 (c + 2 * n)) w) := by
  have H := Lib.hid h
  clear h
  go_enter Try.func35, Try.ntmps35
  go_wp2_with fail
  go_loopw [1, 5] (fun j i wr => ∃ q : Nat, i = .int .i64 q ∧ j = .int .i64 (c + 2 * (q : Int)) ∧ q ≤ n ∧ Below w.heap.size w wr) (fun _ i _ => n - (intOf i).toNat)
  case atStart => exact ⟨0, rfl, by simp, by omega, Below.refl _ _⟩
  case round =>
    obtain ⟨q, rfl, rfl, hk, hb⟩ := hrel
    have B := Lib.hid hb
    clear hb
    by_cases hlt : q < n
    · obtain ⟨b2, o2, rfl, hlt2, c0, c1⟩ := (H.out.below B.out) q (by rw [marksQ_length]; exact hlt)
      rw [marksQ_getD c n q hlt] at c0 c1
      dsimp only at c0 c1
      go_wp2_with fail
      go_roundw
      case rel => exact ⟨q + 1, by go_num, by go_num, by omega, B.out⟩
      case measure => simp [intOf]; omega
    · have hkn : q = n := by omega
      subst hkn
      go_wp2_with fail
      go_ret
      exact ⟨rfl, B.out⟩
end Go.Proofs.Ytcapddcmnjeloaa
end

section
/-
  Memory in a law's walk: lists of ratios.
-/
namespace Go.Proofs.Ytcapddcmnjeloaa
open Go.RowKit

theorem toQSg (a : Option Addr) (cap : Nat) (l : List (Int × Int)) (w : World) (h : RdQ w a l) (hn : l.length ≤ 1048576) :
    Calls Try.prog 29 #[.slice a l.length cap] w fun e w' => ∃ g, e = .returned (.slice (some ⟨g, 0, none⟩) l.length l.length) ∧ g = w.heap.size ∧ QsB w' g l ∧ Below w.heap.size w w' :=
  (toQS a cap l w h hn).mono fun _ _ ⟨h1, h2, h3⟩ => ⟨_, h1, rfl, h2, h3⟩
/-- The slice value v shows the ratios l; it is nil, or begins a block from B to T. -/
def InQ (B T : Nat) (w : World) (v : Value) (l : List (Int × Int)) : Prop :=
  (v = .slice none 0 0 ∧ l = []) ∨ ∃ (g cap : Nat), v = .slice (some ⟨g, 0, none⟩) l.length cap ∧ B ≤ g ∧ g < T ∧ QsB w g l ∧ l.length ≤ 1048576
theorem InQ.of_new {B : Nat} {w : World} {g : Nat} {l : List (Int × Int)} (hB : B ≤ g) (hi : QsB w g l) (hl : l.length ≤ 1048576) : InQ B w.heap.size w (.slice (some ⟨g, 0, none⟩) l.length l.length) l :=
  .inr ⟨g, l.length, rfl, hB, hi.lt, hi, hl⟩
theorem OwnR.inn {B : Nat} {w : World} {v : Value} {l : List (Int × Int)} (h : OwnR B w v l) (hl : l.length ≤ 1048576) : InQ B w.heap.size w v l := by
  rcases h.blk with h | ⟨g, cap, hv, hB, hi, -⟩
  · exact .inl h
  · exact .inr ⟨g, cap, hv, hB, hi.lt, hi, hl⟩
theorem InQ.form {B T : Nat} {w : World} {v : Value} {l : List (Int × Int)} (h : InQ B T w v l) : ∃ (a : Option Addr) (cap : Nat), v = .slice a l.length cap := by
  rcases h with ⟨rfl, rfl⟩ | ⟨g, cap, rfl, _, _, hi, hl⟩
  · exact ⟨none, 0, rfl⟩
  · exact ⟨_, _, rfl⟩
theorem InQ.small {B T : Nat} {w : World} {v : Value} {l : List (Int × Int)} (h : InQ B T w v l) : l.length ≤ 1048576 := by
  rcases h with ⟨rfl, rfl⟩ | ⟨g, cap, rfl, _, _, hi, hl⟩
  · simp
  · exact hl
theorem InQ.rd {B T : Nat} {w : World} {a : Option Addr} {n cap : Nat} {l : List (Int × Int)} (h : InQ B T w (.slice a n cap) l) : n = l.length ∧ RdQ w a l ∧ l.length ≤ 1048576 := by
  rcases h with ⟨hv, rfl⟩ | ⟨g, cap', hv, _, _, hi, hl⟩
  · injection hv with e1 e2 e3
    exact ⟨e2, RdQ.nil _ _, by simp⟩
  · injection hv with e1 e2 e3
    subst e1
    exact ⟨e2, hi.rd, hl⟩
theorem InQ.chg {B T B' T' : Nat} {w w' : World} {v : Value} {l : List (Int × Int)} (h : InQ B T w v l) (hc : Chg B' T' w w') (hd : T ≤ B' ∨ T' ≤ B) : InQ B T w' v l := by
  rcases h with h | ⟨g, cap, hv, h1, h2, hi, hl⟩
  · exact .inl h
  · exact .inr ⟨g, cap, hv, h1, h2, hi.move (hc.block g hi.lt (by omega)), hl⟩
theorem InQ.keep {B T : Nat} {w w' : World} {v : Value} {l : List (Int × Int)} (h : InQ B T w v l) (hb : Below w.heap.size w w') : InQ B T w' v l := by
  rcases h with h | ⟨g, cap, hv, h1, h2, hi, hl⟩
  · exact .inl h
  · exact .inr ⟨g, cap, hv, h1, h2, hi.keep hb hi.lt, hl⟩
theorem InQ.old {B T : Nat} {w : World} {v : Value} {l : List (Int × Int)} (h : InQ B T w v l) (o : Obj) : InQ B T (w.alloc o) v l := h.keep ((Below.refl _ _).alloc (Nat.le_refl _) o)
/-- Marks are written into ratios of the call's own. -/
theorem markInQ {B T : Nat} (a : Option Addr) (cap : Nat) (l : List (Int × Int)) (k : Int) (w : World) (h : InQ B T w (.slice a l.length cap) l) (hk0 : 0 ≤ k) (hk : k ≤ 16777216) :
    Calls Try.prog 34 #[.slice a l.length cap, .int .i64 k] w fun e w' => e = .returned (.int .i64 (k + 2 * l.length)) ∧ InQ B T w' (.slice a l.length cap) (marksQ k l.length) ∧ Chg B T w w' := by
  rcases h with ⟨hv, rfl⟩ | ⟨g, cap', hv, h1, h2, hi, hl⟩
  · injection hv with v1 v2 v3
    subst v1 v3
    exact (markQS_nil 0 k w).mono fun e w' ⟨he, hw⟩ => ⟨by rw [he]; simp, .inl ⟨rfl, rfl⟩, by rw [← hw]; exact Chg.of_below (Below.refl _ _)⟩
  · injection hv with v1 v2 v3
    subst v1 v3
    exact (markQS g cap l k w hi (by omega) hk0 hk).mono fun e w' ⟨he, hi', hg⟩ => ⟨he, .inr ⟨g, cap, by rw [marksQ_length], h1, h2, hi', by rw [marksQ_length]; exact hl⟩, Chg.of_one hg h1 h2⟩
end Go.Proofs.Ytcapddcmnjeloaa
end
