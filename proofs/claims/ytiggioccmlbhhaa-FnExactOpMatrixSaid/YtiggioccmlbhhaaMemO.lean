/-
  Memory in a law's walk: operations on rows.
-/
import Derived.Test.YtiggioccmlbhhaaMemI
import Derived.Test.YtiggioccmlbhhaaLawRo
namespace Go.Proofs.Ytiggioccmlbhhaa
open Go.RowKit

theorem Blk4.chg {w w' : World} {b B T : Nat} {t : TypeId} {p q r s : Value} (h : Blk4 w b t p q r s) (hc : Chg B T w w') (hb : b < B ∨ T ≤ b) : Blk4 w' b t p q r s := (hc.block b h.lt (by omega)).trans h
theorem toOSg (a : Option Addr) (cap : Nat) (l : List Ro) (w : World) (h : RdO w a l) (hn : l.length ≤ 1048576) :
    Calls Try.prog 39 #[.slice a l.length cap] w fun e w' => ∃ g, e = .returned (.slice (some ⟨g, 0, none⟩) l.length l.length) ∧ g = w.heap.size ∧ OpsB w' g l ∧ Below w.heap.size w w' :=
  (toOS a cap l w h hn).mono fun _ _ ⟨h1, h2, h3⟩ => ⟨_, h1, rfl, h2, h3⟩
theorem three {W w' : World} {b : Nat} {t : TypeId} {p q r : Value} (h0 : Blk3 W b t p q r) (hb : Below W.heap.size W w') :
    w'.cell? ⟨b, 0, none⟩ = some p ∧ w'.cell? ⟨b, 1, none⟩ = some q ∧ w'.cell? ⟨b, 2, none⟩ = some r :=
  ⟨(h0.keep hb h0.lt).cell0, (h0.keep hb h0.lt).cell1, (h0.keep hb h0.lt).cell2⟩
theorem sevenO {W w' : World} {b c : Nat} {t t' : TypeId} {p q r x y z u : Value} (h0 : Blk3 W b t p q r) (h1 : Blk4 W c t' x y z u) (hb : Below W.heap.size W w') :
    w'.cell? ⟨b, 0, none⟩ = some p ∧ w'.cell? ⟨b, 1, none⟩ = some q ∧ w'.cell? ⟨b, 2, none⟩ = some r ∧ w'.cell? ⟨c, 0, none⟩ = some x ∧ w'.cell? ⟨c, 1, none⟩ = some y ∧ w'.cell? ⟨c, 2, none⟩ = some z ∧ w'.cell? ⟨c, 3, none⟩ = some u :=
  ⟨(h0.keep hb h0.lt).cell0, (h0.keep hb h0.lt).cell1, (h0.keep hb h0.lt).cell2, (h1.keep hb h1.lt).cell0, (h1.keep hb h1.lt).cell1, (h1.keep hb h1.lt).cell2, (h1.keep hb h1.lt).cell3⟩
/-- The slice value v shows the operations l; it is nil, or begins a block from B to T. -/
def InO (B T : Nat) (w : World) (v : Value) (l : List Ro) : Prop :=
  (v = .slice none 0 0 ∧ l = []) ∨ ∃ (g cap : Nat), v = .slice (some ⟨g, 0, none⟩) l.length cap ∧ B ≤ g ∧ g < T ∧ OpsB w g l ∧ l.length ≤ 1048576
theorem InO.of_new {B : Nat} {w : World} {g : Nat} {l : List Ro} (hB : B ≤ g) (hi : OpsB w g l) (hl : l.length ≤ 1048576) : InO B w.heap.size w (.slice (some ⟨g, 0, none⟩) l.length l.length) l :=
  .inr ⟨g, l.length, rfl, hB, hi.lt, hi, hl⟩
theorem InO.of_row {B n : Nat} {w : World} {v : Value} {l : List Ro} (h : w.ownsRow B 43 4 v n (Ro.flat l)) (hn : l.length = n) (hl : n ≤ 1048576) : InO B w.heap.size w v l := by
  subst hn
  rcases h.2 with ⟨rfl, h0⟩ | ⟨g, cap, cur, rfl, hB, hg, hc, -, -, ht⟩
  · exact .inl ⟨rfl, List.eq_nil_of_length_eq_zero h0⟩
  · refine .inr ⟨g, cap, rfl, hB, lt_of_block hg, ⟨cur.toList.drop (l.length * 4), ?_⟩, hl⟩
    rw [hg, ← ht, List.take_append_drop]
theorem InO.form {B T : Nat} {w : World} {v : Value} {l : List Ro} (h : InO B T w v l) : ∃ (a : Option Addr) (cap : Nat), v = .slice a l.length cap := by
  rcases h with ⟨rfl, rfl⟩ | ⟨g, cap, rfl, _, _, hi, hl⟩
  · exact ⟨none, 0, rfl⟩
  · exact ⟨_, _, rfl⟩
theorem InO.rd {B T : Nat} {w : World} {a : Option Addr} {n cap : Nat} {l : List Ro} (h : InO B T w (.slice a n cap) l) : RdO w a l := by
  rcases h with ⟨hv, rfl⟩ | ⟨g, cap', hv, _, _, hi, hl⟩
  · exact fun q hq => absurd hq (by simp)
  · injection hv with e1 e2 e3
    subst e1
    exact hi.rd
theorem InO.small {B T : Nat} {w : World} {v : Value} {l : List Ro} (h : InO B T w v l) : l.length ≤ 1048576 := by
  rcases h with ⟨rfl, rfl⟩ | ⟨g, cap, rfl, _, _, hi, hl⟩
  · simp
  · exact hl
theorem InO.chg {B T B' T' : Nat} {w w' : World} {v : Value} {l : List Ro} (h : InO B T w v l) (hc : Chg B' T' w w') (hd : T ≤ B' ∨ T' ≤ B) : InO B T w' v l := by
  rcases h with h | ⟨g, cap, hv, h1, h2, hi, hl⟩
  · exact .inl h
  · exact .inr ⟨g, cap, hv, h1, h2, hi.move (hc.block g hi.lt (by omega)), hl⟩
theorem InO.keep {B T : Nat} {w w' : World} {v : Value} {l : List Ro} (h : InO B T w v l) (hb : Below w.heap.size w w') : InO B T w' v l := by
  rcases h with h | ⟨g, cap, hv, h1, h2, hi, hl⟩
  · exact .inl h
  · exact .inr ⟨g, cap, hv, h1, h2, hi.keep hb hi.lt, hl⟩
theorem InO.old {B T : Nat} {w : World} {v : Value} {l : List Ro} (h : InO B T w v l) (o : Obj) : InO B T (w.alloc o) v l := h.keep ((Below.refl _ _).alloc (Nat.le_refl _) o)
/-- Marks are written into operations of the call's own. -/
theorem markInO {B T : Nat} (a : Option Addr) (cap : Nat) (l : List Ro) (k : Int) (w : World) (h : InO B T w (.slice a l.length cap) l) (hk0 : 0 ≤ k) (hk : k ≤ 16777216) :
    Calls Try.prog 42 #[.slice a l.length cap, .int .i64 k] w fun e w' => e = .returned (.int .i64 (k + 4 * l.length)) ∧ InO B T w' (.slice a l.length cap) (marksO k l.length) ∧ Chg B T w w' := by
  rcases h with ⟨hv, rfl⟩ | ⟨g, cap', hv, h1, h2, hi, hl⟩
  · injection hv with v1 v2 v3
    subst v1 v3
    exact (markOS_nil 0 k w).mono fun e w' ⟨he, hw⟩ => ⟨by rw [he]; simp, .inl ⟨rfl, rfl⟩, by rw [← hw]; exact Chg.of_below (Below.refl _ _)⟩
  · injection hv with v1 v2 v3
    subst v1 v3
    exact (markOS g cap l k w hi (by omega) hk0 hk).mono fun e w' ⟨he, hi', hg⟩ => ⟨he, .inr ⟨g, cap, by rw [marksO_length], h1, h2, hi', by rw [marksO_length]; exact hl⟩, Chg.of_one hg h1 h2⟩
end Go.Proofs.Ytiggioccmlbhhaa
