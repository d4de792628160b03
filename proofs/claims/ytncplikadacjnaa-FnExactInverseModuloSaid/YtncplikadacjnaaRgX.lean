/-
  A range over an iterator that keeps what it knows in cells of its own: the loop's invariant abides whatever happens to blocks that were laid since the loop began. No function of the program is named.
-/
import Derived.Test.YtncplikadacjnaaProg
import Derived.RangeFuncNested
import Derived.RangeFuncBound
import Derived.RangeFuncCalls
import Derived.RangeFuncLeaves
namespace Go.Proofs.Ytncplikadacjnaa
open Go.RowKit

/-- Blocks from B on may have changed in any way. -/
def AbX {β : Type} (B : Nat) (J : β → World → Prop) : Prop := ∀ s W W' row, J s W → W.grownBy W' row → (∀ r, row = some r → B ≤ r) → J s W'
/-- Blocks from B on lie as they lay. -/
def KpX (B : Nat) (W W' : World) : Prop := W.heap.size ≤ W'.heap.size ∧ ∀ k, B ≤ k → k < W.heap.size → W'.heap[k]? = W.heap[k]?
theorem KpX.refl (B : Nat) (W : World) : KpX B W W := ⟨Nat.le_refl _, fun _ _ _ => rfl⟩
theorem KpX.trans {B : Nat} {U V W : World} (h : KpX B U V) (h' : KpX B V W) : KpX B U W := ⟨Nat.le_trans h.1 h'.1, fun k hk hl => (h'.2 k hk (Nat.lt_of_lt_of_le hl h.1)).trans (h.2 k hk hl)⟩
theorem KpX.put {B l : Nat} (W : World) (hl : l < B) (o : Obj) : KpX B W (W.putObj l o) := ⟨by simp, fun k hk _ => World.putObj_heap_other (by omega)⟩
theorem KpX.set {B : Nat} (W : World) {a : Addr} (ha : a.block < B) (v : Value) : KpX B W (W.setCell a v) := ⟨by simp [World.setCell], fun k hk _ => Below.heap_setCell W a v k (by omega)⟩
theorem KpX.at_ {B k : Nat} {W W' : World} {o : Obj} (h : KpX B W W') (hk : B ≤ k) (e : W.heap[k]? = some o) : W'.heap[k]? = some o := (h.2 k hk (Array.getElem?_eq_some_iff.mp e).1).trans e
def SeqX {α : Type} (F : Fence) (n : Nat) (P : Program) (g : Nat) (encs : α → Array Value) (S Sp : List α → Prop) (N : Nat) : Prop :=
  ∀ (l : Nat) (J Jx : List α → World → Prop) (W : World), AbX W.heap.size J → AbX W.heap.size Jx →
    (∀ pre x W1, J pre W1 → pre.length < N → YieldAt F (n - 1) P l (encs x) W1 fun e W' => (e = .returned (.bool true) ∧ J (pre ++ [x]) W' ∧ KpX W.heap.size W1 W') ∨ (e = .returned (.bool false) ∧ Jx (pre ++ [x]) W')) →
    J [] W → CallsIn F n P g #[.func (.yield l) #[] #[]] W fun e W' => (∃ v, e = .returned v) ∧ ((∃ xs, S xs ∧ J xs W') ∨ (∃ pre, Sp pre ∧ Jx pre W'))
/-- How a round's body may be left. -/
def bodyX {α : Type} (B : Nat) (I : List α → World → Prop) (Ix : Code → List α → World → Prop) (xs : List α) (W : World) : Exit → Act → World → Prop
  | .normal, _, W' => KpX B W W' ∧ I xs W'
  | .ret, _, W' => KpX B W W' ∧ Ix .ret xs W'
  | .exit id, _, W' => KpX B W W' ∧ Ix (.exit id) xs W'
  | .goto t, _, W' => KpX B W W' ∧ Ix (.goto t) xs W'
  | _, _, _ => False
theorem AbX.put {β : Type} {B l : Nat} {J : β → World → Prop} (h : AbX B J) {s : β} {W : World} (hs : J s W) (hl : B ≤ l) (o : Obj) : J s (W.putObj l o) :=
  h s W _ (some l) hs (grownBy_putObj' W l o) (fun r e => by cases e; exact hl)
theorem AbX.old {β : Type} {B : Nat} {J : β → World → Prop} (h : AbX B J) {s : β} {W : World} (hs : J s W) (o : Obj) : J s (W.alloc o) :=
  h s W _ none hs (World.grownBy_alloc W o none) (fun r e => by cases e)
/-- The record of the loop, as it lies at one time. -/
def recX (fn : Nat) (a : Act) (ps : Array Tmp) (assign body : Code) (D : Nat) (st : LoopState) (pe : Option Code) : Loop := { state := st, pending := pe, fn, tmps := a.tmps, params := ps, assign, body, defers := D }
/-- What holds between two rounds, with the record and the block for deferred calls beside it. -/
def betX {α : Type} (D : Nat) (R : Loop) (I : List α → World → Prop) (pre : List α) (W : World) : Prop := I pre W ∧ W.heap[D + 1]? = some (.loop R) ∧ W.heap[D]? = some (.deferred (some []))
theorem betX.ab {α : Type} {D : Nat} {R : Loop} {I : List α → World → Prop} (h : AbX D I) : AbX (D + 2) (betX D R I) := fun s A B row hs hg hr => by
  obtain ⟨h1, h2, h3⟩ := hs
  exact ⟨h s A B row h1 hg (fun r e => by have := hr r e; omega), (hg.block _ (Array.getElem?_eq_some_iff.mp h2).1 (fun e => by have := hr _ e.symm; omega)).trans h2, (hg.block _ (Array.getElem?_eq_some_iff.mp h3).1 (fun e => by have := hr _ e.symm; omega)).trans h3⟩
theorem betX.put {α : Type} {D : Nat} {R R' : Loop} {I I' : List α → World → Prop} {xs ys : List α} {W : World} (hI : AbX D I') (h : betX D R I ys W) (h' : I' xs W) : betX D R' I' xs (W.putObj (D + 1) (.loop R')) :=
  ⟨hI.put h' (by omega) _, World.putObj_heap_same (Array.getElem?_eq_some_iff.mp h.2.1).1, (World.putObj_heap_other (by omega)).trans h.2.2⟩
theorem wpIn_rangeX {F : Fence} {n : Nat} {P : Program} {α : Type} {g : Operand} {ps : Array Tmp} {assign body : Code} {Q : Exit → Act → World → Prop} {a : Act} {w : World}
    (hro : F.round = none) (h1 : 1 ≤ n) {gf : Nat} (hg : a.eval g = .func (.func gf) #[] #[]) (hFg : F.fn gf) (eg : ∀ args w, (callFunc gf args).run P w = .ok (.enter gf args) w)
    {encs : α → Array Value} {S Sp : List α → Prop} {N : Nat} (hseq : SeqX F (n - 1) P gf encs S Sp N) (hps : ∀ x, (encs x).size = ps.size)
    (I : List α → World → Prop) (Ix : Code → List α → World → Prop) (hI : AbX w.heap.size I) (hIx : ∀ c, AbX w.heap.size (Ix c)) (h0 : I [] w) (a₁ : α → Act)
    (hassign : ∀ (l : Nat) (x : α) (W : World) (K : Act → World → Prop), K (a₁ x) W →
      assign.wpIn (F.inRound l) (n - 1 - 1) P (Exit.then K (fun _ _ _ => False)) { tmps := (ps.zip (encs x)).foldl (fun t (p, v) => t.setIfInBounds p v) a.tmps, defers := [] } W)
    (hbody : ∀ (l : Nat) (pre : List α) (x : α) (W : World), I pre W → pre.length < N → body.wpIn (F.inRound l) (n - 1 - 1) P (bodyX w.heap.size I Ix (pre ++ [x]) W) (a₁ x) W)
    (hdone : ∀ (xs : List α) (W : World), S xs → I xs W → W.heap[w.heap.size]? = some (.deferred (some [])) → Q .normal { a with defers := { target := .collected w.heap.size, args := #[] } :: a.defers } W)
    (hstop : ∀ (c : Code) (pre : List α) (W : World), Sp pre → Ix c pre W → W.heap[w.heap.size]? = some (.deferred (some [])) → c.wpIn F n P Q { a with defers := { target := .collected w.heap.size, args := #[] } :: a.defers } W) :
    (Code.rangeFunc g ps assign body).wpIn F n P Q a w := by
  refine wpIn_rangeFunc fun fn hfn => ?_
  rw [hro]
  generalize hD : w.heap.size = D at hI hIx hbody hdone hstop
  obtain ⟨R, hR⟩ : ∃ R : LoopState → Option Code → Loop, R = recX fn a ps assign body D := ⟨_, rfl⟩
  have sz : ((w.alloc (.deferred (some []))).alloc (.loop (R .ready none))).heap.size = D + 2 := by simp [hD]
  have st : betX D (R .ready none) I [] ((w.alloc (.deferred (some []))).alloc (.loop (R .ready none))) := by
    refine ⟨hI.old (hI.old h0 _) _, ?_, ?_⟩
    · have := World.alloc_heap_new (w.alloc (.deferred (some []))) (.loop (R .ready none))
      rwa [World.size_alloc, hD] at this
    · rw [← hD]
      exact (Below.heap_alloc _ _ _ (by simp)).trans (World.alloc_heap_new w _)
  refine ⟨D + 1, [{ target := .collected D, args := #[] }], (w.alloc (.deferred (some []))).alloc (.loop (R .ready none)), { target := .fn (.func gf) #[], args := #[.func (.yield (D + 1)) #[] #[]] }, (w.alloc (.deferred (some []))).alloc (.loop (R .ready none)), gf, #[.func (.yield (D + 1)) #[] #[]], (w.alloc (.deferred (some []))).alloc (.loop (R .ready none)), ?_, ?_, ?_, ?_, fun _ => h1, ?_⟩
  · rw [hR, ← hD]; exact run_enterLoop_outer _ _ _ _ _
  · simp only [resolve, hg]
    simp [go_sem]
  · intro f' hf'
    simp [Target.leads] at hf'
    subst hf'
    exact hFg
  · simp [invoke, go_sem, eg]
  · have ab2 : ∀ {I' : List α → World → Prop} {R' : Loop}, AbX D I' → AbX ((w.alloc (.deferred (some []))).alloc (.loop (R .ready none))).heap.size (betX D R' I') := fun h => by rw [sz]; exact betX.ab h
    refine (hseq (D + 1) (betX D (R .ready none) I) (fun pre W => ∃ c, betX D (R .done (some c)) (Ix c) pre W) _ (ab2 hI) (fun s A B row hs hg' hr => by
      obtain ⟨c, hc⟩ := hs
      exact ⟨c, ab2 (hIx c) s A B row hc hg' hr⟩) ?_ st).mono ?_
    · intro pre x W hJ hlen
      have hy := run_yield (P := P) (args := encs x) hJ.2.1 (by rw [hR]; exact hps x)
      rw [hR] at hy
      refine ⟨fn, _, assign, body, hy, roundIn_of_wpIn hfn (hassign _ x W _ ⟨_, run_beginRound hJ.2.1 (by rw [hR]; rfl), ?_⟩)⟩
      have hB : betX D { R .ready none with state := .busy } I pre (W.putObj (D + 1) (.loop { R .ready none with state := .busy })) := hJ.put hI hJ.1
      have k1 : KpX (D + 2) W (W.putObj (D + 1) (.loop { R .ready none with state := .busy })) := KpX.put W (by omega) _
      refine wpIn_mono (hbody _ pre x _ hB.1 hlen) ?_
      have fin : ∀ (jump : Option Code) (I' : List α → World → Prop) (W3 : World), AbX D I' → KpX D (W.putObj (D + 1) (.loop { R .ready none with state := .busy })) W3 → I' (pre ++ [x]) W3 →
          (Instr.endRound (D + 1) jump).run P W3 = .ok (.bool jump.isNone) (W3.putObj (D + 1) (.loop (R (if jump.isNone then .ready else .done) jump))) ∧ betX D (R (if jump.isNone then .ready else .done) jump) I' (pre ++ [x]) (W3.putObj (D + 1) (.loop (R (if jump.isNone then .ready else .done) jump))) ∧
          KpX (D + 2) W (W3.putObj (D + 1) (.loop (R (if jump.isNone then .ready else .done) jump))) := fun jump I' W3 hab hk hi => by
        have b3 : betX D { R .ready none with state := .busy } I' (pre ++ [x]) W3 := ⟨hi, hk.at_ (by omega) hB.2.1, hk.at_ (Nat.le_refl _) hB.2.2⟩
        have hr := run_endRound (P := P) jump b3.2.1
        rw [hR] at hr
        refine ⟨by rw [hR]; exact hr, b3.put hab hi, (k1.trans ⟨hk.1, fun k h1 h2 => hk.2 k (by omega) h2⟩).trans (KpX.put W3 (by omega) _)⟩
      rintro e a3 W3 hp
      have jumped : ∀ c : Code, KpX D (W.putObj (D + 1) (.loop { R .ready none with state := .busy })) W3 → Ix c (pre ++ [x]) W3 → ∃ v W4, (Instr.endRound (D + 1) (some c)).run P W3 = .ok v W4 ∧ ((Ending.returned v = .returned (.bool true) ∧ betX D (R .ready none) I (pre ++ [x]) W4 ∧ KpX ((w.alloc (.deferred (some []))).alloc (.loop (R .ready none))).heap.size W W4) ∨ (Ending.returned v = .returned (.bool false) ∧ ∃ c, betX D (R .done (some c)) (Ix c) (pre ++ [x]) W4)) := fun c hk hi => by
        obtain ⟨e1, e2, -⟩ := fin (some c) (Ix c) W3 (hIx c) hk hi
        exact ⟨_, _, e1, .inr ⟨rfl, c, e2⟩⟩
      cases e with
      | normal =>
        obtain ⟨e1, e2, e3⟩ := fin none I W3 hI hp.1 hp.2
        exact ⟨_, _, e1, .inl ⟨rfl, e2, by rw [sz]; exact e3⟩⟩
      | ret => exact jumped _ hp.1 hp.2
      | exit id => exact jumped _ hp.1 hp.2
      | goto t => exact jumped _ hp.1 hp.2
      | panic ch => exact hp.elim
      | outgrown => exact hp.elim
    · rintro e W2 ⟨⟨v, rfl⟩, ⟨xs, hS, hJ⟩ | ⟨pre, hSp, c, hJ⟩⟩
      · have hr := run_endLoop (P := P) hJ.2.1 (by rw [hR]; simp [recX])
        rw [hR] at hr
        exact ⟨none, _, hr, hdone xs _ hS (hI.put hJ.1 (by omega) _) ((World.putObj_heap_other (by omega)).trans hJ.2.2)⟩
      · have hr := run_endLoop (P := P) hJ.2.1 (by rw [hR]; simp [recX])
        rw [hR] at hr
        exact ⟨some c, _, hr, hstop c pre _ hSp ((hIx c).put hJ.1 (by omega) _) ((World.putObj_heap_other (by omega)).trans hJ.2.2)⟩
end Go.Proofs.Ytncplikadacjnaa
