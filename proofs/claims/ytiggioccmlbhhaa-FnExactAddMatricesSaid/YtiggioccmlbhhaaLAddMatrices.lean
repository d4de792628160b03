/-
  Proved: for every two matrices, the law FnExactAddMatrices returns true: the program's AddMatrices answers as the model's, writes into no argument, and its answer owns its memory.
  Conditions: none beyond the row's own (the arguments read as data).
-/
import Derived.Test.YtiggioccmlbhhaaRows
import Derived.ChangeOld
import Derived.Below
import Derived.Test.YtiggioccmlbhhaaMem
import Derived.Test.YtiggioccmlbhhaaMatI6
import Derived.Deep.RegionHeld3
import Derived.Deep.DeepCutAuto
import Derived.WalkKit
import Derived.ProofKit
import Derived.OpenShut
import Derived.ShutString
import Derived.Carry
import Derived.Lib.SmallJoins
namespace Go.Proofs.Ytiggioccmlbhhaa.fnExactAddMatrices
open Go.ChangeShapes Go.WideShapes Go.ChangeAt Go.RowKit
open Go.ChangeMaps (open_string shut_string)
set_option linter.unusedVariables false

theorem own : ownKnob Try.prog.godebug = none := by kernel_rfl
theorem laidOut : laidOutB Try.prog = true := by kernel_rfl
theorem cells34 : Try.prog.cellsOf 34 = 3 := by kernel_rfl
/-- What the walk is told of a slice of integers that came in: it is nil; or it leads to a row of 'cap' cells, the numbers 'zs' (the first 'len' are its elements), each fitting its kind. -/
def IsRow (k : IntKind) (w : World) (a : Option Addr) (len cap : Nat) (zs : List Int) : Prop :=
  (a = none ∧ len = 0 ∧ cap = 0 ∧ zs = []) ∨
  ∃ x, a = some x ∧ len ≤ cap ∧ cap ≤ maxLen ∧ zs.length = cap ∧ (∀ i, i < zs.length → w.cell? (x.add i) = some (.int k (zs.getD i 0))) ∧ ∀ n ∈ zs, (Lit.int k n).wf = true
theorem isRow_of {H : Type} {enc : TypeId × Value → H} {P : Program} {W : World} {base : Nat} {held : Bool} {t e : TypeId} {k : IntKind} {a : Option Addr} {len cap fuel : Nat} {x : DataW H × List MemPlace}
    (ht : P.underlying t = some (.slice e)) (he : P.underlying e = some (.int k)) (hc : P.cellsOf e = 1) (hf : DataW.trod enc P W base (fun _ => true) held fuel t [.slice a len cap] = some x) : ∃ zs, IsRow k W a len cap zs := by
  rcases open_ints ht he hc hf with ⟨hcs, _⟩ | ⟨x, l, c, zs, hcs, _, hl, hm, hz, _, hcell, hwz⟩
  · simp at hcs
    obtain ⟨rfl, rfl, rfl⟩ := hcs
    exact ⟨[], .inl ⟨rfl, rfl, rfl, rfl⟩⟩
  · simp at hcs
    obtain ⟨rfl, rfl, rfl⟩ := hcs
    exact ⟨zs, .inr ⟨_, rfl, hl, hm, by simpa using hz, hcell, hwz⟩⟩
theorem codeRd {w : World} {a : Option Addr} {len cap : Nat} {zs : List Int} (h : IsRow .i64 w a len cap zs) : ∃ xs : List Int, Rd w a xs ∧ len = xs.length ∧ len ≤ 9223372036854775807 := by
  rcases h with ⟨rfl, rfl, rfl, rfl⟩ | ⟨x, rfl, hl, hm, hz, hcell, hwf⟩
  · exact ⟨[], Rd.nil _ _, rfl, by omega⟩
  · refine ⟨zs.take len, fun i hi => ?_, by simp; omega, by unfold maxLen at hm; omega⟩
    simp only [List.length_take] at hi
    obtain ⟨b, o, rfl, hc⟩ := ints_at hcell (by omega)
    refine ⟨b, o, rfl, ?_⟩
    rw [hc i (by omega)]
    simp [List.getD, show i < len by omega]
set_option maxRecDepth 100000 in
set_option maxHeartbeats 8000000 in

theorem walk (a0_0 : Int) (a0_1 : Int) (a0_2 : Option Addr) (len0_2 cap0_2 : Nat) (z0_2 : List Int) (a1_0 : Int) (a1_1 : Int) (a1_2 : Option Addr) (len1_2 cap1_2 : Nat) (z1_2 : List Int) (w : World) (w0_0 : (Lit.int .i64 a0_0).wf = true) (w0_1 : (Lit.int .i64 a0_1).wf = true) (w0_2 : IsRow .i64 w a0_2 len0_2 cap0_2 z0_2) (w1_0 : (Lit.int .i64 a1_0).wf = true) (w1_1 : (Lit.int .i64 a1_1).wf = true) (w1_2 : IsRow .i64 w a1_2 len1_2 cap1_2 z1_2) :
    Calls Try.prog 4 #[.agg #[.int .i64 a0_0, .int .i64 a0_1, .slice a0_2 len0_2 cap0_2], .agg #[.int .i64 a1_0, .int .i64 a1_1, .slice a1_2 len1_2 cap1_2]] w fun e w' => e = .returned (.bool true) ∧ Below w.heap.size w w' := by
  obtain ⟨xs0, hx, rfl, lx0⟩ := codeRd w0_2
  have HX0 := Lib.hid hx
  clear hx w0_2 w0_0 w0_1
  obtain ⟨xs1, hx, rfl, lx1⟩ := codeRd w1_2
  have HX1 := Lib.hid hx
  clear hx w1_2 w1_0 w1_1
  by_cases bx0 : xs0.length ≤ 1048576
  · by_cases bx1 : xs0.length + xs1.length ≤ 1048576
    · go_enter Try.func4, Try.ntmps4
      go_wp2_with fail
      refine (szM a0_0 a0_1 a0_2 xs0.length cap0_2 (1048576) _ (by omega) (by omega)).mono ?_
      rintro e w2 ⟨rfl, hb⟩
      have P0 : Hid (Blk3 w2 w.heap.size 34 (.int .i64 a0_0) (.int .i64 a0_1) (.slice a0_2 xs0.length cap0_2)) := ((Blk3.at_ _ _ _ _ rfl).old _).keep hb (by simp <;> omega)
      have P1 : Hid (Blk3 w2 (w.heap.size + 1) 34 (.int .i64 a1_0) (.int .i64 a1_1) (.slice a1_2 xs1.length cap1_2)) := (Blk3.at_ _ _ _ _ (by simp)).keep hb (by simp <;> omega)
      have B : Hid (Below w.heap.size w w2) := (((Below.refl _ _).alloc (Nat.le_refl _) _).alloc (by simp) _).trans (hb.mono (by simp <;> omega))
      clear hb
      obtain ⟨cc1_00, cc1_01, cc1_02, -, -, -⟩ := P0.out.all
      have ll1_0 := P0.out.lt
      obtain ⟨cc1_10, cc1_11, cc1_12, -, -, -⟩ := P1.out.all
      have ll1_1 := P1.out.lt
      go_wp2_with fail
      refine (szM a1_0 a1_1 a1_2 xs1.length cap1_2 (1048576 - (xs0.length : Int)) _ (by omega) (by omega)).mono ?_
      rintro e w3 ⟨rfl, hb⟩
      have P0 := Lib.hid (P0.out.step hb)
      have P1 := Lib.hid (P1.out.step hb)
      have B := Lib.hid (stepB B.out hb)
      clear hb
      obtain ⟨cc2_00, cc2_01, cc2_02, -, -, -⟩ := P0.out.all
      have ll2_0 := P0.out.lt
      obtain ⟨cc2_10, cc2_11, cc2_12, -, -, -⟩ := P1.out.all
      have ll2_1 := P1.out.lt
      go_wp2_with fail
      obtain ⟨mr, hmr⟩ : ∃ mr, addM a0_0 a0_1 xs0 a1_0 a1_1 xs1 = mr := ⟨_, rfl⟩
      have MRH := Lib.hid hmr
      clear hmr
      have XP : Hid (Blk3 w3 w.heap.size 34 (.int .i64 a0_0) (.int .i64 a0_1) (.slice a0_2 xs0.length cap0_2) ∧ Blk3 w3 (w.heap.size + 1) 34 (.int .i64 a1_0) (.int .i64 a1_1) (.slice a1_2 xs1.length cap1_2) ) := ⟨P0.out, P1.out⟩
      go_cut [6, 7] (fun s1 s2 wx => ∃ (p6 : Nat) (v0 : Value), s1 = .pointer (some ⟨p6, 0, none⟩) ∧ s2 = .bool mr.ok ∧ Blk3 wx p6 26 (.int .i64 mr.r) (.int .i64 mr.c) v0 ∧ In w3.heap.size wx.heap.size wx v0 mr.zs ∧ Below w3.heap.size w3 wx)
      case first =>
        refine wp_region_held_drew (S := fun w' => Below w3.heap.size w3 w') (by kernel_rfl) (Below.refl _ _).drew (fun hH => ?_)
        refine wpAnyH_take (i := 0) (v := ?_) (by simp only [List.getElem?_toArray, List.getElem?_cons_zero]; rfl) (by kernel_rfl) (by kernel_rfl) (by kernel_rfl) (by exact fun _ _ _ h => h) (Or.inl ⟨by rfl, ?_⟩) hH ?_
        rotate_left
        · (intro wS hS; (try dsimp only at hS); obtain ⟨k1, k2, k3, k4, k5, k6⟩ := six XP.out.1 XP.out.2 hS; go_simp; try rfl)
        try simp only [Act.put, List.setIfInBounds_toArray, List.set_cons_zero, List.set_cons_succ]
        refine wpAnyH_take (i := 2) (v := ?_) (by simp only [List.getElem?_toArray, List.getElem?_cons_succ, List.getElem?_cons_zero]; rfl) (by kernel_rfl) (by kernel_rfl) (by kernel_rfl) (by exact fun _ _ _ h => h) (Or.inl ⟨by rfl, ?_⟩) hH ?_
        rotate_left
        · (intro wS hS; (try dsimp only at hS); obtain ⟨k1, k2, k3, k4, k5, k6⟩ := six XP.out.1 XP.out.2 hS; go_simp; try rfl)
        try simp only [Act.put, List.setIfInBounds_toArray, List.set_cons_zero, List.set_cons_succ]
        refine wpAnyH_ready (rs := [1, 8]) (by kernel_rfl) (by simp) ?_
        refine AllReadyH.cons (by simp only [List.getElem?_toArray, List.getElem?_cons_succ, List.getElem?_cons_zero]; rfl) (fun K hK => ?_) (AllReadyH.cons (by simp only [List.getElem?_toArray, List.getElem?_cons_succ, List.getElem?_cons_zero]; rfl) (fun K hK => ?_) AllReadyH.nil)
        · go_simp
          have hs30 := hH.size
          (with_reducible refine (toM a0_0 a0_1 a0_2 cap0_2 xs0 _ (HX0.out.below (B.out.trans (hH.mono B.out.size))) (by omega)).mono ?_)
          rintro e v30 ⟨g1, rfl, gg1, gi1, hb30⟩
          have I1 := Lib.hid gi1
          clear gi1 gg1
          try dsimp only
          refine hK.out _ _ ?_ (fun hH2 => ?_)
          · exact hH.trans (hb30.mono hH.size)
          clear hK K
          have hO := hH
          clear hH
          have hH := hH2
          clear hH2
          try simp only [Act.put, List.setIfInBounds_toArray, List.set_cons_zero, List.set_cons_succ]
          have z30 := hb30.size
          refine wpAnyH_ready (rs := [3, 8]) (by kernel_rfl) (by simp) ?_
          refine AllReadyH.cons (by simp only [List.getElem?_toArray, List.getElem?_cons_succ, List.getElem?_cons_zero]; rfl) (fun K hK => ?_) (AllReadyH.cons (by simp only [List.getElem?_toArray, List.getElem?_cons_succ, List.getElem?_cons_zero]; rfl) (fun K hK => ?_) AllReadyH.nil)
          · go_simp
            have hs31 := hH.size
            (with_reducible refine (toM a1_0 a1_1 a1_2 cap1_2 xs1 _ (HX1.out.below (B.out.trans (hH.mono B.out.size))) (by omega)).mono ?_)
            rintro e v31 ⟨g2, rfl, gg2, gi2, hb31⟩
            have I2 := Lib.hid gi2
            have I1 := Lib.hid (I1.out.keep hb31 I1.out.lt)
            clear gi2 gg2
            try dsimp only
            refine hK.out _ _ ?_ (fun hH2 => ?_)
            · exact hH.trans (hb31.mono hH.size)
            clear hK K
            have hO := hH
            clear hH
            have hH := hH2
            clear hH2
            try simp only [Act.put, List.setIfInBounds_toArray, List.set_cons_zero, List.set_cons_succ]
            have z31 := hb31.size
            refine wpAnyH_ready (rs := [4, 8]) (by kernel_rfl) (by simp) ?_
            refine AllReadyH.cons (by simp only [List.getElem?_toArray, List.getElem?_cons_succ, List.getElem?_cons_zero]; rfl) (fun K hK => ?_) (AllReadyH.cons (by simp only [List.getElem?_toArray, List.getElem?_cons_succ, List.getElem?_cons_zero]; rfl) (fun K hK => ?_) AllReadyH.nil)
            · go_simp
              have hs32 := hH.size
              (with_reducible refine (sAdd a0_0 a0_1 a1_0 a1_1 (some ⟨g1, 0, none⟩) (some ⟨g2, 0, none⟩) xs0.length xs1.length xs0 xs1 _ I1.out.rd I2.out.rd (by omega) (by omega)).mono ?_)
              rintro e v32 ⟨v1, rfl, own, hb32⟩
              rw [MRH.out] at own ⊢
              obtain ⟨q1, q1c, rfl, -, -⟩ := own.form
              have O1 := Lib.hid own.inn
              clear own
              try dsimp only
              refine hK.out _ _ ?_ (fun hH2 => ?_)
              · exact hH.trans (hb32.mono hH.size)
              clear hK K
              have hO := hH
              clear hH
              have hH := hH2
              clear hH2
              try simp only [Act.put, List.setIfInBounds_toArray, List.set_cons_zero, List.set_cons_succ]
              have z32 := hb32.size
              refine wpAnyH_take (i := 5) (v := ?_) (by simp only [List.getElem?_toArray, List.getElem?_cons_succ, List.getElem?_cons_zero]; rfl) (by kernel_rfl) (by kernel_rfl) (by kernel_rfl) (by exact fun _ _ _ h => h) (Or.inl ⟨by rfl, ?_⟩) hH ?_
              rotate_left
              · (intro wS hS; clear hS; go_simp; try rfl)
              try simp only [Act.put, List.setIfInBounds_toArray, List.set_cons_zero, List.set_cons_succ]
              refine wpAnyH_take (i := 6) (v := ?_) (by simp only [List.getElem?_toArray, List.getElem?_cons_succ, List.getElem?_cons_zero]; rfl) (by kernel_rfl) (by kernel_rfl) (by kernel_rfl) (by exact fun _ _ _ h => h) (Or.inl ⟨by rfl, ?_⟩) hH ?_
              rotate_left
              · (intro wS hS; clear hS; go_simp; try rfl)
              try simp only [Act.put, List.setIfInBounds_toArray, List.set_cons_zero, List.set_cons_succ]
              refine wpAnyH_take (i := 7) (v := ?_) (by simp only [List.getElem?_toArray, List.getElem?_cons_succ, List.getElem?_cons_zero]; rfl) (by kernel_rfl) (by kernel_rfl) (by kernel_rfl) (by exact fun _ _ _ h => h) (Or.inl ⟨by rfl, ?_⟩) hH ?_
              rotate_left
              · (intro wS hS; clear hS; go_simp; try rfl)
              try simp only [Act.put, List.setIfInBounds_toArray, List.set_cons_zero, List.set_cons_succ]
              refine wpAnyH_ready (rs := [8]) (by kernel_rfl) (by simp) ?_
              refine AllReadyH.cons (by simp only [List.getElem?_toArray, List.getElem?_cons_succ, List.getElem?_cons_zero]; rfl) (fun K hK => ?_) AllReadyH.nil
              go_simp
              have VB : Hid (Blk3 (v32.alloc (.cells #[.int .i64 0, .int .i64 0, .slice none 0 0] 26)) v32.heap.size 26 (.int .i64 0) (.int .i64 0) (.slice none 0 0)) := Blk3.at_ _ _ _ _ rfl
              have PL : w3.heap.size ≤ v32.heap.size := hH.size
              try dsimp only
              refine hK.out _ _ ?_ (fun hH2 => ?_)
              · exact hH.alloc hH.size _
              clear hK K
              have hO := hH
              clear hH
              have hH := hH2
              clear hH2
              try simp only [Act.put, List.setIfInBounds_toArray, List.set_cons_zero, List.set_cons_succ]
              refine wpAnyH_ready (rs := [9]) (by kernel_rfl) (by simp) ?_
              refine AllReadyH.cons (by simp only [List.getElem?_toArray, List.getElem?_cons_succ, List.getElem?_cons_zero]; rfl) (fun K hK => ?_) AllReadyH.nil
              go_simp
              have VB : Hid (Blk3 (v32.alloc (.cells #[.int .i64 mr.r, .int .i64 mr.c, .slice q1 mr.zs.length q1c] 26)) v32.heap.size 26 (.int .i64 mr.r) (.int .i64 mr.c) (.slice q1 mr.zs.length q1c)) := Blk3.at_ _ _ _ _ rfl
              try dsimp only
              refine hK.out _ _ ?_ (fun hH2 => ?_)
              · exact hO.alloc hO.size _
              clear hK K
              have hO := hH
              clear hH
              have hH := hH2
              clear hH2
              try simp only [Act.put, List.setIfInBounds_toArray, List.set_cons_zero, List.set_cons_succ]
              refine wpAnyH_take (i := 10) (v := ?_) (by simp only [List.getElem?_toArray, List.getElem?_cons_succ, List.getElem?_cons_zero]; rfl) (by kernel_rfl) (by kernel_rfl) (by kernel_rfl) (by exact fun _ _ _ h => h) (Or.inl ⟨by rfl, ?_⟩) hH ?_
              rotate_left
              · (intro wS hS; clear hS; go_simp; try rfl)
              try simp only [Act.put, List.setIfInBounds_toArray, List.set_cons_zero, List.set_cons_succ]
              refine wpAnyH_done (by kernel_rfl) ?_ _
              go_wp2_with fail
              go_meet
              exact ⟨v32.heap.size, _, rfl, rfl, VB.out, (O1.out.old _).wide hs32 (by simp), hH⟩
            · go_simp
              have VB : Hid (Blk3 (v31.alloc (.cells #[.int .i64 0, .int .i64 0, .slice none 0 0] 26)) v31.heap.size 26 (.int .i64 0) (.int .i64 0) (.slice none 0 0)) := Blk3.at_ _ _ _ _ rfl
              have I1 := Lib.hid (I1.out.old (.cells #[.int .i64 0, .int .i64 0, .slice none 0 0] 26))
              have I2 := Lib.hid (I2.out.old (.cells #[.int .i64 0, .int .i64 0, .slice none 0 0] 26))
              have PL : w3.heap.size ≤ v31.heap.size := hH.size
              try dsimp only
              refine hK.out _ _ ?_ (fun hH2 => ?_)
              · exact hH.alloc hH.size _
              clear hK K
              have hO := hH
              clear hH
              have hH := hH2
              clear hH2
              try simp only [Act.put, List.setIfInBounds_toArray, List.set_cons_zero, List.set_cons_succ]
              refine wpAnyH_ready (rs := [4]) (by kernel_rfl) (by simp) ?_
              refine AllReadyH.cons (by simp only [List.getElem?_toArray, List.getElem?_cons_succ, List.getElem?_cons_zero]; rfl) (fun K hK => ?_) AllReadyH.nil
              go_simp
              have hs32 := hH.size
              have lb32 := VB.out.lt
              (with_reducible refine (sAdd a0_0 a0_1 a1_0 a1_1 (some ⟨g1, 0, none⟩) (some ⟨g2, 0, none⟩) xs0.length xs1.length xs0 xs1 _ I1.out.rd I2.out.rd (by omega) (by omega)).mono ?_)
              rintro e v32 ⟨v1, rfl, own, hb32⟩
              rw [MRH.out] at own ⊢
              obtain ⟨q1, q1c, rfl, -, -⟩ := own.form
              have O1 := Lib.hid own.inn
              clear own
              have VB := Lib.hid (VB.out.keep hb32 VB.out.lt)
              try dsimp only
              refine hK.out _ _ ?_ (fun hH2 => ?_)
              · exact hH.trans (hb32.mono hH.size)
              clear hK K
              have hO := hH
              clear hH
              have hH := hH2
              clear hH2
              try simp only [Act.put, List.setIfInBounds_toArray, List.set_cons_zero, List.set_cons_succ]
              have z32 := hb32.size
              refine wpAnyH_take (i := 5) (v := ?_) (by simp only [List.getElem?_toArray, List.getElem?_cons_succ, List.getElem?_cons_zero]; rfl) (by kernel_rfl) (by kernel_rfl) (by kernel_rfl) (by exact fun _ _ _ h => h) (Or.inl ⟨by rfl, ?_⟩) hH ?_
              rotate_left
              · (intro wS hS; clear hS; go_simp; try rfl)
              try simp only [Act.put, List.setIfInBounds_toArray, List.set_cons_zero, List.set_cons_succ]
              refine wpAnyH_take (i := 6) (v := ?_) (by simp only [List.getElem?_toArray, List.getElem?_cons_succ, List.getElem?_cons_zero]; rfl) (by kernel_rfl) (by kernel_rfl) (by kernel_rfl) (by exact fun _ _ _ h => h) (Or.inl ⟨by rfl, ?_⟩) hH ?_
              rotate_left
              · (intro wS hS; clear hS; go_simp; try rfl)
              try simp only [Act.put, List.setIfInBounds_toArray, List.set_cons_zero, List.set_cons_succ]
              refine wpAnyH_take (i := 7) (v := ?_) (by simp only [List.getElem?_toArray, List.getElem?_cons_succ, List.getElem?_cons_zero]; rfl) (by kernel_rfl) (by kernel_rfl) (by kernel_rfl) (by exact fun _ _ _ h => h) (Or.inl ⟨by rfl, ?_⟩) hH ?_
              rotate_left
              · (intro wS hS; clear hS; go_simp; try rfl)
              try simp only [Act.put, List.setIfInBounds_toArray, List.set_cons_zero, List.set_cons_succ]
              refine wpAnyH_ready (rs := [9]) (by kernel_rfl) (by simp) ?_
              refine AllReadyH.cons (by simp only [List.getElem?_toArray, List.getElem?_cons_succ, List.getElem?_cons_zero]; rfl) (fun K hK => ?_) AllReadyH.nil
              obtain ⟨y0, y1, y2, y3, y4, y5⟩ := VB.out.all
              go_simp
              have VB := Lib.hid (((VB.out.set0 (.int .i64 mr.r)).set1 (.int .i64 mr.c)).set2 (.slice q1 mr.zs.length q1c))
              try dsimp only
              refine hK.out _ _ ?_ (fun hH2 => ?_)
              · exact (((hH.setCell PL _).setCell PL _).setCell PL _)
              clear hK K
              have hO := hH
              clear hH
              have hH := hH2
              clear hH2
              try simp only [Act.put, List.setIfInBounds_toArray, List.set_cons_zero, List.set_cons_succ]
              refine wpAnyH_take (i := 10) (v := ?_) (by simp only [List.getElem?_toArray, List.getElem?_cons_succ, List.getElem?_cons_zero]; rfl) (by kernel_rfl) (by kernel_rfl) (by kernel_rfl) (by exact fun _ _ _ h => h) (Or.inl ⟨by rfl, ?_⟩) hH ?_
              rotate_left
              · (intro wS hS; clear hS; go_simp; try rfl)
              try simp only [Act.put, List.setIfInBounds_toArray, List.set_cons_zero, List.set_cons_succ]
              refine wpAnyH_done (by kernel_rfl) ?_ _
              go_wp2_with fail
              go_meet
              exact ⟨v31.heap.size, _, rfl, rfl, VB.out, (((O1.out.far (.inl lb32) _).far (.inl lb32) _).far (.inl lb32) _).wide hs32 (by simp), hH⟩
          · go_simp
            have VB : Hid (Blk3 (v30.alloc (.cells #[.int .i64 0, .int .i64 0, .slice none 0 0] 26)) v30.heap.size 26 (.int .i64 0) (.int .i64 0) (.slice none 0 0)) := Blk3.at_ _ _ _ _ rfl
            have I1 := Lib.hid (I1.out.old (.cells #[.int .i64 0, .int .i64 0, .slice none 0 0] 26))
            have PL : w3.heap.size ≤ v30.heap.size := hH.size
            try dsimp only
            refine hK.out _ _ ?_ (fun hH2 => ?_)
            · exact hH.alloc hH.size _
            clear hK K
            have hO := hH
            clear hH
            have hH := hH2
            clear hH2
            try simp only [Act.put, List.setIfInBounds_toArray, List.set_cons_zero, List.set_cons_succ]
            refine wpAnyH_ready (rs := [3]) (by kernel_rfl) (by simp) ?_
            refine AllReadyH.cons (by simp only [List.getElem?_toArray, List.getElem?_cons_succ, List.getElem?_cons_zero]; rfl) (fun K hK => ?_) AllReadyH.nil
            go_simp
            have hs31 := hH.size
            have lb31 := VB.out.lt
            (with_reducible refine (toM a1_0 a1_1 a1_2 cap1_2 xs1 _ (HX1.out.below (B.out.trans (hH.mono B.out.size))) (by omega)).mono ?_)
            rintro e v31 ⟨g2, rfl, gg2, gi2, hb31⟩
            have I2 := Lib.hid gi2
            have I1 := Lib.hid (I1.out.keep hb31 I1.out.lt)
            clear gi2 gg2
            have VB := Lib.hid (VB.out.keep hb31 VB.out.lt)
            try dsimp only
            refine hK.out _ _ ?_ (fun hH2 => ?_)
            · exact hH.trans (hb31.mono hH.size)
            clear hK K
            have hO := hH
            clear hH
            have hH := hH2
            clear hH2
            try simp only [Act.put, List.setIfInBounds_toArray, List.set_cons_zero, List.set_cons_succ]
            have z31 := hb31.size
            refine wpAnyH_ready (rs := [4]) (by kernel_rfl) (by simp) ?_
            refine AllReadyH.cons (by simp only [List.getElem?_toArray, List.getElem?_cons_succ, List.getElem?_cons_zero]; rfl) (fun K hK => ?_) AllReadyH.nil
            go_simp
            have hs32 := hH.size
            have lb32 := VB.out.lt
            (with_reducible refine (sAdd a0_0 a0_1 a1_0 a1_1 (some ⟨g1, 0, none⟩) (some ⟨g2, 0, none⟩) xs0.length xs1.length xs0 xs1 _ I1.out.rd I2.out.rd (by omega) (by omega)).mono ?_)
            rintro e v32 ⟨v1, rfl, own, hb32⟩
            rw [MRH.out] at own ⊢
            obtain ⟨q1, q1c, rfl, -, -⟩ := own.form
            have O1 := Lib.hid own.inn
            clear own
            have VB := Lib.hid (VB.out.keep hb32 VB.out.lt)
            try dsimp only
            refine hK.out _ _ ?_ (fun hH2 => ?_)
            · exact hH.trans (hb32.mono hH.size)
            clear hK K
            have hO := hH
            clear hH
            have hH := hH2
            clear hH2
            try simp only [Act.put, List.setIfInBounds_toArray, List.set_cons_zero, List.set_cons_succ]
            have z32 := hb32.size
            refine wpAnyH_take (i := 5) (v := ?_) (by simp only [List.getElem?_toArray, List.getElem?_cons_succ, List.getElem?_cons_zero]; rfl) (by kernel_rfl) (by kernel_rfl) (by kernel_rfl) (by exact fun _ _ _ h => h) (Or.inl ⟨by rfl, ?_⟩) hH ?_
            rotate_left
            · (intro wS hS; clear hS; go_simp; try rfl)
            try simp only [Act.put, List.setIfInBounds_toArray, List.set_cons_zero, List.set_cons_succ]
            refine wpAnyH_take (i := 6) (v := ?_) (by simp only [List.getElem?_toArray, List.getElem?_cons_succ, List.getElem?_cons_zero]; rfl) (by kernel_rfl) (by kernel_rfl) (by kernel_rfl) (by exact fun _ _ _ h => h) (Or.inl ⟨by rfl, ?_⟩) hH ?_
            rotate_left
            · (intro wS hS; clear hS; go_simp; try rfl)
            try simp only [Act.put, List.setIfInBounds_toArray, List.set_cons_zero, List.set_cons_succ]
            refine wpAnyH_take (i := 7) (v := ?_) (by simp only [List.getElem?_toArray, List.getElem?_cons_succ, List.getElem?_cons_zero]; rfl) (by kernel_rfl) (by kernel_rfl) (by kernel_rfl) (by exact fun _ _ _ h => h) (Or.inl ⟨by rfl, ?_⟩) hH ?_
            rotate_left
            · (intro wS hS; clear hS; go_simp; try rfl)
            try simp only [Act.put, List.setIfInBounds_toArray, List.set_cons_zero, List.set_cons_succ]
            refine wpAnyH_ready (rs := [9]) (by kernel_rfl) (by simp) ?_
            refine AllReadyH.cons (by simp only [List.getElem?_toArray, List.getElem?_cons_succ, List.getElem?_cons_zero]; rfl) (fun K hK => ?_) AllReadyH.nil
            obtain ⟨y0, y1, y2, y3, y4, y5⟩ := VB.out.all
            go_simp
            have VB := Lib.hid (((VB.out.set0 (.int .i64 mr.r)).set1 (.int .i64 mr.c)).set2 (.slice q1 mr.zs.length q1c))
            try dsimp only
            refine hK.out _ _ ?_ (fun hH2 => ?_)
            · exact (((hH.setCell PL _).setCell PL _).setCell PL _)
            clear hK K
            have hO := hH
            clear hH
            have hH := hH2
            clear hH2
            try simp only [Act.put, List.setIfInBounds_toArray, List.set_cons_zero, List.set_cons_succ]
            refine wpAnyH_take (i := 10) (v := ?_) (by simp only [List.getElem?_toArray, List.getElem?_cons_succ, List.getElem?_cons_zero]; rfl) (by kernel_rfl) (by kernel_rfl) (by kernel_rfl) (by exact fun _ _ _ h => h) (Or.inl ⟨by rfl, ?_⟩) hH ?_
            rotate_left
            · (intro wS hS; clear hS; go_simp; try rfl)
            try simp only [Act.put, List.setIfInBounds_toArray, List.set_cons_zero, List.set_cons_succ]
            refine wpAnyH_done (by kernel_rfl) ?_ _
            go_wp2_with fail
            go_meet
            exact ⟨v30.heap.size, _, rfl, rfl, VB.out, (((O1.out.far (.inl lb32) _).far (.inl lb32) _).far (.inl lb32) _).wide hs32 (by simp), hH⟩
        · go_simp
          have VB : Hid (Blk3 (w3.drew.alloc (.cells #[.int .i64 0, .int .i64 0, .slice none 0 0] 26)) w3.heap.size 26 (.int .i64 0) (.int .i64 0) (.slice none 0 0)) := Blk3.at_ _ _ _ _ rfl
          have PL : w3.heap.size ≤ w3.drew.heap.size := hH.size
          try dsimp only
          refine hK.out _ _ ?_ (fun hH2 => ?_)
          · exact hH.alloc hH.size _
          clear hK K
          have hO := hH
          clear hH
          have hH := hH2
          clear hH2
          try simp only [Act.put, List.setIfInBounds_toArray, List.set_cons_zero, List.set_cons_succ]
          refine wpAnyH_ready (rs := [1]) (by kernel_rfl) (by simp) ?_
          refine AllReadyH.cons (by simp only [List.getElem?_toArray, List.getElem?_cons_succ, List.getElem?_cons_zero]; rfl) (fun K hK => ?_) AllReadyH.nil
          go_simp
          have hs30 := hH.size
          have lb30 := VB.out.lt
          (with_reducible refine (toM a0_0 a0_1 a0_2 cap0_2 xs0 _ (HX0.out.below (B.out.trans (hH.mono B.out.size))) (by omega)).mono ?_)
          rintro e v30 ⟨g1, rfl, gg1, gi1, hb30⟩
          have I1 := Lib.hid gi1
          clear gi1 gg1
          have VB := Lib.hid (VB.out.keep hb30 VB.out.lt)
          try dsimp only
          refine hK.out _ _ ?_ (fun hH2 => ?_)
          · exact hH.trans (hb30.mono hH.size)
          clear hK K
          have hO := hH
          clear hH
          have hH := hH2
          clear hH2
          try simp only [Act.put, List.setIfInBounds_toArray, List.set_cons_zero, List.set_cons_succ]
          have z30 := hb30.size
          refine wpAnyH_ready (rs := [3]) (by kernel_rfl) (by simp) ?_
          refine AllReadyH.cons (by simp only [List.getElem?_toArray, List.getElem?_cons_succ, List.getElem?_cons_zero]; rfl) (fun K hK => ?_) AllReadyH.nil
          go_simp
          have hs31 := hH.size
          have lb31 := VB.out.lt
          (with_reducible refine (toM a1_0 a1_1 a1_2 cap1_2 xs1 _ (HX1.out.below (B.out.trans (hH.mono B.out.size))) (by omega)).mono ?_)
          rintro e v31 ⟨g2, rfl, gg2, gi2, hb31⟩
          have I2 := Lib.hid gi2
          have I1 := Lib.hid (I1.out.keep hb31 I1.out.lt)
          clear gi2 gg2
          have VB := Lib.hid (VB.out.keep hb31 VB.out.lt)
          try dsimp only
          refine hK.out _ _ ?_ (fun hH2 => ?_)
          · exact hH.trans (hb31.mono hH.size)
          clear hK K
          have hO := hH
          clear hH
          have hH := hH2
          clear hH2
          try simp only [Act.put, List.setIfInBounds_toArray, List.set_cons_zero, List.set_cons_succ]
          have z31 := hb31.size
          refine wpAnyH_ready (rs := [4]) (by kernel_rfl) (by simp) ?_
          refine AllReadyH.cons (by simp only [List.getElem?_toArray, List.getElem?_cons_succ, List.getElem?_cons_zero]; rfl) (fun K hK => ?_) AllReadyH.nil
          go_simp
          have hs32 := hH.size
          have lb32 := VB.out.lt
          (with_reducible refine (sAdd a0_0 a0_1 a1_0 a1_1 (some ⟨g1, 0, none⟩) (some ⟨g2, 0, none⟩) xs0.length xs1.length xs0 xs1 _ I1.out.rd I2.out.rd (by omega) (by omega)).mono ?_)
          rintro e v32 ⟨v1, rfl, own, hb32⟩
          rw [MRH.out] at own ⊢
          obtain ⟨q1, q1c, rfl, -, -⟩ := own.form
          have O1 := Lib.hid own.inn
          clear own
          have VB := Lib.hid (VB.out.keep hb32 VB.out.lt)
          try dsimp only
          refine hK.out _ _ ?_ (fun hH2 => ?_)
          · exact hH.trans (hb32.mono hH.size)
          clear hK K
          have hO := hH
          clear hH
          have hH := hH2
          clear hH2
          try simp only [Act.put, List.setIfInBounds_toArray, List.set_cons_zero, List.set_cons_succ]
          have z32 := hb32.size
          refine wpAnyH_take (i := 5) (v := ?_) (by simp only [List.getElem?_toArray, List.getElem?_cons_succ, List.getElem?_cons_zero]; rfl) (by kernel_rfl) (by kernel_rfl) (by kernel_rfl) (by exact fun _ _ _ h => h) (Or.inl ⟨by rfl, ?_⟩) hH ?_
          rotate_left
          · (intro wS hS; clear hS; go_simp; try rfl)
          try simp only [Act.put, List.setIfInBounds_toArray, List.set_cons_zero, List.set_cons_succ]
          refine wpAnyH_take (i := 6) (v := ?_) (by simp only [List.getElem?_toArray, List.getElem?_cons_succ, List.getElem?_cons_zero]; rfl) (by kernel_rfl) (by kernel_rfl) (by kernel_rfl) (by exact fun _ _ _ h => h) (Or.inl ⟨by rfl, ?_⟩) hH ?_
          rotate_left
          · (intro wS hS; clear hS; go_simp; try rfl)
          try simp only [Act.put, List.setIfInBounds_toArray, List.set_cons_zero, List.set_cons_succ]
          refine wpAnyH_take (i := 7) (v := ?_) (by simp only [List.getElem?_toArray, List.getElem?_cons_succ, List.getElem?_cons_zero]; rfl) (by kernel_rfl) (by kernel_rfl) (by kernel_rfl) (by exact fun _ _ _ h => h) (Or.inl ⟨by rfl, ?_⟩) hH ?_
          rotate_left
          · (intro wS hS; clear hS; go_simp; try rfl)
          try simp only [Act.put, List.setIfInBounds_toArray, List.set_cons_zero, List.set_cons_succ]
          refine wpAnyH_ready (rs := [9]) (by kernel_rfl) (by simp) ?_
          refine AllReadyH.cons (by simp only [List.getElem?_toArray, List.getElem?_cons_succ, List.getElem?_cons_zero]; rfl) (fun K hK => ?_) AllReadyH.nil
          obtain ⟨y0, y1, y2, y3, y4, y5⟩ := VB.out.all
          go_simp
          have VB := Lib.hid (((VB.out.set0 (.int .i64 mr.r)).set1 (.int .i64 mr.c)).set2 (.slice q1 mr.zs.length q1c))
          try dsimp only
          refine hK.out _ _ ?_ (fun hH2 => ?_)
          · exact (((hH.setCell PL _).setCell PL _).setCell PL _)
          clear hK K
          have hO := hH
          clear hH
          have hH := hH2
          clear hH2
          try simp only [Act.put, List.setIfInBounds_toArray, List.set_cons_zero, List.set_cons_succ]
          refine wpAnyH_take (i := 10) (v := ?_) (by simp only [List.getElem?_toArray, List.getElem?_cons_succ, List.getElem?_cons_zero]; rfl) (by kernel_rfl) (by kernel_rfl) (by kernel_rfl) (by exact fun _ _ _ h => h) (Or.inl ⟨by rfl, ?_⟩) hH ?_
          rotate_left
          · (intro wS hS; clear hS; go_simp; try rfl)
          try simp only [Act.put, List.setIfInBounds_toArray, List.set_cons_zero, List.set_cons_succ]
          refine wpAnyH_done (by kernel_rfl) ?_ _
          go_wp2_with fail
          go_meet
          exact ⟨w3.heap.size, _, rfl, rfl, VB.out, (((O1.out.far (.inl lb32) _).far (.inl lb32) _).far (.inl lb32) _).wide hs32 (by simp), hH⟩
      case rest =>
        obtain ⟨pO, vO, rfl, rfl, kO, inO, hb⟩ := hcut
        obtain ⟨qO, qcO, rfl, -, -⟩ := inO.form
        have P0 := Lib.hid (P0.out.step hb)
        have P1 := Lib.hid (P1.out.step hb)
        have B := Lib.hid (stepB B.out hb)
        have KO := Lib.hid kO
        have O0 := Lib.hid inO
        have szO := inO.rd.2.2
        have sO := hb.size
        clear hb kO inO XP
        obtain ⟨cc3_00, cc3_01, cc3_02, -, -, -⟩ := P0.out.all
        have ll3_0 := P0.out.lt
        obtain ⟨cc3_10, cc3_11, cc3_12, -, -, -⟩ := P1.out.all
        have ll3_1 := P1.out.lt
        obtain ⟨cc3_20, cc3_21, cc3_22, -, -, -⟩ := KO.out.all
        have ll3_2 := KO.out.lt
        go_wp2_with fail
        refine (toM a0_0 a0_1 a0_2 cap0_2 xs0 _ (HX0.out.below B.out) (by omega)).mono ?_
        rintro e w4 ⟨gx0, rfl, ggx, gix, hb⟩
        have P0 := Lib.hid (P0.out.step hb)
        have P1 := Lib.hid (P1.out.step hb)
        have KO := Lib.hid (KO.out.step hb)
        have O0 := Lib.hid (O0.out.keep hb)
        have B := Lib.hid (stepB B.out hb)
        have X0 : Hid (In wc.heap.size w4.heap.size w4 (.slice (some ⟨gx0, 0, none⟩) xs0.length xs0.length) xs0) := In.of_new ggx gix (by omega)
        have sw4 : wc.heap.size ≤ w4.heap.size := by have := hb.size; simpa using this
        have KX0 : Hid (Blk3 (w4.alloc (.cells #[.int .i64 a0_0, .int .i64 a0_1, .slice (some ⟨gx0, 0, none⟩) xs0.length xs0.length] 26)) w4.heap.size 26 (.int .i64 a0_0) (.int .i64 a0_1) (.slice (some ⟨gx0, 0, none⟩) xs0.length xs0.length)) := Blk3.at_ _ _ _ _ rfl
        clear hb ggx gix
        obtain ⟨cc4_00, cc4_01, cc4_02, -, -, -⟩ := P0.out.all
        have ll4_0 := P0.out.lt
        obtain ⟨cc4_10, cc4_11, cc4_12, -, -, -⟩ := P1.out.all
        have ll4_1 := P1.out.lt
        obtain ⟨cc4_20, cc4_21, cc4_22, -, -, -⟩ := KO.out.all
        have ll4_2 := KO.out.lt
        go_wp2_with fail
        refine (toM a1_0 a1_1 a1_2 cap1_2 xs1 _ (HX1.out.below (B.out.alloc B.out.size _)) (by omega)).mono ?_
        rintro e w5 ⟨gx1, rfl, ggx, gix, hb⟩
        have KX0 := Lib.hid (KX0.out.step hb)
        have P0 := Lib.hid ((P0.out.old _).step hb)
        have P1 := Lib.hid ((P1.out.old _).step hb)
        have KO := Lib.hid ((KO.out.old _).step hb)
        have O0 := Lib.hid ((O0.out.old _).keep hb)
        have X0 := Lib.hid ((X0.out.old _).keep hb)
        have B := Lib.hid (stepB (B.out.alloc B.out.size _) hb)
        have X1 : Hid (In (w4.heap.size + 1) w5.heap.size w5 (.slice (some ⟨gx1, 0, none⟩) xs1.length xs1.length) xs1) := In.of_new (by simpa using ggx) gix (by omega)
        have sw5 : (w4.heap.size + 1) ≤ w5.heap.size := by have := hb.size; simpa using this
        have KX1 : Hid (Blk3 (w5.alloc (.cells #[.int .i64 a1_0, .int .i64 a1_1, .slice (some ⟨gx1, 0, none⟩) xs1.length xs1.length] 26)) w5.heap.size 26 (.int .i64 a1_0) (.int .i64 a1_1) (.slice (some ⟨gx1, 0, none⟩) xs1.length xs1.length)) := Blk3.at_ _ _ _ _ rfl
        clear hb ggx gix
        obtain ⟨cc5_00, cc5_01, cc5_02, -, -, -⟩ := P0.out.all
        have ll5_0 := P0.out.lt
        obtain ⟨cc5_10, cc5_11, cc5_12, -, -, -⟩ := P1.out.all
        have ll5_1 := P1.out.lt
        obtain ⟨cc5_20, cc5_21, cc5_22, -, -, -⟩ := KO.out.all
        have ll5_2 := KO.out.lt
        obtain ⟨cc5_30, cc5_31, cc5_32, -, -, -⟩ := KX0.out.all
        have ll5_3 := KX0.out.lt
        go_wp2_with fail
        refine (iAdd a0_0 a0_1 a1_0 a1_1 (some ⟨gx0, 0, none⟩) (some ⟨gx1, 0, none⟩) xs0.length xs1.length xs0 xs1 _ (X0.out.old _).rd.2.1 (X1.out.old _).rd.2.1 (by omega) (by omega)).mono ?_
        rintro e w6 ⟨vG, rfl, own, hb⟩
        rw [MRH.out] at own ⊢
        obtain ⟨qG, qcG, rfl, -, -⟩ := own.form
        have KX1 := Lib.hid (KX1.out.step hb)
        have P0 := Lib.hid ((P0.out.old _).step hb)
        have P1 := Lib.hid ((P1.out.old _).step hb)
        have KO := Lib.hid ((KO.out.old _).step hb)
        have O0 := Lib.hid ((O0.out.old _).keep hb)
        have X0 := Lib.hid ((X0.out.old _).keep hb)
        have KX0 := Lib.hid ((KX0.out.old _).step hb)
        have X1 := Lib.hid ((X1.out.old _).keep hb)
        have B := Lib.hid (stepB (B.out.alloc B.out.size _) hb)
        have G0 : Hid (In (w5.heap.size + 1) w6.heap.size w6 (.slice qG mr.zs.length qcG) mr.zs) := by have := own.inn; (try simp at this); exact this
        have sw6 : (w5.heap.size + 1) ≤ w6.heap.size := by have := hb.size; simpa using this
        have KG : Hid (Blk3 (w6.alloc (.cells #[.int .i64 mr.r, .int .i64 mr.c, .slice qG mr.zs.length qcG] 26)) w6.heap.size 26 (.int .i64 mr.r) (.int .i64 mr.c) (.slice qG mr.zs.length qcG)) := Blk3.at_ _ _ _ _ rfl
        have szG := own.small
        clear hb own
        obtain ⟨cc6_00, cc6_01, cc6_02, -, -, -⟩ := P0.out.all
        have ll6_0 := P0.out.lt
        obtain ⟨cc6_10, cc6_11, cc6_12, -, -, -⟩ := P1.out.all
        have ll6_1 := P1.out.lt
        obtain ⟨cc6_20, cc6_21, cc6_22, -, -, -⟩ := KO.out.all
        have ll6_2 := KO.out.lt
        obtain ⟨cc6_30, cc6_31, cc6_32, -, -, -⟩ := KX0.out.all
        have ll6_3 := KX0.out.lt
        obtain ⟨cc6_40, cc6_41, cc6_42, -, -, -⟩ := KX1.out.all
        have ll6_4 := KX1.out.lt
        go_wp2_with fail
        refine (eqM_t mr.r mr.c qG qO qcG qcO mr.zs _ (G0.out.old _).rd.2.1 (O0.out.old _).rd.2.1 szG).mono ?_
        rintro e w7 ⟨rfl, hb⟩
        have KG := Lib.hid (KG.out.step hb)
        have P0 := Lib.hid ((P0.out.old _).step hb)
        have P1 := Lib.hid ((P1.out.old _).step hb)
        have KO := Lib.hid ((KO.out.old _).step hb)
        have O0 := Lib.hid ((O0.out.old _).keep hb)
        have X0 := Lib.hid ((X0.out.old _).keep hb)
        have KX0 := Lib.hid ((KX0.out.old _).step hb)
        have X1 := Lib.hid ((X1.out.old _).keep hb)
        have KX1 := Lib.hid ((KX1.out.old _).step hb)
        have G0 := Lib.hid ((G0.out.old _).keep hb)
        have B := Lib.hid (stepB (B.out.alloc B.out.size _) hb)
        clear hb
        obtain ⟨cc7_00, cc7_01, cc7_02, -, -, -⟩ := P0.out.all
        have ll7_0 := P0.out.lt
        obtain ⟨cc7_10, cc7_11, cc7_12, -, -, -⟩ := P1.out.all
        have ll7_1 := P1.out.lt
        obtain ⟨cc7_20, cc7_21, cc7_22, -, -, -⟩ := KO.out.all
        have ll7_2 := KO.out.lt
        obtain ⟨cc7_30, cc7_31, cc7_32, -, -, -⟩ := KX0.out.all
        have ll7_3 := KX0.out.lt
        obtain ⟨cc7_40, cc7_41, cc7_42, -, -, -⟩ := KX1.out.all
        have ll7_4 := KX1.out.lt
        obtain ⟨cc7_50, cc7_51, cc7_52, -, -, -⟩ := KG.out.all
        have ll7_5 := KG.out.lt
        go_wp2_with fail
        refine wp_region_held_drew (S := fun w' => Below w7.heap.size w7 w') (by kernel_rfl) (Below.refl _ _).drew (fun hH => ?_)
        refine wpAnyH_take (i := 0) (v := ?_) (by simp only [List.getElem?_toArray, List.getElem?_cons_zero]; rfl) (by kernel_rfl) (by kernel_rfl) (by kernel_rfl) (by exact fun _ _ _ h => h) (Or.inl ⟨by rfl, ?_⟩) hH ?_
        rotate_left
        · (intro wS hS; (try dsimp only at hS); obtain ⟨k1, k2, k3, k4, k5, k6⟩ := six KX0.out P0.out hS; go_simp; try rfl)
        try simp only [Act.put, List.setIfInBounds_toArray, List.set_cons_zero, List.set_cons_succ]
        refine wpAnyH_take (i := 1) (v := ?_) (by simp only [List.getElem?_toArray, List.getElem?_cons_succ, List.getElem?_cons_zero]; rfl) (by kernel_rfl) (by kernel_rfl) (by kernel_rfl) (by exact fun _ _ _ h => h) (Or.inl ⟨by rfl, ?_⟩) hH ?_
        rotate_left
        · (intro wS hS; (try dsimp only at hS); obtain ⟨k1, k2, k3, k4, k5, k6⟩ := six KX0.out P0.out hS; go_simp; try rfl)
        try simp only [Act.put, List.setIfInBounds_toArray, List.set_cons_zero, List.set_cons_succ]
        refine wpAnyH_ready (rs := [2]) (by kernel_rfl) (by simp) ?_
        refine AllReadyH.cons (by simp only [List.getElem?_toArray, List.getElem?_cons_succ, List.getElem?_cons_zero]; rfl) (fun K hK => ?_) AllReadyH.nil
        go_simp
        (with_reducible refine (toM a0_0 a0_1 a0_2 cap0_2 xs0 _ (HX0.out.below (stepB B.out hH)) (by omega)).mono ?_)
        rintro e v40 ⟨g40, rfl, gg40, gi40, hb40⟩
        have I40 := Lib.hid gi40
        clear gi40 gg40
        try dsimp only
        refine hK.out _ _ ?_ (fun hH2 => ?_)
        · exact hH.trans (hb40.mono hH.size)
        clear hK K hH
        have hH := hH2
        clear hH2
        try simp only [Act.put, List.setIfInBounds_toArray, List.set_cons_zero, List.set_cons_succ]
        refine wpAnyH_ready (rs := [3]) (by kernel_rfl) (by simp) ?_
        refine AllReadyH.cons (by simp only [List.getElem?_toArray, List.getElem?_cons_succ, List.getElem?_cons_zero]; rfl) (fun K hK => ?_) AllReadyH.nil
        go_simp
        (with_reducible refine (eqM_t a0_0 a0_1 (some ⟨gx0, 0, none⟩) (some ⟨g40, 0, none⟩) xs0.length xs0.length xs0 _ (X0.out.keep hH).rd.2.1 I40.out.rd (by omega)).mono ?_)
        rintro e v41 ⟨rfl, hb41⟩
        try dsimp only
        refine hK.out _ _ ?_ (fun hH2 => ?_)
        · exact hH.trans (hb41.mono hH.size)
        clear hK K hH
        have hH := hH2
        clear hH2
        try simp only [Act.put, List.setIfInBounds_toArray, List.set_cons_zero, List.set_cons_succ]
        refine wpAnyH_take (i := 4) (v := ?_) (by simp only [List.getElem?_toArray, List.getElem?_cons_succ, List.getElem?_cons_zero]; rfl) (by kernel_rfl) (by kernel_rfl) (by kernel_rfl) (by exact fun _ _ _ h => h) (Or.inl ⟨by rfl, ?_⟩) hH ?_
        rotate_left
        · (intro wS hS; clear hS; go_simp; try rfl)
        try simp only [Act.put, List.setIfInBounds_toArray, List.set_cons_zero, List.set_cons_succ]
        refine wpAnyH_done (by kernel_rfl) ?_ _
        have hb := hH
        clear hH hb40 hb41
        have P0 := Lib.hid (P0.out.step hb)
        have P1 := Lib.hid (P1.out.step hb)
        have KO := Lib.hid (KO.out.step hb)
        have O0 := Lib.hid (O0.out.keep hb)
        have X0 := Lib.hid (X0.out.keep hb)
        have KX0 := Lib.hid (KX0.out.step hb)
        have X1 := Lib.hid (X1.out.keep hb)
        have KX1 := Lib.hid (KX1.out.step hb)
        have G0 := Lib.hid (G0.out.keep hb)
        have KG := Lib.hid (KG.out.step hb)
        have B := Lib.hid (stepB B.out hb)
        clear hb I40
        obtain ⟨cc8_00, cc8_01, cc8_02, -, -, -⟩ := P0.out.all
        have ll8_0 := P0.out.lt
        obtain ⟨cc8_10, cc8_11, cc8_12, -, -, -⟩ := P1.out.all
        have ll8_1 := P1.out.lt
        obtain ⟨cc8_20, cc8_21, cc8_22, -, -, -⟩ := KO.out.all
        have ll8_2 := KO.out.lt
        obtain ⟨cc8_30, cc8_31, cc8_32, -, -, -⟩ := KX0.out.all
        have ll8_3 := KX0.out.lt
        obtain ⟨cc8_40, cc8_41, cc8_42, -, -, -⟩ := KX1.out.all
        have ll8_4 := KX1.out.lt
        obtain ⟨cc8_50, cc8_51, cc8_52, -, -, -⟩ := KG.out.all
        have ll8_5 := KG.out.lt
        go_wp2_with fail
        refine wp_region_held_drew (S := fun w' => Below v41.heap.size v41 w') (by kernel_rfl) (Below.refl _ _).drew (fun hH => ?_)
        refine wpAnyH_take (i := 0) (v := ?_) (by simp only [List.getElem?_toArray, List.getElem?_cons_zero]; rfl) (by kernel_rfl) (by kernel_rfl) (by kernel_rfl) (by exact fun _ _ _ h => h) (Or.inl ⟨by rfl, ?_⟩) hH ?_
        rotate_left
        · (intro wS hS; (try dsimp only at hS); obtain ⟨k1, k2, k3, k4, k5, k6⟩ := six KX1.out P1.out hS; go_simp; try rfl)
        try simp only [Act.put, List.setIfInBounds_toArray, List.set_cons_zero, List.set_cons_succ]
        refine wpAnyH_take (i := 1) (v := ?_) (by simp only [List.getElem?_toArray, List.getElem?_cons_succ, List.getElem?_cons_zero]; rfl) (by kernel_rfl) (by kernel_rfl) (by kernel_rfl) (by exact fun _ _ _ h => h) (Or.inl ⟨by rfl, ?_⟩) hH ?_
        rotate_left
        · (intro wS hS; (try dsimp only at hS); obtain ⟨k1, k2, k3, k4, k5, k6⟩ := six KX1.out P1.out hS; go_simp; try rfl)
        try simp only [Act.put, List.setIfInBounds_toArray, List.set_cons_zero, List.set_cons_succ]
        refine wpAnyH_ready (rs := [2]) (by kernel_rfl) (by simp) ?_
        refine AllReadyH.cons (by simp only [List.getElem?_toArray, List.getElem?_cons_succ, List.getElem?_cons_zero]; rfl) (fun K hK => ?_) AllReadyH.nil
        go_simp
        (with_reducible refine (toM a1_0 a1_1 a1_2 cap1_2 xs1 _ (HX1.out.below (stepB B.out hH)) (by omega)).mono ?_)
        rintro e v50 ⟨g50, rfl, gg50, gi50, hb50⟩
        have I50 := Lib.hid gi50
        clear gi50 gg50
        try dsimp only
        refine hK.out _ _ ?_ (fun hH2 => ?_)
        · exact hH.trans (hb50.mono hH.size)
        clear hK K hH
        have hH := hH2
        clear hH2
        try simp only [Act.put, List.setIfInBounds_toArray, List.set_cons_zero, List.set_cons_succ]
        refine wpAnyH_ready (rs := [3]) (by kernel_rfl) (by simp) ?_
        refine AllReadyH.cons (by simp only [List.getElem?_toArray, List.getElem?_cons_succ, List.getElem?_cons_zero]; rfl) (fun K hK => ?_) AllReadyH.nil
        go_simp
        (with_reducible refine (eqM_t a1_0 a1_1 (some ⟨gx1, 0, none⟩) (some ⟨g50, 0, none⟩) xs1.length xs1.length xs1 _ (X1.out.keep hH).rd.2.1 I50.out.rd (by omega)).mono ?_)
        rintro e v51 ⟨rfl, hb51⟩
        try dsimp only
        refine hK.out _ _ ?_ (fun hH2 => ?_)
        · exact hH.trans (hb51.mono hH.size)
        clear hK K hH
        have hH := hH2
        clear hH2
        try simp only [Act.put, List.setIfInBounds_toArray, List.set_cons_zero, List.set_cons_succ]
        refine wpAnyH_take (i := 4) (v := ?_) (by simp only [List.getElem?_toArray, List.getElem?_cons_succ, List.getElem?_cons_zero]; rfl) (by kernel_rfl) (by kernel_rfl) (by kernel_rfl) (by exact fun _ _ _ h => h) (Or.inl ⟨by rfl, ?_⟩) hH ?_
        rotate_left
        · (intro wS hS; clear hS; go_simp; try rfl)
        try simp only [Act.put, List.setIfInBounds_toArray, List.set_cons_zero, List.set_cons_succ]
        refine wpAnyH_done (by kernel_rfl) ?_ _
        have hb := hH
        clear hH hb50 hb51
        have P0 := Lib.hid (P0.out.step hb)
        have P1 := Lib.hid (P1.out.step hb)
        have KO := Lib.hid (KO.out.step hb)
        have O0 := Lib.hid (O0.out.keep hb)
        have X0 := Lib.hid (X0.out.keep hb)
        have KX0 := Lib.hid (KX0.out.step hb)
        have X1 := Lib.hid (X1.out.keep hb)
        have KX1 := Lib.hid (KX1.out.step hb)
        have G0 := Lib.hid (G0.out.keep hb)
        have KG := Lib.hid (KG.out.step hb)
        have B := Lib.hid (stepB B.out hb)
        clear hb I50
        obtain ⟨cc9_00, cc9_01, cc9_02, -, -, -⟩ := P0.out.all
        have ll9_0 := P0.out.lt
        obtain ⟨cc9_10, cc9_11, cc9_12, -, -, -⟩ := P1.out.all
        have ll9_1 := P1.out.lt
        obtain ⟨cc9_20, cc9_21, cc9_22, -, -, -⟩ := KO.out.all
        have ll9_2 := KO.out.lt
        obtain ⟨cc9_30, cc9_31, cc9_32, -, -, -⟩ := KX0.out.all
        have ll9_3 := KX0.out.lt
        obtain ⟨cc9_40, cc9_41, cc9_42, -, -, -⟩ := KX1.out.all
        have ll9_4 := KX1.out.lt
        obtain ⟨cc9_50, cc9_51, cc9_52, -, -, -⟩ := KG.out.all
        have ll9_5 := KG.out.lt
        go_wp2_with fail
        refine (markIn a0_0 a0_1 (some ⟨gx0, 0, none⟩) xs0.length xs0.length xs0 (1) _ X0.out (by omega) (by omega)).mono ?_
        rintro e w8 ⟨rfl, inn, hc⟩
        have P0 := Lib.hid (P0.out.chg hc (by omega))
        have P1 := Lib.hid (P1.out.chg hc (by omega))
        have KO := Lib.hid (KO.out.chg hc (by omega))
        have O0 := Lib.hid (O0.out.chg hc (by omega))
        have KX0 := Lib.hid (KX0.out.chg hc (by omega))
        have X1 := Lib.hid (X1.out.chg hc (by omega))
        have KX1 := Lib.hid (KX1.out.chg hc (by omega))
        have G0 := Lib.hid (G0.out.chg hc (by omega))
        have KG := Lib.hid (KG.out.chg hc (by omega))
        have B := Lib.hid (Below.chg B.out hc (by omega) B.out.size)
        have X0 := Lib.hid inn
        clear hc inn
        obtain ⟨cc10_00, cc10_01, cc10_02, -, -, -⟩ := P0.out.all
        have ll10_0 := P0.out.lt
        obtain ⟨cc10_10, cc10_11, cc10_12, -, -, -⟩ := P1.out.all
        have ll10_1 := P1.out.lt
        obtain ⟨cc10_20, cc10_21, cc10_22, -, -, -⟩ := KO.out.all
        have ll10_2 := KO.out.lt
        obtain ⟨cc10_30, cc10_31, cc10_32, -, -, -⟩ := KX0.out.all
        have ll10_3 := KX0.out.lt
        obtain ⟨cc10_40, cc10_41, cc10_42, -, -, -⟩ := KX1.out.all
        have ll10_4 := KX1.out.lt
        obtain ⟨cc10_50, cc10_51, cc10_52, -, -, -⟩ := KG.out.all
        have ll10_5 := KG.out.lt
        go_wp2_with fail
        refine (markIn a1_0 a1_1 (some ⟨gx1, 0, none⟩) xs1.length xs1.length xs1 (1 + xs0.length) _ X1.out (by omega) (by omega)).mono ?_
        rintro e w9 ⟨rfl, inn, hc⟩
        have P0 := Lib.hid (P0.out.chg hc (by omega))
        have P1 := Lib.hid (P1.out.chg hc (by omega))
        have KO := Lib.hid (KO.out.chg hc (by omega))
        have O0 := Lib.hid (O0.out.chg hc (by omega))
        have KX0 := Lib.hid (KX0.out.chg hc (by omega))
        have KX1 := Lib.hid (KX1.out.chg hc (by omega))
        have G0 := Lib.hid (G0.out.chg hc (by omega))
        have KG := Lib.hid (KG.out.chg hc (by omega))
        have X0 := Lib.hid (X0.out.chg hc (by omega))
        have B := Lib.hid (Below.chg B.out hc (by omega) B.out.size)
        have X1 := Lib.hid inn
        clear hc inn
        obtain ⟨cc11_00, cc11_01, cc11_02, -, -, -⟩ := P0.out.all
        have ll11_0 := P0.out.lt
        obtain ⟨cc11_10, cc11_11, cc11_12, -, -, -⟩ := P1.out.all
        have ll11_1 := P1.out.lt
        obtain ⟨cc11_20, cc11_21, cc11_22, -, -, -⟩ := KO.out.all
        have ll11_2 := KO.out.lt
        obtain ⟨cc11_30, cc11_31, cc11_32, -, -, -⟩ := KX0.out.all
        have ll11_3 := KX0.out.lt
        obtain ⟨cc11_40, cc11_41, cc11_42, -, -, -⟩ := KX1.out.all
        have ll11_4 := KX1.out.lt
        obtain ⟨cc11_50, cc11_51, cc11_52, -, -, -⟩ := KG.out.all
        have ll11_5 := KG.out.lt
        go_wp2_with fail
        refine (eqM_t mr.r mr.c qG qO qcG qcO mr.zs _ G0.out.rd.2.1 O0.out.rd.2.1 szG).mono ?_
        rintro e w10 ⟨rfl, hb⟩
        have P0 := Lib.hid (P0.out.step hb)
        have P1 := Lib.hid (P1.out.step hb)
        have KO := Lib.hid (KO.out.step hb)
        have O0 := Lib.hid (O0.out.keep hb)
        have KX0 := Lib.hid (KX0.out.step hb)
        have KX1 := Lib.hid (KX1.out.step hb)
        have G0 := Lib.hid (G0.out.keep hb)
        have KG := Lib.hid (KG.out.step hb)
        have B := Lib.hid (stepB B.out hb)
        clear hb
        obtain ⟨cc12_00, cc12_01, cc12_02, -, -, -⟩ := P0.out.all
        have ll12_0 := P0.out.lt
        obtain ⟨cc12_10, cc12_11, cc12_12, -, -, -⟩ := P1.out.all
        have ll12_1 := P1.out.lt
        obtain ⟨cc12_20, cc12_21, cc12_22, -, -, -⟩ := KO.out.all
        have ll12_2 := KO.out.lt
        obtain ⟨cc12_30, cc12_31, cc12_32, -, -, -⟩ := KX0.out.all
        have ll12_3 := KX0.out.lt
        obtain ⟨cc12_40, cc12_41, cc12_42, -, -, -⟩ := KX1.out.all
        have ll12_4 := KX1.out.lt
        obtain ⟨cc12_50, cc12_51, cc12_52, -, -, -⟩ := KG.out.all
        have ll12_5 := KG.out.lt
        go_wp2_with fail
        refine (markIn mr.r mr.c qG mr.zs.length qcG mr.zs 1 _ G0.out (by omega) (by omega)).mono ?_
        rintro e w11 ⟨rfl, inn, hc⟩
        have P0 := Lib.hid (P0.out.chg hc (by omega))
        have P1 := Lib.hid (P1.out.chg hc (by omega))
        have KO := Lib.hid (KO.out.chg hc (by omega))
        have O0 := Lib.hid (O0.out.chg hc (by omega))
        have KX0 := Lib.hid (KX0.out.chg hc (by omega))
        have KX1 := Lib.hid (KX1.out.chg hc (by omega))
        have KG := Lib.hid (KG.out.chg hc (by omega))
        have B := Lib.hid (Below.chg B.out hc (by omega) B.out.size)
        have G0 := Lib.hid inn
        clear hc inn
        obtain ⟨cc13_00, cc13_01, cc13_02, -, -, -⟩ := P0.out.all
        have ll13_0 := P0.out.lt
        obtain ⟨cc13_10, cc13_11, cc13_12, -, -, -⟩ := P1.out.all
        have ll13_1 := P1.out.lt
        obtain ⟨cc13_20, cc13_21, cc13_22, -, -, -⟩ := KO.out.all
        have ll13_2 := KO.out.lt
        obtain ⟨cc13_30, cc13_31, cc13_32, -, -, -⟩ := KX0.out.all
        have ll13_3 := KX0.out.lt
        obtain ⟨cc13_40, cc13_41, cc13_42, -, -, -⟩ := KX1.out.all
        have ll13_4 := KX1.out.lt
        obtain ⟨cc13_50, cc13_51, cc13_52, -, -, -⟩ := KG.out.all
        have ll13_5 := KG.out.lt
        go_wp2_with fail
        refine (heldM mr.r mr.c qG qcG mr.zs.length 1 _ G0.out.rd.2.1 szG (by omega) (by omega)).mono ?_
        rintro e w12 ⟨rfl, hb⟩
        have P0 := Lib.hid (P0.out.step hb)
        have P1 := Lib.hid (P1.out.step hb)
        have KO := Lib.hid (KO.out.step hb)
        have O0 := Lib.hid (O0.out.keep hb)
        have KX0 := Lib.hid (KX0.out.step hb)
        have KX1 := Lib.hid (KX1.out.step hb)
        have KG := Lib.hid (KG.out.step hb)
        have G0 := Lib.hid (G0.out.keep hb)
        have B := Lib.hid (stepB B.out hb)
        clear hb
        obtain ⟨cc14_00, cc14_01, cc14_02, -, -, -⟩ := P0.out.all
        have ll14_0 := P0.out.lt
        obtain ⟨cc14_10, cc14_11, cc14_12, -, -, -⟩ := P1.out.all
        have ll14_1 := P1.out.lt
        obtain ⟨cc14_20, cc14_21, cc14_22, -, -, -⟩ := KO.out.all
        have ll14_2 := KO.out.lt
        obtain ⟨cc14_30, cc14_31, cc14_32, -, -, -⟩ := KX0.out.all
        have ll14_3 := KX0.out.lt
        obtain ⟨cc14_40, cc14_41, cc14_42, -, -, -⟩ := KX1.out.all
        have ll14_4 := KX1.out.lt
        obtain ⟨cc14_50, cc14_51, cc14_52, -, -, -⟩ := KG.out.all
        have ll14_5 := KG.out.lt
        go_wp2_with fail
        have XP : Hid (Blk3 w12 w.heap.size 34 (.int .i64 a0_0) (.int .i64 a0_1) (.slice a0_2 xs0.length cap0_2) ∧ Blk3 w12 (w.heap.size + 1) 34 (.int .i64 a1_0) (.int .i64 a1_1) (.slice a1_2 xs1.length cap1_2) ) := ⟨P0.out, P1.out⟩
        go_cut [15, 16] (fun s1 s2 wx => ∃ (p6 : Nat) (v0 : Value), s1 = .pointer (some ⟨p6, 0, none⟩) ∧ s2 = .bool mr.ok ∧ Blk3 wx p6 26 (.int .i64 mr.r) (.int .i64 mr.c) v0 ∧ In w12.heap.size wx.heap.size wx v0 mr.zs ∧ Below w12.heap.size w12 wx)
        case first =>
          refine wp_region_held_drew (S := fun w' => Below w12.heap.size w12 w') (by kernel_rfl) (Below.refl _ _).drew (fun hH => ?_)
          refine wpAnyH_take (i := 0) (v := ?_) (by simp only [List.getElem?_toArray, List.getElem?_cons_zero]; rfl) (by kernel_rfl) (by kernel_rfl) (by kernel_rfl) (by exact fun _ _ _ h => h) (Or.inl ⟨by rfl, ?_⟩) hH ?_
          rotate_left
          · (intro wS hS; (try dsimp only at hS); obtain ⟨k1, k2, k3, k4, k5, k6⟩ := six XP.out.1 XP.out.2 hS; go_simp; try rfl)
          try simp only [Act.put, List.setIfInBounds_toArray, List.set_cons_zero, List.set_cons_succ]
          refine wpAnyH_take (i := 2) (v := ?_) (by simp only [List.getElem?_toArray, List.getElem?_cons_succ, List.getElem?_cons_zero]; rfl) (by kernel_rfl) (by kernel_rfl) (by kernel_rfl) (by exact fun _ _ _ h => h) (Or.inl ⟨by rfl, ?_⟩) hH ?_
          rotate_left
          · (intro wS hS; (try dsimp only at hS); obtain ⟨k1, k2, k3, k4, k5, k6⟩ := six XP.out.1 XP.out.2 hS; go_simp; try rfl)
          try simp only [Act.put, List.setIfInBounds_toArray, List.set_cons_zero, List.set_cons_succ]
          refine wpAnyH_ready (rs := [1, 8]) (by kernel_rfl) (by simp) ?_
          refine AllReadyH.cons (by simp only [List.getElem?_toArray, List.getElem?_cons_succ, List.getElem?_cons_zero]; rfl) (fun K hK => ?_) (AllReadyH.cons (by simp only [List.getElem?_toArray, List.getElem?_cons_succ, List.getElem?_cons_zero]; rfl) (fun K hK => ?_) AllReadyH.nil)
          · go_simp
            have hs60 := hH.size
            (with_reducible refine (toM a0_0 a0_1 a0_2 cap0_2 xs0 _ (HX0.out.below (B.out.trans (hH.mono B.out.size))) (by omega)).mono ?_)
            rintro e v60 ⟨g1, rfl, gg1, gi1, hb60⟩
            have I1 := Lib.hid gi1
            clear gi1 gg1
            try dsimp only
            refine hK.out _ _ ?_ (fun hH2 => ?_)
            · exact hH.trans (hb60.mono hH.size)
            clear hK K
            have hO := hH
            clear hH
            have hH := hH2
            clear hH2
            try simp only [Act.put, List.setIfInBounds_toArray, List.set_cons_zero, List.set_cons_succ]
            have z60 := hb60.size
            refine wpAnyH_ready (rs := [3, 8]) (by kernel_rfl) (by simp) ?_
            refine AllReadyH.cons (by simp only [List.getElem?_toArray, List.getElem?_cons_succ, List.getElem?_cons_zero]; rfl) (fun K hK => ?_) (AllReadyH.cons (by simp only [List.getElem?_toArray, List.getElem?_cons_succ, List.getElem?_cons_zero]; rfl) (fun K hK => ?_) AllReadyH.nil)
            · go_simp
              have hs61 := hH.size
              (with_reducible refine (toM a1_0 a1_1 a1_2 cap1_2 xs1 _ (HX1.out.below (B.out.trans (hH.mono B.out.size))) (by omega)).mono ?_)
              rintro e v61 ⟨g2, rfl, gg2, gi2, hb61⟩
              have I2 := Lib.hid gi2
              have I1 := Lib.hid (I1.out.keep hb61 I1.out.lt)
              clear gi2 gg2
              try dsimp only
              refine hK.out _ _ ?_ (fun hH2 => ?_)
              · exact hH.trans (hb61.mono hH.size)
              clear hK K
              have hO := hH
              clear hH
              have hH := hH2
              clear hH2
              try simp only [Act.put, List.setIfInBounds_toArray, List.set_cons_zero, List.set_cons_succ]
              have z61 := hb61.size
              refine wpAnyH_ready (rs := [4, 8]) (by kernel_rfl) (by simp) ?_
              refine AllReadyH.cons (by simp only [List.getElem?_toArray, List.getElem?_cons_succ, List.getElem?_cons_zero]; rfl) (fun K hK => ?_) (AllReadyH.cons (by simp only [List.getElem?_toArray, List.getElem?_cons_succ, List.getElem?_cons_zero]; rfl) (fun K hK => ?_) AllReadyH.nil)
              · go_simp
                have hs62 := hH.size
                (with_reducible refine (iAdd a0_0 a0_1 a1_0 a1_1 (some ⟨g1, 0, none⟩) (some ⟨g2, 0, none⟩) xs0.length xs1.length xs0 xs1 _ I1.out.rd I2.out.rd (by omega) (by omega)).mono ?_)
                rintro e v62 ⟨v1, rfl, own, hb62⟩
                rw [MRH.out] at own ⊢
                obtain ⟨q1, q1c, rfl, -, -⟩ := own.form
                have O1 := Lib.hid own.inn
                clear own
                try dsimp only
                refine hK.out _ _ ?_ (fun hH2 => ?_)
                · exact hH.trans (hb62.mono hH.size)
                clear hK K
                have hO := hH
                clear hH
                have hH := hH2
                clear hH2
                try simp only [Act.put, List.setIfInBounds_toArray, List.set_cons_zero, List.set_cons_succ]
                have z62 := hb62.size
                refine wpAnyH_take (i := 5) (v := ?_) (by simp only [List.getElem?_toArray, List.getElem?_cons_succ, List.getElem?_cons_zero]; rfl) (by kernel_rfl) (by kernel_rfl) (by kernel_rfl) (by exact fun _ _ _ h => h) (Or.inl ⟨by rfl, ?_⟩) hH ?_
                rotate_left
                · (intro wS hS; clear hS; go_simp; try rfl)
                try simp only [Act.put, List.setIfInBounds_toArray, List.set_cons_zero, List.set_cons_succ]
                refine wpAnyH_take (i := 6) (v := ?_) (by simp only [List.getElem?_toArray, List.getElem?_cons_succ, List.getElem?_cons_zero]; rfl) (by kernel_rfl) (by kernel_rfl) (by kernel_rfl) (by exact fun _ _ _ h => h) (Or.inl ⟨by rfl, ?_⟩) hH ?_
                rotate_left
                · (intro wS hS; clear hS; go_simp; try rfl)
                try simp only [Act.put, List.setIfInBounds_toArray, List.set_cons_zero, List.set_cons_succ]
                refine wpAnyH_take (i := 7) (v := ?_) (by simp only [List.getElem?_toArray, List.getElem?_cons_succ, List.getElem?_cons_zero]; rfl) (by kernel_rfl) (by kernel_rfl) (by kernel_rfl) (by exact fun _ _ _ h => h) (Or.inl ⟨by rfl, ?_⟩) hH ?_
                rotate_left
                · (intro wS hS; clear hS; go_simp; try rfl)
                try simp only [Act.put, List.setIfInBounds_toArray, List.set_cons_zero, List.set_cons_succ]
                refine wpAnyH_ready (rs := [8]) (by kernel_rfl) (by simp) ?_
                refine AllReadyH.cons (by simp only [List.getElem?_toArray, List.getElem?_cons_succ, List.getElem?_cons_zero]; rfl) (fun K hK => ?_) AllReadyH.nil
                go_simp
                have VB : Hid (Blk3 (v62.alloc (.cells #[.int .i64 0, .int .i64 0, .slice none 0 0] 26)) v62.heap.size 26 (.int .i64 0) (.int .i64 0) (.slice none 0 0)) := Blk3.at_ _ _ _ _ rfl
                have PL : w12.heap.size ≤ v62.heap.size := hH.size
                try dsimp only
                refine hK.out _ _ ?_ (fun hH2 => ?_)
                · exact hH.alloc hH.size _
                clear hK K
                have hO := hH
                clear hH
                have hH := hH2
                clear hH2
                try simp only [Act.put, List.setIfInBounds_toArray, List.set_cons_zero, List.set_cons_succ]
                refine wpAnyH_ready (rs := [9]) (by kernel_rfl) (by simp) ?_
                refine AllReadyH.cons (by simp only [List.getElem?_toArray, List.getElem?_cons_succ, List.getElem?_cons_zero]; rfl) (fun K hK => ?_) AllReadyH.nil
                go_simp
                have VB : Hid (Blk3 (v62.alloc (.cells #[.int .i64 mr.r, .int .i64 mr.c, .slice q1 mr.zs.length q1c] 26)) v62.heap.size 26 (.int .i64 mr.r) (.int .i64 mr.c) (.slice q1 mr.zs.length q1c)) := Blk3.at_ _ _ _ _ rfl
                try dsimp only
                refine hK.out _ _ ?_ (fun hH2 => ?_)
                · exact hO.alloc hO.size _
                clear hK K
                have hO := hH
                clear hH
                have hH := hH2
                clear hH2
                try simp only [Act.put, List.setIfInBounds_toArray, List.set_cons_zero, List.set_cons_succ]
                refine wpAnyH_take (i := 10) (v := ?_) (by simp only [List.getElem?_toArray, List.getElem?_cons_succ, List.getElem?_cons_zero]; rfl) (by kernel_rfl) (by kernel_rfl) (by kernel_rfl) (by exact fun _ _ _ h => h) (Or.inl ⟨by rfl, ?_⟩) hH ?_
                rotate_left
                · (intro wS hS; clear hS; go_simp; try rfl)
                try simp only [Act.put, List.setIfInBounds_toArray, List.set_cons_zero, List.set_cons_succ]
                refine wpAnyH_done (by kernel_rfl) ?_ _
                go_wp2_with fail
                go_meet
                exact ⟨v62.heap.size, _, rfl, rfl, VB.out, (O1.out.old _).wide hs62 (by simp), hH⟩
              · go_simp
                have VB : Hid (Blk3 (v61.alloc (.cells #[.int .i64 0, .int .i64 0, .slice none 0 0] 26)) v61.heap.size 26 (.int .i64 0) (.int .i64 0) (.slice none 0 0)) := Blk3.at_ _ _ _ _ rfl
                have I1 := Lib.hid (I1.out.old (.cells #[.int .i64 0, .int .i64 0, .slice none 0 0] 26))
                have I2 := Lib.hid (I2.out.old (.cells #[.int .i64 0, .int .i64 0, .slice none 0 0] 26))
                have PL : w12.heap.size ≤ v61.heap.size := hH.size
                try dsimp only
                refine hK.out _ _ ?_ (fun hH2 => ?_)
                · exact hH.alloc hH.size _
                clear hK K
                have hO := hH
                clear hH
                have hH := hH2
                clear hH2
                try simp only [Act.put, List.setIfInBounds_toArray, List.set_cons_zero, List.set_cons_succ]
                refine wpAnyH_ready (rs := [4]) (by kernel_rfl) (by simp) ?_
                refine AllReadyH.cons (by simp only [List.getElem?_toArray, List.getElem?_cons_succ, List.getElem?_cons_zero]; rfl) (fun K hK => ?_) AllReadyH.nil
                go_simp
                have hs62 := hH.size
                have lb62 := VB.out.lt
                (with_reducible refine (iAdd a0_0 a0_1 a1_0 a1_1 (some ⟨g1, 0, none⟩) (some ⟨g2, 0, none⟩) xs0.length xs1.length xs0 xs1 _ I1.out.rd I2.out.rd (by omega) (by omega)).mono ?_)
                rintro e v62 ⟨v1, rfl, own, hb62⟩
                rw [MRH.out] at own ⊢
                obtain ⟨q1, q1c, rfl, -, -⟩ := own.form
                have O1 := Lib.hid own.inn
                clear own
                have VB := Lib.hid (VB.out.keep hb62 VB.out.lt)
                try dsimp only
                refine hK.out _ _ ?_ (fun hH2 => ?_)
                · exact hH.trans (hb62.mono hH.size)
                clear hK K
                have hO := hH
                clear hH
                have hH := hH2
                clear hH2
                try simp only [Act.put, List.setIfInBounds_toArray, List.set_cons_zero, List.set_cons_succ]
                have z62 := hb62.size
                refine wpAnyH_take (i := 5) (v := ?_) (by simp only [List.getElem?_toArray, List.getElem?_cons_succ, List.getElem?_cons_zero]; rfl) (by kernel_rfl) (by kernel_rfl) (by kernel_rfl) (by exact fun _ _ _ h => h) (Or.inl ⟨by rfl, ?_⟩) hH ?_
                rotate_left
                · (intro wS hS; clear hS; go_simp; try rfl)
                try simp only [Act.put, List.setIfInBounds_toArray, List.set_cons_zero, List.set_cons_succ]
                refine wpAnyH_take (i := 6) (v := ?_) (by simp only [List.getElem?_toArray, List.getElem?_cons_succ, List.getElem?_cons_zero]; rfl) (by kernel_rfl) (by kernel_rfl) (by kernel_rfl) (by exact fun _ _ _ h => h) (Or.inl ⟨by rfl, ?_⟩) hH ?_
                rotate_left
                · (intro wS hS; clear hS; go_simp; try rfl)
                try simp only [Act.put, List.setIfInBounds_toArray, List.set_cons_zero, List.set_cons_succ]
                refine wpAnyH_take (i := 7) (v := ?_) (by simp only [List.getElem?_toArray, List.getElem?_cons_succ, List.getElem?_cons_zero]; rfl) (by kernel_rfl) (by kernel_rfl) (by kernel_rfl) (by exact fun _ _ _ h => h) (Or.inl ⟨by rfl, ?_⟩) hH ?_
                rotate_left
                · (intro wS hS; clear hS; go_simp; try rfl)
                try simp only [Act.put, List.setIfInBounds_toArray, List.set_cons_zero, List.set_cons_succ]
                refine wpAnyH_ready (rs := [9]) (by kernel_rfl) (by simp) ?_
                refine AllReadyH.cons (by simp only [List.getElem?_toArray, List.getElem?_cons_succ, List.getElem?_cons_zero]; rfl) (fun K hK => ?_) AllReadyH.nil
                obtain ⟨y0, y1, y2, y3, y4, y5⟩ := VB.out.all
                go_simp
                have VB := Lib.hid (((VB.out.set0 (.int .i64 mr.r)).set1 (.int .i64 mr.c)).set2 (.slice q1 mr.zs.length q1c))
                try dsimp only
                refine hK.out _ _ ?_ (fun hH2 => ?_)
                · exact (((hH.setCell PL _).setCell PL _).setCell PL _)
                clear hK K
                have hO := hH
                clear hH
                have hH := hH2
                clear hH2
                try simp only [Act.put, List.setIfInBounds_toArray, List.set_cons_zero, List.set_cons_succ]
                refine wpAnyH_take (i := 10) (v := ?_) (by simp only [List.getElem?_toArray, List.getElem?_cons_succ, List.getElem?_cons_zero]; rfl) (by kernel_rfl) (by kernel_rfl) (by kernel_rfl) (by exact fun _ _ _ h => h) (Or.inl ⟨by rfl, ?_⟩) hH ?_
                rotate_left
                · (intro wS hS; clear hS; go_simp; try rfl)
                try simp only [Act.put, List.setIfInBounds_toArray, List.set_cons_zero, List.set_cons_succ]
                refine wpAnyH_done (by kernel_rfl) ?_ _
                go_wp2_with fail
                go_meet
                exact ⟨v61.heap.size, _, rfl, rfl, VB.out, (((O1.out.far (.inl lb62) _).far (.inl lb62) _).far (.inl lb62) _).wide hs62 (by simp), hH⟩
            · go_simp
              have VB : Hid (Blk3 (v60.alloc (.cells #[.int .i64 0, .int .i64 0, .slice none 0 0] 26)) v60.heap.size 26 (.int .i64 0) (.int .i64 0) (.slice none 0 0)) := Blk3.at_ _ _ _ _ rfl
              have I1 := Lib.hid (I1.out.old (.cells #[.int .i64 0, .int .i64 0, .slice none 0 0] 26))
              have PL : w12.heap.size ≤ v60.heap.size := hH.size
              try dsimp only
              refine hK.out _ _ ?_ (fun hH2 => ?_)
              · exact hH.alloc hH.size _
              clear hK K
              have hO := hH
              clear hH
              have hH := hH2
              clear hH2
              try simp only [Act.put, List.setIfInBounds_toArray, List.set_cons_zero, List.set_cons_succ]
              refine wpAnyH_ready (rs := [3]) (by kernel_rfl) (by simp) ?_
              refine AllReadyH.cons (by simp only [List.getElem?_toArray, List.getElem?_cons_succ, List.getElem?_cons_zero]; rfl) (fun K hK => ?_) AllReadyH.nil
              go_simp
              have hs61 := hH.size
              have lb61 := VB.out.lt
              (with_reducible refine (toM a1_0 a1_1 a1_2 cap1_2 xs1 _ (HX1.out.below (B.out.trans (hH.mono B.out.size))) (by omega)).mono ?_)
              rintro e v61 ⟨g2, rfl, gg2, gi2, hb61⟩
              have I2 := Lib.hid gi2
              have I1 := Lib.hid (I1.out.keep hb61 I1.out.lt)
              clear gi2 gg2
              have VB := Lib.hid (VB.out.keep hb61 VB.out.lt)
              try dsimp only
              refine hK.out _ _ ?_ (fun hH2 => ?_)
              · exact hH.trans (hb61.mono hH.size)
              clear hK K
              have hO := hH
              clear hH
              have hH := hH2
              clear hH2
              try simp only [Act.put, List.setIfInBounds_toArray, List.set_cons_zero, List.set_cons_succ]
              have z61 := hb61.size
              refine wpAnyH_ready (rs := [4]) (by kernel_rfl) (by simp) ?_
              refine AllReadyH.cons (by simp only [List.getElem?_toArray, List.getElem?_cons_succ, List.getElem?_cons_zero]; rfl) (fun K hK => ?_) AllReadyH.nil
              go_simp
              have hs62 := hH.size
              have lb62 := VB.out.lt
              (with_reducible refine (iAdd a0_0 a0_1 a1_0 a1_1 (some ⟨g1, 0, none⟩) (some ⟨g2, 0, none⟩) xs0.length xs1.length xs0 xs1 _ I1.out.rd I2.out.rd (by omega) (by omega)).mono ?_)
              rintro e v62 ⟨v1, rfl, own, hb62⟩
              rw [MRH.out] at own ⊢
              obtain ⟨q1, q1c, rfl, -, -⟩ := own.form
              have O1 := Lib.hid own.inn
              clear own
              have VB := Lib.hid (VB.out.keep hb62 VB.out.lt)
              try dsimp only
              refine hK.out _ _ ?_ (fun hH2 => ?_)
              · exact hH.trans (hb62.mono hH.size)
              clear hK K
              have hO := hH
              clear hH
              have hH := hH2
              clear hH2
              try simp only [Act.put, List.setIfInBounds_toArray, List.set_cons_zero, List.set_cons_succ]
              have z62 := hb62.size
              refine wpAnyH_take (i := 5) (v := ?_) (by simp only [List.getElem?_toArray, List.getElem?_cons_succ, List.getElem?_cons_zero]; rfl) (by kernel_rfl) (by kernel_rfl) (by kernel_rfl) (by exact fun _ _ _ h => h) (Or.inl ⟨by rfl, ?_⟩) hH ?_
              rotate_left
              · (intro wS hS; clear hS; go_simp; try rfl)
              try simp only [Act.put, List.setIfInBounds_toArray, List.set_cons_zero, List.set_cons_succ]
              refine wpAnyH_take (i := 6) (v := ?_) (by simp only [List.getElem?_toArray, List.getElem?_cons_succ, List.getElem?_cons_zero]; rfl) (by kernel_rfl) (by kernel_rfl) (by kernel_rfl) (by exact fun _ _ _ h => h) (Or.inl ⟨by rfl, ?_⟩) hH ?_
              rotate_left
              · (intro wS hS; clear hS; go_simp; try rfl)
              try simp only [Act.put, List.setIfInBounds_toArray, List.set_cons_zero, List.set_cons_succ]
              refine wpAnyH_take (i := 7) (v := ?_) (by simp only [List.getElem?_toArray, List.getElem?_cons_succ, List.getElem?_cons_zero]; rfl) (by kernel_rfl) (by kernel_rfl) (by kernel_rfl) (by exact fun _ _ _ h => h) (Or.inl ⟨by rfl, ?_⟩) hH ?_
              rotate_left
              · (intro wS hS; clear hS; go_simp; try rfl)
              try simp only [Act.put, List.setIfInBounds_toArray, List.set_cons_zero, List.set_cons_succ]
              refine wpAnyH_ready (rs := [9]) (by kernel_rfl) (by simp) ?_
              refine AllReadyH.cons (by simp only [List.getElem?_toArray, List.getElem?_cons_succ, List.getElem?_cons_zero]; rfl) (fun K hK => ?_) AllReadyH.nil
              obtain ⟨y0, y1, y2, y3, y4, y5⟩ := VB.out.all
              go_simp
              have VB := Lib.hid (((VB.out.set0 (.int .i64 mr.r)).set1 (.int .i64 mr.c)).set2 (.slice q1 mr.zs.length q1c))
              try dsimp only
              refine hK.out _ _ ?_ (fun hH2 => ?_)
              · exact (((hH.setCell PL _).setCell PL _).setCell PL _)
              clear hK K
              have hO := hH
              clear hH
              have hH := hH2
              clear hH2
              try simp only [Act.put, List.setIfInBounds_toArray, List.set_cons_zero, List.set_cons_succ]
              refine wpAnyH_take (i := 10) (v := ?_) (by simp only [List.getElem?_toArray, List.getElem?_cons_succ, List.getElem?_cons_zero]; rfl) (by kernel_rfl) (by kernel_rfl) (by kernel_rfl) (by exact fun _ _ _ h => h) (Or.inl ⟨by rfl, ?_⟩) hH ?_
              rotate_left
              · (intro wS hS; clear hS; go_simp; try rfl)
              try simp only [Act.put, List.setIfInBounds_toArray, List.set_cons_zero, List.set_cons_succ]
              refine wpAnyH_done (by kernel_rfl) ?_ _
              go_wp2_with fail
              go_meet
              exact ⟨v60.heap.size, _, rfl, rfl, VB.out, (((O1.out.far (.inl lb62) _).far (.inl lb62) _).far (.inl lb62) _).wide hs62 (by simp), hH⟩
          · go_simp
            have VB : Hid (Blk3 (w12.drew.alloc (.cells #[.int .i64 0, .int .i64 0, .slice none 0 0] 26)) w12.heap.size 26 (.int .i64 0) (.int .i64 0) (.slice none 0 0)) := Blk3.at_ _ _ _ _ rfl
            have PL : w12.heap.size ≤ w12.drew.heap.size := hH.size
            try dsimp only
            refine hK.out _ _ ?_ (fun hH2 => ?_)
            · exact hH.alloc hH.size _
            clear hK K
            have hO := hH
            clear hH
            have hH := hH2
            clear hH2
            try simp only [Act.put, List.setIfInBounds_toArray, List.set_cons_zero, List.set_cons_succ]
            refine wpAnyH_ready (rs := [1]) (by kernel_rfl) (by simp) ?_
            refine AllReadyH.cons (by simp only [List.getElem?_toArray, List.getElem?_cons_succ, List.getElem?_cons_zero]; rfl) (fun K hK => ?_) AllReadyH.nil
            go_simp
            have hs60 := hH.size
            have lb60 := VB.out.lt
            (with_reducible refine (toM a0_0 a0_1 a0_2 cap0_2 xs0 _ (HX0.out.below (B.out.trans (hH.mono B.out.size))) (by omega)).mono ?_)
            rintro e v60 ⟨g1, rfl, gg1, gi1, hb60⟩
            have I1 := Lib.hid gi1
            clear gi1 gg1
            have VB := Lib.hid (VB.out.keep hb60 VB.out.lt)
            try dsimp only
            refine hK.out _ _ ?_ (fun hH2 => ?_)
            · exact hH.trans (hb60.mono hH.size)
            clear hK K
            have hO := hH
            clear hH
            have hH := hH2
            clear hH2
            try simp only [Act.put, List.setIfInBounds_toArray, List.set_cons_zero, List.set_cons_succ]
            have z60 := hb60.size
            refine wpAnyH_ready (rs := [3]) (by kernel_rfl) (by simp) ?_
            refine AllReadyH.cons (by simp only [List.getElem?_toArray, List.getElem?_cons_succ, List.getElem?_cons_zero]; rfl) (fun K hK => ?_) AllReadyH.nil
            go_simp
            have hs61 := hH.size
            have lb61 := VB.out.lt
            (with_reducible refine (toM a1_0 a1_1 a1_2 cap1_2 xs1 _ (HX1.out.below (B.out.trans (hH.mono B.out.size))) (by omega)).mono ?_)
            rintro e v61 ⟨g2, rfl, gg2, gi2, hb61⟩
            have I2 := Lib.hid gi2
            have I1 := Lib.hid (I1.out.keep hb61 I1.out.lt)
            clear gi2 gg2
            have VB := Lib.hid (VB.out.keep hb61 VB.out.lt)
            try dsimp only
            refine hK.out _ _ ?_ (fun hH2 => ?_)
            · exact hH.trans (hb61.mono hH.size)
            clear hK K
            have hO := hH
            clear hH
            have hH := hH2
            clear hH2
            try simp only [Act.put, List.setIfInBounds_toArray, List.set_cons_zero, List.set_cons_succ]
            have z61 := hb61.size
            refine wpAnyH_ready (rs := [4]) (by kernel_rfl) (by simp) ?_
            refine AllReadyH.cons (by simp only [List.getElem?_toArray, List.getElem?_cons_succ, List.getElem?_cons_zero]; rfl) (fun K hK => ?_) AllReadyH.nil
            go_simp
            have hs62 := hH.size
            have lb62 := VB.out.lt
            (with_reducible refine (iAdd a0_0 a0_1 a1_0 a1_1 (some ⟨g1, 0, none⟩) (some ⟨g2, 0, none⟩) xs0.length xs1.length xs0 xs1 _ I1.out.rd I2.out.rd (by omega) (by omega)).mono ?_)
            rintro e v62 ⟨v1, rfl, own, hb62⟩
            rw [MRH.out] at own ⊢
            obtain ⟨q1, q1c, rfl, -, -⟩ := own.form
            have O1 := Lib.hid own.inn
            clear own
            have VB := Lib.hid (VB.out.keep hb62 VB.out.lt)
            try dsimp only
            refine hK.out _ _ ?_ (fun hH2 => ?_)
            · exact hH.trans (hb62.mono hH.size)
            clear hK K
            have hO := hH
            clear hH
            have hH := hH2
            clear hH2
            try simp only [Act.put, List.setIfInBounds_toArray, List.set_cons_zero, List.set_cons_succ]
            have z62 := hb62.size
            refine wpAnyH_take (i := 5) (v := ?_) (by simp only [List.getElem?_toArray, List.getElem?_cons_succ, List.getElem?_cons_zero]; rfl) (by kernel_rfl) (by kernel_rfl) (by kernel_rfl) (by exact fun _ _ _ h => h) (Or.inl ⟨by rfl, ?_⟩) hH ?_
            rotate_left
            · (intro wS hS; clear hS; go_simp; try rfl)
            try simp only [Act.put, List.setIfInBounds_toArray, List.set_cons_zero, List.set_cons_succ]
            refine wpAnyH_take (i := 6) (v := ?_) (by simp only [List.getElem?_toArray, List.getElem?_cons_succ, List.getElem?_cons_zero]; rfl) (by kernel_rfl) (by kernel_rfl) (by kernel_rfl) (by exact fun _ _ _ h => h) (Or.inl ⟨by rfl, ?_⟩) hH ?_
            rotate_left
            · (intro wS hS; clear hS; go_simp; try rfl)
            try simp only [Act.put, List.setIfInBounds_toArray, List.set_cons_zero, List.set_cons_succ]
            refine wpAnyH_take (i := 7) (v := ?_) (by simp only [List.getElem?_toArray, List.getElem?_cons_succ, List.getElem?_cons_zero]; rfl) (by kernel_rfl) (by kernel_rfl) (by kernel_rfl) (by exact fun _ _ _ h => h) (Or.inl ⟨by rfl, ?_⟩) hH ?_
            rotate_left
            · (intro wS hS; clear hS; go_simp; try rfl)
            try simp only [Act.put, List.setIfInBounds_toArray, List.set_cons_zero, List.set_cons_succ]
            refine wpAnyH_ready (rs := [9]) (by kernel_rfl) (by simp) ?_
            refine AllReadyH.cons (by simp only [List.getElem?_toArray, List.getElem?_cons_succ, List.getElem?_cons_zero]; rfl) (fun K hK => ?_) AllReadyH.nil
            obtain ⟨y0, y1, y2, y3, y4, y5⟩ := VB.out.all
            go_simp
            have VB := Lib.hid (((VB.out.set0 (.int .i64 mr.r)).set1 (.int .i64 mr.c)).set2 (.slice q1 mr.zs.length q1c))
            try dsimp only
            refine hK.out _ _ ?_ (fun hH2 => ?_)
            · exact (((hH.setCell PL _).setCell PL _).setCell PL _)
            clear hK K
            have hO := hH
            clear hH
            have hH := hH2
            clear hH2
            try simp only [Act.put, List.setIfInBounds_toArray, List.set_cons_zero, List.set_cons_succ]
            refine wpAnyH_take (i := 10) (v := ?_) (by simp only [List.getElem?_toArray, List.getElem?_cons_succ, List.getElem?_cons_zero]; rfl) (by kernel_rfl) (by kernel_rfl) (by kernel_rfl) (by exact fun _ _ _ h => h) (Or.inl ⟨by rfl, ?_⟩) hH ?_
            rotate_left
            · (intro wS hS; clear hS; go_simp; try rfl)
            try simp only [Act.put, List.setIfInBounds_toArray, List.set_cons_zero, List.set_cons_succ]
            refine wpAnyH_done (by kernel_rfl) ?_ _
            go_wp2_with fail
            go_meet
            exact ⟨w12.heap.size, _, rfl, rfl, VB.out, (((O1.out.far (.inl lb62) _).far (.inl lb62) _).far (.inl lb62) _).wide hs62 (by simp), hH⟩
        case rest =>
          obtain ⟨pH, vH, rfl, rfl, kH, inH, hb⟩ := hcut
          obtain ⟨qH, qcH, rfl, -, -⟩ := inH.form
          have P0 := Lib.hid (P0.out.step hb)
          have P1 := Lib.hid (P1.out.step hb)
          have KO := Lib.hid (KO.out.step hb)
          have O0 := Lib.hid (O0.out.keep hb)
          have KX0 := Lib.hid (KX0.out.step hb)
          have KX1 := Lib.hid (KX1.out.step hb)
          have KG := Lib.hid (KG.out.step hb)
          have G0 := Lib.hid (G0.out.keep hb)
          have B := Lib.hid (stepB B.out hb)
          have KH := Lib.hid kH
          have H0 := Lib.hid inH
          have szH := inH.rd.2.2
          have sH := hb.size
          clear hb kH inH XP
          obtain ⟨cc15_00, cc15_01, cc15_02, -, -, -⟩ := P0.out.all
          have ll15_0 := P0.out.lt
          obtain ⟨cc15_10, cc15_11, cc15_12, -, -, -⟩ := P1.out.all
          have ll15_1 := P1.out.lt
          obtain ⟨cc15_20, cc15_21, cc15_22, -, -, -⟩ := KO.out.all
          have ll15_2 := KO.out.lt
          obtain ⟨cc15_30, cc15_31, cc15_32, -, -, -⟩ := KX0.out.all
          have ll15_3 := KX0.out.lt
          obtain ⟨cc15_40, cc15_41, cc15_42, -, -, -⟩ := KX1.out.all
          have ll15_4 := KX1.out.lt
          obtain ⟨cc15_50, cc15_51, cc15_52, -, -, -⟩ := KG.out.all
          have ll15_5 := KG.out.lt
          obtain ⟨cc15_60, cc15_61, cc15_62, -, -, -⟩ := KH.out.all
          have ll15_6 := KH.out.lt
          go_wp2_with fail
          refine (eqM_t mr.r mr.c qH qO qcH qcO mr.zs _ H0.out.rd.2.1 O0.out.rd.2.1 szH).mono ?_
          rintro e w13 ⟨rfl, hb⟩
          have P0 := Lib.hid (P0.out.step hb)
          have P1 := Lib.hid (P1.out.step hb)
          have KO := Lib.hid (KO.out.step hb)
          have O0 := Lib.hid (O0.out.keep hb)
          have KX0 := Lib.hid (KX0.out.step hb)
          have KX1 := Lib.hid (KX1.out.step hb)
          have KG := Lib.hid (KG.out.step hb)
          have G0 := Lib.hid (G0.out.keep hb)
          have KH := Lib.hid (KH.out.step hb)
          have H0 := Lib.hid (H0.out.keep hb)
          have B := Lib.hid (stepB B.out hb)
          clear hb
          obtain ⟨cc16_00, cc16_01, cc16_02, -, -, -⟩ := P0.out.all
          have ll16_0 := P0.out.lt
          obtain ⟨cc16_10, cc16_11, cc16_12, -, -, -⟩ := P1.out.all
          have ll16_1 := P1.out.lt
          obtain ⟨cc16_20, cc16_21, cc16_22, -, -, -⟩ := KO.out.all
          have ll16_2 := KO.out.lt
          obtain ⟨cc16_30, cc16_31, cc16_32, -, -, -⟩ := KX0.out.all
          have ll16_3 := KX0.out.lt
          obtain ⟨cc16_40, cc16_41, cc16_42, -, -, -⟩ := KX1.out.all
          have ll16_4 := KX1.out.lt
          obtain ⟨cc16_50, cc16_51, cc16_52, -, -, -⟩ := KG.out.all
          have ll16_5 := KG.out.lt
          obtain ⟨cc16_60, cc16_61, cc16_62, -, -, -⟩ := KH.out.all
          have ll16_6 := KH.out.lt
          go_wp2_with fail
          refine (heldM mr.r mr.c qG qcG mr.zs.length 1 _ G0.out.rd.2.1 szG (by omega) (by omega)).mono ?_
          rintro e w14 ⟨rfl, hb⟩
          have P0 := Lib.hid (P0.out.step hb)
          have P1 := Lib.hid (P1.out.step hb)
          have KO := Lib.hid (KO.out.step hb)
          have O0 := Lib.hid (O0.out.keep hb)
          have KX0 := Lib.hid (KX0.out.step hb)
          have KX1 := Lib.hid (KX1.out.step hb)
          have KG := Lib.hid (KG.out.step hb)
          have G0 := Lib.hid (G0.out.keep hb)
          have KH := Lib.hid (KH.out.step hb)
          have H0 := Lib.hid (H0.out.keep hb)
          have B := Lib.hid (stepB B.out hb)
          clear hb
          obtain ⟨cc17_00, cc17_01, cc17_02, -, -, -⟩ := P0.out.all
          have ll17_0 := P0.out.lt
          obtain ⟨cc17_10, cc17_11, cc17_12, -, -, -⟩ := P1.out.all
          have ll17_1 := P1.out.lt
          obtain ⟨cc17_20, cc17_21, cc17_22, -, -, -⟩ := KO.out.all
          have ll17_2 := KO.out.lt
          obtain ⟨cc17_30, cc17_31, cc17_32, -, -, -⟩ := KX0.out.all
          have ll17_3 := KX0.out.lt
          obtain ⟨cc17_40, cc17_41, cc17_42, -, -, -⟩ := KX1.out.all
          have ll17_4 := KX1.out.lt
          obtain ⟨cc17_50, cc17_51, cc17_52, -, -, -⟩ := KG.out.all
          have ll17_5 := KG.out.lt
          obtain ⟨cc17_60, cc17_61, cc17_62, -, -, -⟩ := KH.out.all
          have ll17_6 := KH.out.lt
          go_wp2_with fail
          go_ret
          exact ⟨rfl, B.out⟩
    · go_enter Try.func4, Try.ntmps4
      go_wp2_with fail
      refine (szM a0_0 a0_1 a0_2 xs0.length cap0_2 (1048576) _ (by omega) (by omega)).mono ?_
      rintro e w2 ⟨rfl, hb⟩
      have P0 : Hid (Blk3 w2 w.heap.size 34 (.int .i64 a0_0) (.int .i64 a0_1) (.slice a0_2 xs0.length cap0_2)) := ((Blk3.at_ _ _ _ _ rfl).old _).keep hb (by simp <;> omega)
      have P1 : Hid (Blk3 w2 (w.heap.size + 1) 34 (.int .i64 a1_0) (.int .i64 a1_1) (.slice a1_2 xs1.length cap1_2)) := (Blk3.at_ _ _ _ _ (by simp)).keep hb (by simp <;> omega)
      have B : Hid (Below w.heap.size w w2) := (((Below.refl _ _).alloc (Nat.le_refl _) _).alloc (by simp) _).trans (hb.mono (by simp <;> omega))
      clear hb
      obtain ⟨cs0_00, cs0_01, cs0_02, -, -, -⟩ := P0.out.all
      obtain ⟨cs0_10, cs0_11, cs0_12, -, -, -⟩ := P1.out.all
      go_wp2_with fail
      refine (szM_f a1_0 a1_1 a1_2 xs1.length cap1_2 (1048576 - (xs0.length : Int)) _ (by omega) (by omega) (by omega)).mono ?_
      rintro e w3 ⟨rfl, hb⟩
      have P0 := Lib.hid (P0.out.keep hb P0.out.lt)
      have P1 := Lib.hid (P1.out.keep hb P1.out.lt)
      have B := Lib.hid (B.out.trans (hb.mono B.out.size))
      clear hb
      obtain ⟨cs1_00, cs1_01, cs1_02, -, -, -⟩ := P0.out.all
      obtain ⟨cs1_10, cs1_11, cs1_12, -, -, -⟩ := P1.out.all
      go_wp2_with fail
      go_ret
      exact ⟨rfl, B.out⟩
  · go_enter Try.func4, Try.ntmps4
    go_wp2_with fail
    refine (szM_f a0_0 a0_1 a0_2 xs0.length cap0_2 (1048576) _ (by omega) (by omega) (by omega)).mono ?_
    rintro e w2 ⟨rfl, hb⟩
    have P0 : Hid (Blk3 w2 w.heap.size 34 (.int .i64 a0_0) (.int .i64 a0_1) (.slice a0_2 xs0.length cap0_2)) := ((Blk3.at_ _ _ _ _ rfl).old _).keep hb (by simp <;> omega)
    have P1 : Hid (Blk3 w2 (w.heap.size + 1) 34 (.int .i64 a1_0) (.int .i64 a1_1) (.slice a1_2 xs1.length cap1_2)) := (Blk3.at_ _ _ _ _ (by simp)).keep hb (by simp <;> omega)
    have B : Hid (Below w.heap.size w w2) := (((Below.refl _ _).alloc (Nat.le_refl _) _).alloc (by simp) _).trans (hb.mono (by simp <;> omega))
    clear hb
    obtain ⟨cs0_00, cs0_01, cs0_02, -, -, -⟩ := P0.out.all
    obtain ⟨cs0_10, cs0_11, cs0_12, -, -, -⟩ := P1.out.all
    go_wp2_with fail
    go_ret
    exact ⟨rfl, B.out⟩

/-! ### The row's step -/
set_option maxRecDepth 100000 in
theorem lifted (os : Os) (started : os.Started) (H : Type) (enc : TypeId × Value → H) :
    ReturnsInHanded {} Try.checked os 4 .any (Rows.fnExactAddMatricesSpec.pre6 enc Try.prog Try.f4 Rows.fnExactAddMatricesRow.domain false) (Rows.fnExactAddMatricesSpec.post enc Try.prog Try.f4 false true false false) := by
  refine returnsInHanded_of_change (C := Try.checked) own started (by kernel_rfl) Try.func4
    (ChangeSpec.witness6 (enc := enc) (C := Try.checked) false ⟨#[], #[.agg #[.int .i64 0, .int .i64 0, .slice none 0 0], .agg #[.int .i64 0, .int .i64 0, .slice none 0 0]], []⟩ 8 (by kernel_rfl) (by kernel_rfl) (by kernel_rfl) (by kernel_rfl)) ?_
  intro W base args ds gs before hval0 hW hcnd _
  have hval : ∀ (j : Nat) t v, Try.f4.params[j]? = some t → args[j]? = some v → Value.okWide Try.prog W .any base t v := hval0
  have hW' := hW
  obtain ⟨p, q, hA0, hV, rfl, hfz, hnd⟩ := hW
  have hA : DataW.TrodAll enc Try.prog W 0 (fun _ => true) true Try.f4.params.toList args.toList ds p := hA0
  rw [Try.params4] at hA hval
  obtain ⟨v0, vs0, d0, ds0, p0, q0, hargs, rfl, rfl, h0, r0⟩ := trodAll_cons hA
  obtain ⟨v1, vs1, d1, ds1, p1, q1, rfl, rfl, rfl, h1, r1⟩ := trodAll_cons r0
  obtain ⟨rfl, rfl, rfl⟩ := trodAll_nil r1
  obtain rfl : args = #[v0, v1] := by cases args; simp_all
  obtain ⟨rfl, rfl⟩ := trodVars_none hV
  have k0 := h0
  have lt0 : ∀ x ∈ p0, x.block < W.heap.size := by obtain ⟨m, hm⟩ := k0; exact DataW.trod_lt m _ _ _ hm
  obtain ⟨c0_0, c0_1, c0_2, y0_0, y0_1, y0_2, m0, rfl, rfl, rfl, hy0_0, hy0_1, hy0_2⟩ := Joins.open_agg3 Try.underlying34 (by kernel_rfl) cells34 (hval 0 34 v0 rfl rfl) h0
  obtain ⟨a0_0, e0_0, rfl, w0_0⟩ := DataW.trod_int Try.underlying3 hy0_0
  simp only [List.cons.injEq, and_true] at e0_0
  subst e0_0
  obtain ⟨a0_1, e0_1, rfl, w0_1⟩ := DataW.trod_int Try.underlying3 hy0_1
  simp only [List.cons.injEq, and_true] at e0_1
  subst e0_1
  obtain ⟨a0_2, len0_2, cap0_2, e0_2⟩ := Joins.slice_form Try.underlying24 hy0_2
  simp only [List.cons.injEq, and_true] at e0_2
  subst e0_2
  obtain ⟨z0_2, w0_2⟩ : ∃ zs, IsRow .i64 W a0_2 len0_2 cap0_2 zs := isRow_of Try.underlying24 Try.underlying3 (by kernel_rfl) hy0_2
  have k1 := h1
  have lt1 : ∀ x ∈ p1, x.block < W.heap.size := by obtain ⟨m, hm⟩ := k1; exact DataW.trod_lt m _ _ _ hm
  obtain ⟨c1_0, c1_1, c1_2, y1_0, y1_1, y1_2, m1, rfl, rfl, rfl, hy1_0, hy1_1, hy1_2⟩ := Joins.open_agg3 Try.underlying34 (by kernel_rfl) cells34 (hval 1 34 v1 rfl rfl) h1
  obtain ⟨a1_0, e1_0, rfl, w1_0⟩ := DataW.trod_int Try.underlying3 hy1_0
  simp only [List.cons.injEq, and_true] at e1_0
  subst e1_0
  obtain ⟨a1_1, e1_1, rfl, w1_1⟩ := DataW.trod_int Try.underlying3 hy1_1
  simp only [List.cons.injEq, and_true] at e1_1
  subst e1_1
  obtain ⟨a1_2, len1_2, cap1_2, e1_2⟩ := Joins.slice_form Try.underlying24 hy1_2
  simp only [List.cons.injEq, and_true] at e1_2
  subst e1_2
  obtain ⟨z1_2, w1_2⟩ : ∃ zs, IsRow .i64 W a1_2 len1_2 cap1_2 zs := isRow_of Try.underlying24 Try.underlying3 (by kernel_rfl) hy1_2
  clear hA0 hval0
  refine (walk a0_0 a0_1 a0_2 len0_2 cap0_2 z0_2 a1_0 a1_1 a1_2 len1_2 cap1_2 z1_2 W w0_0 w0_1 w0_2 w1_0 w1_1 w1_2).mono fun e W' ⟨he, bel⟩ => ?_
  subst he
  exact ⟨_, rfl, _, _, _, [], _, [], hW', trodAll_mk1 (shut_bool Try.underlying4 _), (trodAll_cons_mk (Below.trod laidOut (by kernel_rfl) (of_decide_eq_true (by kernel_rfl)) k0 bel lt0) (trodAll_cons_mk (Below.trod laidOut (by kernel_rfl) (of_decide_eq_true (by kernel_rfl)) k1 bel lt1) trodAll_mk0)), rfl, bel.frame _, fun h => by cases h⟩

theorem over : Rows.fnExactAddMatricesRow.holds Try.pinned (OpenSpec.ofChange Rows.fnExactAddMatricesSpec) :=
  OpenClaim.holds_of_wide 4 Try.f4 rfl rfl rfl rfl rfl rfl rfl ⟨rfl, rfl, rfl, rfl, rfl⟩ rfl rfl rfl rfl rfl (by kernel_rfl) Try.func4 (by kernel_rfl)
    (of_decide_eq_true (by kernel_rfl)) (by unfold Func.isWrapper; first | (rw [if_pos (by decide +kernel)]; kernel_rfl) | (rw [if_neg (by decide +kernel)]; exact ⟨rfl, rfl⟩))
    (fun os started H enc _ => lifted os started H enc)

/-- ████ THE STATEMENT ████ -/
theorem proved : Rows.FnExactAddMatricesSaid := over
#print axioms proved
end Go.Proofs.Ytiggioccmlbhhaa.fnExactAddMatrices
