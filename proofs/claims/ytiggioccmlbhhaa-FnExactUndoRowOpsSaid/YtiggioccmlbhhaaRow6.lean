/-
  Chapter 5, in the model: DoRowOps.
-/
import Derived.Test.YtiggioccmlbhhaaRow5
import Derived.Test.YtiggioccmlbhhaaRo
namespace Go.Proofs.Ytiggioccmlbhhaa
open Go.RowKit

def opsM (r c : Int) : List Int → List Ro → MR
  | xs, [] => ⟨true, r, c, xs⟩
  | xs, x :: l => if (opM x.k x.i x.j x.t r c xs).ok = true then opsM r c (opM x.k x.i x.j x.t r c xs).zs l else MR.no
theorem opsM_t {r c : Int} {x : Ro} {l : List Ro} {xs : List Int} (h : (opM x.k x.i x.j x.t r c xs).ok = true) : opsM r c xs (x :: l) = opsM r c (opM x.k x.i x.j x.t r c xs).zs l := by
  show (if _ then _ else _) = _
  rw [if_pos h]
theorem opsM_f {r c : Int} {x : Ro} {l : List Ro} {xs : List Int} (h : (opM x.k x.i x.j x.t r c xs).ok = false) : opsM r c xs (x :: l) = MR.no := by
  show (if _ then _ else _) = _
  rw [if_neg (by rw [h]; decide)]
theorem opsM_app {r c : Int} (l' : List Ro) {ys : List Int} (l : List Ro) : ∀ (xs : List Int), opsM r c xs l = ⟨true, r, c, ys⟩ → opsM r c xs (l ++ l') = opsM r c ys l' := by
  induction l with
  | nil =>
    intro xs h
    have h2 := congrArg MR.zs h
    have h2 : xs = ys := h2
    rw [h2]; rfl
  | cons y l ih =>
    intro xs h
    rw [List.cons_append]
    rcases Bool.eq_false_or_eq_true (opM y.k y.i y.j y.t r c xs).ok with h2 | h2
    · rw [opsM_t h2] at h ⊢
      exact ih _ h
    · rw [opsM_f h2] at h
      exact absurd (congrArg MR.ok h) (by simp [MR.no])
theorem opM_dims {k i j t r c : Int} {xs : List Int} (h : (opM k i j t r c xs).ok = true) : (opM k i j t r c xs).r = r ∧ (opM k i j t r c xs).c = c := by
  unfold opM at h ⊢
  by_cases h1 : (isMat r c xs && isOp k i j t r) = true
  · rw [if_pos h1] at h ⊢
    unfold MR.done at h ⊢
    by_cases h2 : isMat r c (opL k i.toNat j.toNat t c.toNat xs) = true
    · rw [if_pos h2]; exact ⟨rfl, rfl⟩
    · rw [if_neg h2] at h; exact absurd h (by simp [MR.no])
  · rw [if_neg h1] at h; exact absurd h (by simp [MR.no])
theorem opM_no {k i j t r c : Int} {xs : List Int} (h : (opM k i j t r c xs).ok = false) : opM k i j t r c xs = MR.no := by
  unfold opM at h ⊢
  by_cases h1 : (isMat r c xs && isOp k i j t r) = true
  · rw [if_pos h1] at h ⊢
    unfold MR.done at h ⊢
    by_cases h2 : isMat r c (opL k i.toNat j.toNat t c.toNat xs) = true
    · rw [if_pos h2] at h; exact absurd h (by simp)
    · rw [if_neg h2]
  · rw [if_neg h1]
theorem Own.old {B : Nat} {w : World} {v : Value} {zs : List Int} (h : Own B w v zs) (o : Obj) : Own B (w.alloc o) v zs := h.keep ((Below.refl _ _).alloc (Nat.le_refl _) o)
theorem Own.spot {B n c : Nat} {w : World} {a : Option Addr} {zs : List Int} (h : Own B w (.slice a n c) zs) : Rd w a zs ∧ Spot a ∧ n = zs.length ∧ zs.length ≤ 16777216 := by
  rcases h with ⟨hv, rfl⟩ | ⟨g, cap, hv, _, hi, hl, hc⟩
  · simp only [Value.slice.injEq] at hv
    obtain ⟨rfl, rfl, -⟩ := hv
    exact ⟨Rd.nil _ _, .inl rfl, rfl, by simp⟩
  · simp only [Value.slice.injEq] at hv
    obtain ⟨rfl, rfl, -⟩ := hv
    exact ⟨hi.rd, .inr ⟨_, _, rfl⟩, rfl, hc⟩
theorem opsF {w w' : World} {b b2 o q : Nat} {t : TypeId} {x y z : Value} {l : List Ro} {u : Ro} (h : Blk3 w b t x y z) (hl : RdO w (some ⟨b2, o, none⟩) l) (hq : q < l.length) (hu : l.getD q Ro.zero = u) (hb : Below w.heap.size w w') :
    w'.cell? ⟨b, 0, none⟩ = some x ∧ w'.cell? ⟨b, 1, none⟩ = some y ∧ w'.cell? ⟨b, 2, none⟩ = some z ∧ w'.cell? ⟨b2, o + q * 4, none⟩ = some (.int .i64 u.k) ∧ w'.cell? ⟨b2, o + q * 4 + 1, none⟩ = some (.int .i64 u.i) ∧ w'.cell? ⟨b2, o + q * 4 + 2, none⟩ = some (.int .i64 u.j) ∧ w'.cell? ⟨b2, o + q * 4 + 3, none⟩ = some (.int .i64 u.t) := by
  subst hu
  obtain ⟨b3, o3, e, hlt, h0, h1, h2, h3⟩ := (hl.below hb) q hq
  simp only [Option.some.injEq, Addr.mk.injEq] at e
  obtain ⟨rfl, rfl, -⟩ := e
  exact ⟨(h.keep hb h.lt).cell0, (h.keep hb h.lt).cell1, (h.keep hb h.lt).cell2, h0, h1, h2, h3⟩
def opsR (r c : Int) (xs : List Int) (l : List Ro) : MR := if isMat r c xs = true ∧ l.length ≤ 40 then opsM r c xs l else MR.no
set_option maxRecDepth 100000 in
set_option maxHeartbeats 4000000 in
theorem sOps_t (r c : Int) (a al : Option Addr) (m ml : Nat) (xs : List Int) (l : List Ro) (w : World) (h : Rd w a xs) (ha : Spot a) (hl : RdO w al l) (hL : l.length ≤ 40) (hm : isMat r c xs = true) (hx : xs.length ≤ 576) :
    Calls Try.prog 38 #[.agg #[.int .i64 r, .int .i64 c, .slice a xs.length m], .slice al l.length ml] w (MatRes (opsM r c xs l) w) := by
  have M := Lib.hid hm
  have H := Lib.hid h
  have HL := Lib.hid hl
  have HA := Lib.hid ha
  obtain ⟨n, hn⟩ : ∃ n, xs.length = n := ⟨_, rfl⟩
  obtain ⟨ln, hln⟩ : ∃ ln, l.length = ln := ⟨_, rfl⟩
  have HX := Lib.hid hn
  have LN := Lib.hid hln
  rw [hn] at hx ⊢
  rw [hln] at hL ⊢
  clear hn hln h hl ha hm
  have B0 : ∀ o1 o2, Below w.heap.size w ((w.alloc o1).alloc o2) := fun o1 o2 => ((Below.refl _ _).alloc (Nat.le_refl _) _).alloc (by simp) _
  have BH := Lib.hid B0
  clear B0
  go_enter Try.func38, Try.ntmps38
  go_wp2_with fail
  have ST := sIsMat r c a m xs _ (H.out.below (BH.out (.cells #[.int .i64 r, .int .i64 c, .slice a n m] 26) (.cells #[.int .i64 0, .int .i64 0, .slice none 0 0] 26))) (by rw [HX.out]; omega)
  rw [HX.out] at ST
  refine ST.mono ?_
  clear ST
  rintro e w1 ⟨rfl, hb⟩
  have K0 : Hid (Blk3 w1 w.heap.size 26 (.int .i64 r) (.int .i64 c) (.slice a n m)) := ((Blk3.at_ _ _ _ _ rfl).old _).keep hb (by simp <;> omega)
  have K2 : Hid (Blk3 w1 (w.heap.size + 1) 26 (.int .i64 0) (.int .i64 0) (.slice none 0 0)) := (Blk3.at_ _ _ _ _ (by simp)).keep hb (by simp)
  have B : Hid (Below w.heap.size w w1) := (BH.out _ _).trans (hb.mono (by simp <;> omega))
  clear hb
  obtain ⟨ca0, ca1, ca2, -, -, -⟩ := K0.out.all
  obtain ⟨cc0, cc1, cc2, ff0, ff1, ff2⟩ := K2.out.all
  rw [M.out]
  go_wp2_with fail
  refine (sCopyA r c a m n xs _ (H.out.below B.out) HA.out HX.out (by omega)).mono ?_
  rintro e w3 ⟨g, cap, rfl, gB, gI, hb⟩
  have l2 := K2.out.lt
  have K2 := Lib.hid ((K2.out.step hb).old (.cells #[.int .i64 r, .int .i64 c, .slice (some ⟨g, 0, none⟩) n cap] 26))
  have K6 : Hid (Blk3 (w3.alloc (.cells #[.int .i64 r, .int .i64 c, .slice (some ⟨g, 0, none⟩) n cap] 26)) w3.heap.size 26 (.int .i64 r) (.int .i64 c) (.slice (some ⟨g, 0, none⟩) n cap)) := Blk3.at_ _ _ _ _ rfl
  have I3 := Lib.hid (gI.ints.old (.cells #[.int .i64 r, .int .i64 c, .slice (some ⟨g, 0, none⟩) n cap] 26))
  have CL : Hid (n ≤ cap) := by have := gI.le; rw [HX.out] at this; exact this
  have lg := gI.lt
  have ls := hb.size
  have B := Lib.hid ((stepB B.out hb).alloc (stepB B.out hb).size (.cells #[.int .i64 r, .int .i64 c, .slice (some ⟨g, 0, none⟩) n cap] 26))
  clear hb gI
  obtain ⟨ec0, ec1, ec2, -, -, -⟩ := K6.out.all
  obtain ⟨W, hW⟩ : ∃ W, w3.alloc (.cells #[.int .i64 r, .int .i64 c, .slice (some ⟨g, 0, none⟩) n cap] 26) = W := ⟨_, rfl⟩
  rw [hW] at ec0 ec1 ec2 K2 K6 I3 B
  have OW : Hid (Own (w.heap.size + 1 + 1) W (.slice (some ⟨g, 0, none⟩) n cap) xs) := .inr ⟨g, cap, by rw [HX.out], by omega, I3.out, by rw [HX.out]; exact CL.out, by rw [HX.out]; omega⟩
  have hWB : w3.heap.size < W.heap.size := K6.out.lt
  obtain ⟨ob, hob⟩ : ∃ ob, w3.heap.size = ob := ⟨_, rfl⟩
  rw [hob] at K6 hWB
  go_wp2_with fail
  go_loopw [7, 8, 9] (fun i _ _ wr => ∃ (q : Nat) (sa : Option Addr) (yn qc : Nat) (ys : List Int), i = .int .i64 q ∧ q ≤ ln ∧ Blk3 wr ob 26 (.int .i64 r) (.int .i64 c) (.slice sa yn qc) ∧ Own (w.heap.size + 1 + 1) wr (.slice sa yn qc) ys ∧ opsM r c xs (l.take q) = ⟨true, r, c, ys⟩ ∧ W.grownBy wr (some ob)) (fun i _ _ _ => ln - (intOf i).toNat)
  case atStart => exact ⟨0, some ⟨g, 0, none⟩, n, cap, xs, rfl, by omega, K6.out, OW.out, rfl, World.grownBy.refl _ _⟩
  case round =>
    obtain ⟨q, sa, yn, qc, ys, rfl, hq, h6, ho, hE, hgr⟩ := hrel
    have R6 := Lib.hid h6
    have O := Lib.hid ho
    have E := Lib.hid hE
    have G := Lib.hid hgr
    obtain ⟨s1, s2, s3, s4⟩ := ho.spot
    subst s3
    have SA : Hid (Rd wr sa ys ∧ Spot sa ∧ ys.length = ys.length ∧ ys.length ≤ 16777216) := ⟨s1, s2, rfl, s4⟩
    clear s1 s2 s4
    clear h6 ho hE hgr
    obtain ⟨d0, d1, d2, -, -, -⟩ := R6.out.all
    have BW : Hid (Below w.heap.size w wr) := B.out.trans (below_of_one G.out (by omega) B.out.size)
    have K2 : Hid (Blk3 wr (w.heap.size + 1) 26 (.int .i64 0) (.int .i64 0) (.slice none 0 0)) := K2.out.keepOne G.out (by omega)
    by_cases hlt : q < ln
    · have hlt2 : q < l.length := by rw [LN.out]; exact hlt
      obtain ⟨b2, o2, rfl, -, -⟩ := HL.out q hlt2
      have RL : Hid (RdO wr (some ⟨b2, o2, none⟩) l) := HL.out.below BW.out
      obtain ⟨u, hu⟩ : ∃ u, l.getD q Ro.zero = u := ⟨_, rfl⟩
      have HU := Lib.hid hu
      have HQ := Lib.hid hlt2
      clear hu hlt2
      obtain ⟨mr, hmr⟩ : ∃ m, opM u.k u.i u.j u.t r c ys = m := ⟨_, rfl⟩
      have HMR := Lib.hid hmr
      clear hmr
      go_upto_region 7 with fail
      refine wp_region_held_drew (S := fun w' => Below wr.heap.size wr w') (by kernel_rfl) (Below.refl _ _).drew (fun hH => ?_)
      refine wpAnyH_take (i := 0) (v := ?_) (by simp only [List.getElem?_toArray, List.getElem?_cons_zero]; rfl) (by kernel_rfl) (by kernel_rfl) (by kernel_rfl) (by exact fun _ _ _ h => h) (Or.inl ⟨by rfl, ?_⟩) hH ?_
      rotate_left
      · (intro wS hS; (try dsimp only at hS); obtain ⟨k1, k2, k3, k4, k5, k6, k7⟩ := opsF R6.out RL.out HQ.out HU.out hS; go_simp; try rfl)
      try simp only [Act.put, List.setIfInBounds_toArray, List.set_cons_zero, List.set_cons_succ]
      refine wpAnyH_take (i := 1) (v := ?_) (by simp only [List.getElem?_toArray, List.getElem?_cons_succ, List.getElem?_cons_zero]; rfl) (by kernel_rfl) (by kernel_rfl) (by kernel_rfl) (by exact fun _ _ _ h => h) (Or.inl ⟨by rfl, ?_⟩) hH ?_
      rotate_left
      · (intro wS hS; (try dsimp only at hS); obtain ⟨k1, k2, k3, k4, k5, k6, k7⟩ := opsF R6.out RL.out HQ.out HU.out hS; go_simp; try rfl)
      try simp only [Act.put, List.setIfInBounds_toArray, List.set_cons_zero, List.set_cons_succ]
      refine wpAnyH_take (i := 2) (v := ?_) (by simp only [List.getElem?_toArray, List.getElem?_cons_succ, List.getElem?_cons_zero]; rfl) (by kernel_rfl) (by kernel_rfl) (by kernel_rfl) (by exact fun _ _ _ h => h) (Or.inl ⟨by rfl, ?_⟩) hH ?_
      rotate_left
      · (intro wS hS; (try dsimp only at hS); obtain ⟨k1, k2, k3, k4, k5, k6, k7⟩ := opsF R6.out RL.out HQ.out HU.out hS; go_simp; try rfl)
      try simp only [Act.put, List.setIfInBounds_toArray, List.set_cons_zero, List.set_cons_succ]
      refine wpAnyH_take (i := 3) (v := ?_) (by simp only [List.getElem?_toArray, List.getElem?_cons_succ, List.getElem?_cons_zero]; rfl) (by kernel_rfl) (by kernel_rfl) (by kernel_rfl) (by exact fun _ _ _ h => h) (Or.inl ⟨by rfl, ?_⟩) hH ?_
      rotate_left
      · (intro wS hS; (try dsimp only at hS); obtain ⟨k1, k2, k3, k4, k5, k6, k7⟩ := opsF R6.out RL.out HQ.out HU.out hS; go_simp; try rfl)
      try simp only [Act.put, List.setIfInBounds_toArray, List.set_cons_zero, List.set_cons_succ]
      refine wpAnyH_take (i := 4) (v := ?_) (by simp only [List.getElem?_toArray, List.getElem?_cons_succ, List.getElem?_cons_zero]; rfl) (by kernel_rfl) (by kernel_rfl) (by kernel_rfl) (by exact fun _ _ _ h => h) (Or.inl ⟨by rfl, ?_⟩) hH ?_
      rotate_left
      · (intro wS hS; (try dsimp only at hS); obtain ⟨k1, k2, k3, k4, k5, k6, k7⟩ := opsF R6.out RL.out HQ.out HU.out hS; go_simp; try rfl)
      try simp only [Act.put, List.setIfInBounds_toArray, List.set_cons_zero, List.set_cons_succ]
      refine wpAnyH_ready (rs := [5, 9]) (by kernel_rfl) (by simp) ?_
      refine AllReadyH.cons (by simp only [List.getElem?_toArray, List.getElem?_cons_succ, List.getElem?_cons_zero]; rfl) (fun K hK => ?_) (AllReadyH.cons (by simp only [List.getElem?_toArray, List.getElem?_cons_succ, List.getElem?_cons_zero]; rfl) (fun K hK => ?_) AllReadyH.nil)
      · go_simp
        have hs1 := hH.size
        (with_reducible refine (sOp u.k u.i u.j u.t r c sa qc ys _ (SA.out.1.below hH) SA.out.2.2.2 SA.out.2.1).mono ?_)
        rintro e v1 ⟨v, rfl, ho1, hb1⟩
        rw [HMR.out] at ho1 ⊢
        obtain ⟨q2, qc2, rfl, -, -⟩ := ho1.form
        try dsimp only
        refine hK.out _ _ ?_ (fun hH2 => ?_)
        · exact hH.trans (hb1.mono hH.size)
        clear hK K
        have hO := hH
        clear hH
        have hH := hH2
        clear hH2
        try simp only [Act.put, List.setIfInBounds_toArray, List.set_cons_zero, List.set_cons_succ]
        have z1 := hb1.size
        refine wpAnyH_take (i := 6) (v := ?_) (by simp only [List.getElem?_toArray, List.getElem?_cons_succ, List.getElem?_cons_zero]; rfl) (by kernel_rfl) (by kernel_rfl) (by kernel_rfl) (by exact fun _ _ _ h => h) (Or.inl ⟨by rfl, ?_⟩) hH ?_
        rotate_left
        · (intro wS hS; clear hS; go_simp; try rfl)
        try simp only [Act.put, List.setIfInBounds_toArray, List.set_cons_zero, List.set_cons_succ]
        refine wpAnyH_take (i := 7) (v := ?_) (by simp only [List.getElem?_toArray, List.getElem?_cons_succ, List.getElem?_cons_zero]; rfl) (by kernel_rfl) (by kernel_rfl) (by kernel_rfl) (by exact fun _ _ _ h => h) (Or.inl ⟨by rfl, ?_⟩) hH ?_
        rotate_left
        · (intro wS hS; clear hS; go_simp; try rfl)
        try simp only [Act.put, List.setIfInBounds_toArray, List.set_cons_zero, List.set_cons_succ]
        refine wpAnyH_take (i := 8) (v := ?_) (by simp only [List.getElem?_toArray, List.getElem?_cons_succ, List.getElem?_cons_zero]; rfl) (by kernel_rfl) (by kernel_rfl) (by kernel_rfl) (by exact fun _ _ _ h => h) (Or.inl ⟨by rfl, ?_⟩) hH ?_
        rotate_left
        · (intro wS hS; clear hS; go_simp; try rfl)
        try simp only [Act.put, List.setIfInBounds_toArray, List.set_cons_zero, List.set_cons_succ]
        refine wpAnyH_ready (rs := [9]) (by kernel_rfl) (by simp) ?_
        refine AllReadyH.cons (by simp only [List.getElem?_toArray, List.getElem?_cons_succ, List.getElem?_cons_zero]; rfl) (fun K hK => ?_) AllReadyH.nil
        go_simp
        have VB : Hid (Blk3 (v1.alloc (.cells #[.int .i64 0, .int .i64 0, .slice none 0 0] 26)) v1.heap.size 26 (.int .i64 0) (.int .i64 0) (.slice none 0 0)) := Blk3.at_ _ _ _ _ rfl
        have PL : wr.heap.size ≤ v1.heap.size := hH.size
        try dsimp only
        refine hK.out _ _ ?_ (fun hH2 => ?_)
        · exact hH.alloc hH.size _
        clear hK K
        have hO := hH
        clear hH
        have hH := hH2
        clear hH2
        try simp only [Act.put, List.setIfInBounds_toArray, List.set_cons_zero, List.set_cons_succ]
        refine wpAnyH_ready (rs := [10]) (by kernel_rfl) (by simp) ?_
        refine AllReadyH.cons (by simp only [List.getElem?_toArray, List.getElem?_cons_succ, List.getElem?_cons_zero]; rfl) (fun K hK => ?_) AllReadyH.nil
        go_simp
        have VB : Hid (Blk3 (v1.alloc (.cells #[.int .i64 mr.r, .int .i64 mr.c, .slice q2 mr.zs.length qc2] 26)) v1.heap.size 26 (.int .i64 mr.r) (.int .i64 mr.c) (.slice q2 mr.zs.length qc2)) := Blk3.at_ _ _ _ _ rfl
        try dsimp only
        refine hK.out _ _ ?_ (fun hH2 => ?_)
        · exact hO.alloc hO.size _
        clear hK K
        have hO := hH
        clear hH
        have hH := hH2
        clear hH2
        try simp only [Act.put, List.setIfInBounds_toArray, List.set_cons_zero, List.set_cons_succ]
        refine wpAnyH_take (i := 11) (v := ?_) (by simp only [List.getElem?_toArray, List.getElem?_cons_succ, List.getElem?_cons_zero]; rfl) (by kernel_rfl) (by kernel_rfl) (by kernel_rfl) (by exact fun _ _ _ h => h) (Or.inl ⟨by rfl, ?_⟩) hH ?_
        rotate_left
        · (intro wS hS; clear hS; go_simp; try rfl)
        try simp only [Act.put, List.setIfInBounds_toArray, List.set_cons_zero, List.set_cons_succ]
        refine wpAnyH_done (by kernel_rfl) ?_ _
        have O2 := ho1.old (.cells #[.int .i64 mr.r, .int .i64 mr.c, .slice q2 mr.zs.length qc2] 26)
        obtain ⟨we, hwe⟩ : ∃ we, v1.alloc (.cells #[.int .i64 mr.r, .int .i64 mr.c, .slice q2 mr.zs.length qc2] 26) = we := ⟨_, rfl⟩
        rw [hwe] at hH VB O2 ⊢
        clear hwe
        have obl := R6.out.lt
        have R6 := Lib.hid (R6.out.keep hH R6.out.lt)
        have K2 := Lib.hid (K2.out.keep hH K2.out.lt)
        have BE := Lib.hid (BW.out.trans (hH.mono BW.out.size))
        have GE : Hid (W.grownBy we (some ob)) := G.out.trans (grown_of_below hH _)
        have pvl := VB.out.lt
        obtain ⟨y0, y1, y2, -, -, -⟩ := VB.out.all
        obtain ⟨z0, z1, z2, zf0, zf1, zf2⟩ := R6.out.all
        obtain ⟨x0, x1, x2, xf0, xf1, xf2⟩ := K2.out.all
        have N0 := opsM_app (l.drop q) (l.take q) xs E.out
        have N1 := opsM_app [u] (l.take q) xs E.out
        rw [List.take_append_drop, List.drop_eq_getElem_cons HQ.out] at N0
        have EG : l[q]'HQ.out = u := by rw [← HU.out]; simp [List.getD, HQ.out]
        rw [EG] at N0
        rcases Bool.eq_false_or_eq_true mr.ok with hok | hok
        · have D := opM_dims (k := u.k) (i := u.i) (j := u.j) (t := u.t) (r := r) (c := c) (xs := ys) (by rw [HMR.out]; exact hok)
          rw [HMR.out] at D
          rw [opsM_t (by rw [HMR.out]; exact hok), HMR.out] at N1
          have N1 : Hid (opsM r c xs (l.take (q + 1)) = ⟨true, r, c, mr.zs⟩) := by
            show opsM r c xs (l.take (q + 1)) = _
            rw [List.take_succ_eq_append_getElem HQ.out, EG, N1]
            rfl
          clear N0 EG
          obtain ⟨D1, D2⟩ := D
          go_wp2_with fail
          go_roundw
          case rel =>
            refine ⟨q + 1, q2, mr.zs.length, qc2, mr.zs, by go_num, by omega, ?_, ?_, N1.out, ?_⟩
            · rw [← D1, ← D2]
              exact R6.out.set3 _ _ _
            · exact (((O2.far (by simp <;> omega) _).far (by simp <;> omega) _).far (by simp <;> omega) _).le (by have := BW.out.size; simp <;> omega)
            · exact grown_set_one (grown_set_one (grown_set_one GE.out rfl _) rfl _) rfl _
          case measure => simp [intOf]; omega
        · rw [opsM_f (by rw [HMR.out]; exact hok)] at N0
          have NE := Lib.hid N0
          clear N0 N1 EG
          go_wp2_with fail
          obtain ⟨E0, E1, E2, -, -, -⟩ := (K2.out.set3 (.int .i64 0) (.int .i64 0) (.slice none 0 0)).all
          rw [NE.out]
          exact bodyPost_ret (v := .tuple #[.agg #[.int .i64 0, .int .i64 0, .slice none 0 0], .bool false]) (by simp [results, Try.results38, go_sem, E0, E1, E2]) rfl ⟨_, rfl, .inl ⟨rfl, rfl⟩, ((BE.out.setCell (by show w.heap.size ≤ w.heap.size + 1; omega) _).setCell (by show w.heap.size ≤ w.heap.size + 1; omega) _).setCell (by show w.heap.size ≤ w.heap.size + 1; omega) _⟩
      · go_simp
        have VB : Hid (Blk3 (wr.drew.alloc (.cells #[.int .i64 0, .int .i64 0, .slice none 0 0] 26)) wr.heap.size 26 (.int .i64 0) (.int .i64 0) (.slice none 0 0)) := Blk3.at_ _ _ _ _ rfl
        have PL : wr.heap.size ≤ wr.drew.heap.size := hH.size
        try dsimp only
        refine hK.out _ _ ?_ (fun hH2 => ?_)
        · exact hH.alloc hH.size _
        clear hK K
        have hO := hH
        clear hH
        have hH := hH2
        clear hH2
        try simp only [Act.put, List.setIfInBounds_toArray, List.set_cons_zero, List.set_cons_succ]
        refine wpAnyH_ready (rs := [5]) (by kernel_rfl) (by simp) ?_
        refine AllReadyH.cons (by simp only [List.getElem?_toArray, List.getElem?_cons_succ, List.getElem?_cons_zero]; rfl) (fun K hK => ?_) AllReadyH.nil
        go_simp
        have hs1 := hH.size
        have lb1 := VB.out.lt
        (with_reducible refine (sOp u.k u.i u.j u.t r c sa qc ys _ (SA.out.1.below hH) SA.out.2.2.2 SA.out.2.1).mono ?_)
        rintro e v1 ⟨v, rfl, ho1, hb1⟩
        rw [HMR.out] at ho1 ⊢
        obtain ⟨q2, qc2, rfl, -, -⟩ := ho1.form
        have VB := Lib.hid (VB.out.keep hb1 VB.out.lt)
        try dsimp only
        refine hK.out _ _ ?_ (fun hH2 => ?_)
        · exact hH.trans (hb1.mono hH.size)
        clear hK K
        have hO := hH
        clear hH
        have hH := hH2
        clear hH2
        try simp only [Act.put, List.setIfInBounds_toArray, List.set_cons_zero, List.set_cons_succ]
        have z1 := hb1.size
        refine wpAnyH_take (i := 6) (v := ?_) (by simp only [List.getElem?_toArray, List.getElem?_cons_succ, List.getElem?_cons_zero]; rfl) (by kernel_rfl) (by kernel_rfl) (by kernel_rfl) (by exact fun _ _ _ h => h) (Or.inl ⟨by rfl, ?_⟩) hH ?_
        rotate_left
        · (intro wS hS; clear hS; go_simp; try rfl)
        try simp only [Act.put, List.setIfInBounds_toArray, List.set_cons_zero, List.set_cons_succ]
        refine wpAnyH_take (i := 7) (v := ?_) (by simp only [List.getElem?_toArray, List.getElem?_cons_succ, List.getElem?_cons_zero]; rfl) (by kernel_rfl) (by kernel_rfl) (by kernel_rfl) (by exact fun _ _ _ h => h) (Or.inl ⟨by rfl, ?_⟩) hH ?_
        rotate_left
        · (intro wS hS; clear hS; go_simp; try rfl)
        try simp only [Act.put, List.setIfInBounds_toArray, List.set_cons_zero, List.set_cons_succ]
        refine wpAnyH_take (i := 8) (v := ?_) (by simp only [List.getElem?_toArray, List.getElem?_cons_succ, List.getElem?_cons_zero]; rfl) (by kernel_rfl) (by kernel_rfl) (by kernel_rfl) (by exact fun _ _ _ h => h) (Or.inl ⟨by rfl, ?_⟩) hH ?_
        rotate_left
        · (intro wS hS; clear hS; go_simp; try rfl)
        try simp only [Act.put, List.setIfInBounds_toArray, List.set_cons_zero, List.set_cons_succ]
        refine wpAnyH_ready (rs := [10]) (by kernel_rfl) (by simp) ?_
        refine AllReadyH.cons (by simp only [List.getElem?_toArray, List.getElem?_cons_succ, List.getElem?_cons_zero]; rfl) (fun K hK => ?_) AllReadyH.nil
        obtain ⟨y0, y1, y2, y3, y4, y5⟩ := VB.out.all
        go_simp
        have VB := Lib.hid (((VB.out.set0 (.int .i64 mr.r)).set1 (.int .i64 mr.c)).set2 (.slice q2 mr.zs.length qc2))
        try dsimp only
        refine hK.out _ _ ?_ (fun hH2 => ?_)
        · exact (((hH.setCell PL _).setCell PL _).setCell PL _)
        clear hK K
        have hO := hH
        clear hH
        have hH := hH2
        clear hH2
        try simp only [Act.put, List.setIfInBounds_toArray, List.set_cons_zero, List.set_cons_succ]
        refine wpAnyH_take (i := 11) (v := ?_) (by simp only [List.getElem?_toArray, List.getElem?_cons_succ, List.getElem?_cons_zero]; rfl) (by kernel_rfl) (by kernel_rfl) (by kernel_rfl) (by exact fun _ _ _ h => h) (Or.inl ⟨by rfl, ?_⟩) hH ?_
        rotate_left
        · (intro wS hS; clear hS; go_simp; try rfl)
        try simp only [Act.put, List.setIfInBounds_toArray, List.set_cons_zero, List.set_cons_succ]
        refine wpAnyH_done (by kernel_rfl) ?_ _
        have O2 := ((ho1.far (a := ⟨wr.heap.size, 0, none⟩) (by simp) (.int .i64 mr.r)).far (a := ⟨wr.heap.size, 1, none⟩) (by simp) (.int .i64 mr.c)).far (a := ⟨wr.heap.size, 2, none⟩) (by simp) (.slice q2 mr.zs.length qc2)
        obtain ⟨we, hwe⟩ : ∃ we, ((v1.setCell ⟨wr.heap.size, 0, none⟩ (.int .i64 mr.r)).setCell ⟨wr.heap.size, 1, none⟩ (.int .i64 mr.c)).setCell ⟨wr.heap.size, 2, none⟩ (.slice q2 mr.zs.length qc2) = we := ⟨_, rfl⟩
        rw [hwe] at hH VB O2 ⊢
        clear hwe
        have obl := R6.out.lt
        have R6 := Lib.hid (R6.out.keep hH R6.out.lt)
        have K2 := Lib.hid (K2.out.keep hH K2.out.lt)
        have BE := Lib.hid (BW.out.trans (hH.mono BW.out.size))
        have GE : Hid (W.grownBy we (some ob)) := G.out.trans (grown_of_below hH _)
        have pvl := VB.out.lt
        obtain ⟨y0, y1, y2, -, -, -⟩ := VB.out.all
        obtain ⟨z0, z1, z2, zf0, zf1, zf2⟩ := R6.out.all
        obtain ⟨x0, x1, x2, xf0, xf1, xf2⟩ := K2.out.all
        have N0 := opsM_app (l.drop q) (l.take q) xs E.out
        have N1 := opsM_app [u] (l.take q) xs E.out
        rw [List.take_append_drop, List.drop_eq_getElem_cons HQ.out] at N0
        have EG : l[q]'HQ.out = u := by rw [← HU.out]; simp [List.getD, HQ.out]
        rw [EG] at N0
        rcases Bool.eq_false_or_eq_true mr.ok with hok | hok
        · have D := opM_dims (k := u.k) (i := u.i) (j := u.j) (t := u.t) (r := r) (c := c) (xs := ys) (by rw [HMR.out]; exact hok)
          rw [HMR.out] at D
          rw [opsM_t (by rw [HMR.out]; exact hok), HMR.out] at N1
          have N1 : Hid (opsM r c xs (l.take (q + 1)) = ⟨true, r, c, mr.zs⟩) := by
            show opsM r c xs (l.take (q + 1)) = _
            rw [List.take_succ_eq_append_getElem HQ.out, EG, N1]
            rfl
          clear N0 EG
          obtain ⟨D1, D2⟩ := D
          go_wp2_with fail
          go_roundw
          case rel =>
            refine ⟨q + 1, q2, mr.zs.length, qc2, mr.zs, by go_num, by omega, ?_, ?_, N1.out, ?_⟩
            · rw [← D1, ← D2]
              exact R6.out.set3 _ _ _
            · exact (((O2.far (by simp <;> omega) _).far (by simp <;> omega) _).far (by simp <;> omega) _).le (by have := BW.out.size; simp <;> omega)
            · exact grown_set_one (grown_set_one (grown_set_one GE.out rfl _) rfl _) rfl _
          case measure => simp [intOf]; omega
        · rw [opsM_f (by rw [HMR.out]; exact hok)] at N0
          have NE := Lib.hid N0
          clear N0 N1 EG
          go_wp2_with fail
          obtain ⟨E0, E1, E2, -, -, -⟩ := (K2.out.set3 (.int .i64 0) (.int .i64 0) (.slice none 0 0)).all
          rw [NE.out]
          exact bodyPost_ret (v := .tuple #[.agg #[.int .i64 0, .int .i64 0, .slice none 0 0], .bool false]) (by simp [results, Try.results38, go_sem, E0, E1, E2]) rfl ⟨_, rfl, .inl ⟨rfl, rfl⟩, ((BE.out.setCell (by show w.heap.size ≤ w.heap.size + 1; omega) _).setCell (by show w.heap.size ≤ w.heap.size + 1; omega) _).setCell (by show w.heap.size ≤ w.heap.size + 1; omega) _⟩
    · have hql : q = ln := by omega
      have N0 := E.out
      rw [hql, ← LN.out, List.take_length] at N0
      have NE := Lib.hid N0
      clear N0
      obtain ⟨x0, x1, x2, xf0, xf1, xf2⟩ := K2.out.all
      go_wp2_with fail
      obtain ⟨E0, E1, E2, -, -, -⟩ := (K2.out.set3 (.int .i64 r) (.int .i64 c) (.slice sa ys.length qc)).all
      rw [NE.out]
      refine bodyPost_ret (v := .tuple #[.agg #[.int .i64 r, .int .i64 c, .slice sa ys.length qc], .bool true]) (by simp [results, Try.results38, go_sem, E0, E1, E2]) rfl ⟨_, rfl, ?_, ((BW.out.setCell (by show w.heap.size ≤ w.heap.size + 1; omega) _).setCell (by show w.heap.size ≤ w.heap.size + 1; omega) _).setCell (by show w.heap.size ≤ w.heap.size + 1; omega) _⟩
      exact (((O.out.far (by show w.heap.size + 1 < w.heap.size + 1 + 1; omega) _).far (by show w.heap.size + 1 < w.heap.size + 1 + 1; omega) _).far (by show w.heap.size + 1 < w.heap.size + 1 + 1; omega) _).le (by omega)
theorem sOps (r c : Int) (a al : Option Addr) (m ml : Nat) (xs : List Int) (l : List Ro) (w : World) (h : Rd w a xs) (ha : Spot a) (hl : RdO w al l) (hn : xs.length ≤ 16777216) (hL : l.length ≤ 16777216) :
    Calls Try.prog 38 #[.agg #[.int .i64 r, .int .i64 c, .slice a xs.length m], .slice al l.length ml] w (MatRes (opsR r c xs l) w) := by
  rcases Bool.eq_false_or_eq_true (isMat r c xs) with hm | hm
  · by_cases hL2 : l.length ≤ 40
    · have E : opsR r c xs l = opsM r c xs l := by unfold opsR; rw [if_pos ⟨hm, hL2⟩]
      rw [E]
      obtain ⟨⟨r1, r2⟩, ⟨c1, c2⟩, l1, -⟩ := isMat_says hm
      have hx : xs.length ≤ 576 := by
        obtain ⟨R, rfl⟩ := Int.eq_ofNat_of_zero_le r1
        obtain ⟨C, rfl⟩ := Int.eq_ofNat_of_zero_le c1
        rw [← Int.natCast_mul] at l1
        have hle : R * C ≤ 24 * 24 := Nat.mul_le_mul (by omega) (by omega)
        omega
      exact sOps_t r c a al m ml xs l w h ha hl hL2 hm hx
    · have E : Hid (opsR r c xs l = MR.no) := by show opsR r c xs l = _; unfold opsR; rw [if_neg (fun h => hL2 h.2)]
      have M := Lib.hid hm
      have H := Lib.hid h
      obtain ⟨n, hx⟩ : ∃ n, xs.length = n := ⟨_, rfl⟩
      obtain ⟨ln, hln⟩ : ∃ ln, l.length = ln := ⟨_, rfl⟩
      have HX := Lib.hid hx
      rw [hx] at hn ⊢
      rw [hln] at hL hL2 ⊢
      have hL3 : (40 : Int) < (ln : Int) := by omega
      clear hx hln h hl ha hm hL2
      have B0 : ∀ o1 o2, Below w.heap.size w ((w.alloc o1).alloc o2) := fun o1 o2 => ((Below.refl _ _).alloc (Nat.le_refl _) _).alloc (by simp) _
      have BH := Lib.hid B0
      clear B0
      go_enter Try.func38, Try.ntmps38
      go_wp2_with fail
      have ST := sIsMat r c a m xs _ (H.out.below (BH.out (.cells #[.int .i64 r, .int .i64 c, .slice a n m] 26) (.cells #[.int .i64 0, .int .i64 0, .slice none 0 0] 26))) (by rw [HX.out]; omega)
      rw [HX.out] at ST
      refine ST.mono ?_
      clear ST
      rintro e w1 ⟨rfl, hb⟩
      have K2 : Hid (Blk3 w1 (w.heap.size + 1) 26 (.int .i64 0) (.int .i64 0) (.slice none 0 0)) := (Blk3.at_ _ _ _ _ (by simp)).keep hb (by simp)
      have B : Hid (Below w.heap.size w w1) := (BH.out _ _).trans (hb.mono (by simp <;> omega))
      clear hb
      obtain ⟨cc0, cc1, cc2, ff0, ff1, ff2⟩ := K2.out.all
      rw [M.out]
      go_wp2_with fail
      obtain ⟨E0, E1, E2, -, -, -⟩ := (K2.out.set3 (.int .i64 0) (.int .i64 0) (.slice none 0 0)).all
      rw [E.out]
      exact bodyPost_ret (v := .tuple #[.agg #[.int .i64 0, .int .i64 0, .slice none 0 0], .bool false]) (by simp [results, Try.results38, go_sem, E0, E1, E2]) rfl ⟨_, rfl, .inl ⟨rfl, rfl⟩, ((B.out.setCell (by show w.heap.size ≤ w.heap.size + 1; omega) _).setCell (by show w.heap.size ≤ w.heap.size + 1; omega) _).setCell (by show w.heap.size ≤ w.heap.size + 1; omega) _⟩
  · have E : Hid (opsR r c xs l = MR.no) := by show opsR r c xs l = _; unfold opsR; rw [if_neg (fun h => absurd h.1 (by rw [hm]; decide))]
    have M := Lib.hid hm
    have H := Lib.hid h
    obtain ⟨n, hx⟩ : ∃ n, xs.length = n := ⟨_, rfl⟩
    obtain ⟨ln, hln⟩ : ∃ ln, l.length = ln := ⟨_, rfl⟩
    have HX := Lib.hid hx
    rw [hx] at hn ⊢
    rw [hln] at hL ⊢
    clear hx hln h hl ha hm
    have B0 : ∀ o1 o2, Below w.heap.size w ((w.alloc o1).alloc o2) := fun o1 o2 => ((Below.refl _ _).alloc (Nat.le_refl _) _).alloc (by simp) _
    have BH := Lib.hid B0
    clear B0
    go_enter Try.func38, Try.ntmps38
    go_wp2_with fail
    have ST := sIsMat r c a m xs _ (H.out.below (BH.out (.cells #[.int .i64 r, .int .i64 c, .slice a n m] 26) (.cells #[.int .i64 0, .int .i64 0, .slice none 0 0] 26))) (by rw [HX.out]; omega)
    rw [HX.out] at ST
    refine ST.mono ?_
    clear ST
    rintro e w1 ⟨rfl, hb⟩
    have K2 : Hid (Blk3 w1 (w.heap.size + 1) 26 (.int .i64 0) (.int .i64 0) (.slice none 0 0)) := (Blk3.at_ _ _ _ _ (by simp)).keep hb (by simp)
    have B : Hid (Below w.heap.size w w1) := (BH.out _ _).trans (hb.mono (by simp <;> omega))
    clear hb
    obtain ⟨cc0, cc1, cc2, ff0, ff1, ff2⟩ := K2.out.all
    rw [M.out]
    go_wp2_with fail
    obtain ⟨E0, E1, E2, -, -, -⟩ := (K2.out.set3 (.int .i64 0) (.int .i64 0) (.slice none 0 0)).all
    rw [E.out]
    exact bodyPost_ret (v := .tuple #[.agg #[.int .i64 0, .int .i64 0, .slice none 0 0], .bool false]) (by simp [results, Try.results38, go_sem, E0, E1, E2]) rfl ⟨_, rfl, .inl ⟨rfl, rfl⟩, ((B.out.setCell (by show w.heap.size ≤ w.heap.size + 1; omega) _).setCell (by show w.heap.size ≤ w.heap.size + 1; omega) _).setCell (by show w.heap.size ≤ w.heap.size + 1; omega) _⟩
end Go.Proofs.Ytiggioccmlbhhaa
