/-
  Texts of this seat, joined: ZADoG · ZASmT · ZASmU · ZASmV · ZAFoldM · ZAMatI7 · ZAMatI8 · ZATsM · ZARgT · ZARgP · ZATsD · ZAHmS · ZAHmT
-/
import Derived.Deep.RegionHeld3
import Derived.Deep.DeepCutAuto
import Derived.StillTailTactics
import Derived.IntWalk
import Derived.Test.YtpelnfenfeoeeaaProg
import Derived.OrdersHeld
import Derived.RegionTactic
import Derived.Deep.RegionHeld
import Derived.BigQuiet
import Derived.Deep.QuietTactic
import Derived.Test.YtpelnfenfeoeeaaPk25
import Derived.Test.YtpelnfenfeoeeaaPk26
import Derived.Test.YtpelnfenfeoeeaaPk27

section
/-
  Chapters 12 and 13, in the program: one row operation done to two matrices, each behind a pointer to anywhere.
-/
namespace Go.Proofs.Ytpelnfenfeoeeaa
set_option maxRecDepth 100000
open Go.RowKit
structure P3 (w : World) (b o : Nat) (x y v : Value) : Prop where
  lt : b < w.heap.size
  c0 : w.cell? ⟨b, o, none⟩ = some x
  c1 : w.cell? ⟨b, o + 1, none⟩ = some y
  c2 : w.cell? ⟨b, o + 2, none⟩ = some v
  f0 : w.frozen? ⟨b, o, none⟩ = false
  f1 : w.frozen? ⟨b, o + 1, none⟩ = false
  f2 : w.frozen? ⟨b, o + 2, none⟩ = false
theorem P3.keep {w w' : World} {b o : Nat} {x y v : Value} (h : P3 w b o x y v) (hb : Below w.heap.size w w') : P3 w' b o x y v :=
  ⟨Nat.lt_of_lt_of_le h.lt hb.size, (hb.cell (p := ⟨b, o, none⟩) h.lt).trans h.c0, (hb.cell (p := ⟨b, o + 1, none⟩) h.lt).trans h.c1, (hb.cell (p := ⟨b, o + 2, none⟩) h.lt).trans h.c2, (hb.frozen (p := ⟨b, o, none⟩) h.lt).trans h.f0, (hb.frozen (p := ⟨b, o + 1, none⟩) h.lt).trans h.f1, (hb.frozen (p := ⟨b, o + 2, none⟩) h.lt).trans h.f2⟩
theorem Blk3.p3 {w : World} {b : Nat} {t : TypeId} {x y v : Value} (h : Blk3 w b t x y v) : P3 w b 0 x y v := ⟨h.lt, h.cell0, h.cell1, h.cell2, h.free _, h.free _, h.free _⟩
def put3 (w : World) (b o : Nat) (x y v : Value) : World := ((w.setCell ⟨b, o, none⟩ x).setCell ⟨b, o + 1, none⟩ y).setCell ⟨b, o + 2, none⟩ v
structure DoM (bf vf ba va : Nat) (k : Int) (I J : Nat) (z : Int) (w : World) (wq : World) : Prop where
  op : Blk4 wq (w.heap.size + 1) 97 (.int .i64 k) (.int .i64 I) (.int .i64 J) (.int .i64 z)
  pt : Blk2 wq (w.heap.size + 1 + 1) 91 (.pointer (some ⟨bf, vf, none⟩)) (.pointer (some ⟨ba, va, none⟩))
  fr : FrS (fun b => b = bf ∨ b = ba) w wq
theorem Blk4.farA {w : World} {b : Nat} {t : TypeId} {p q r s : Value} (h : Blk4 w b t p q r s) {a : Addr} (ha : b ≠ a.block) (u : Value) : Blk4 (w.setCell a u) b t p q r s := (Below.heap_setCell w a u b ha).trans h
theorem DoM.start (bf vf ba va : Nat) (k : Int) (I J : Nat) (z : Int) (w : World) : DoM bf vf ba va k I J z w (((w.alloc (.cells #[.pointer (some ⟨bf, vf, none⟩), .pointer (some ⟨ba, va, none⟩)] 93)).alloc (.cells #[.int .i64 k, .int .i64 I, .int .i64 J, .int .i64 z] 97)).alloc (.cells #[.pointer (some ⟨bf, vf, none⟩), .pointer (some ⟨ba, va, none⟩)] 91)) :=
  ⟨(Blk4.at_ _ _ _ _ _ (by simp)).old _, Blk2.at_ _ _ _ (by simp), (((FrS.refl _ _).alloc _).alloc _).alloc _⟩
theorem DoM.put {bf vf ba va : Nat} {k : Int} {I J : Nat} {z : Int} {w wr we : World} (h : DoM bf vf ba va k I J z w wr) (hb : Below wr.heap.size wr we) {bx ox : Nat} (hx : bx = bf ∨ bx = ba) (l1 : bf < w.heap.size) (l2 : ba < w.heap.size) (x y v : Value) :
    DoM bf vf ba va k I J z w (put3 we bx ox x y v) := by
  have n1 : w.heap.size + 1 ≠ bx := by omega
  have n2 : w.heap.size + 1 + 1 ≠ bx := by omega
  have hf : FrS (fun b => b = bf ∨ b = ba) w we := h.fr.trans (FrS.of_below hb)
  exact ⟨Blk4.farA (a := ⟨bx, ox + 2, none⟩) (Blk4.farA (a := ⟨bx, ox + 1, none⟩) (Blk4.farA (a := ⟨bx, ox, none⟩) (h.op.keep hb h.op.lt) n1 _) n1 _) n1 _, (((h.pt.keep hb h.pt.lt).far (a := ⟨bx, ox, none⟩) n2 _).far (a := ⟨bx, ox + 1, none⟩) n2 _).far (a := ⟨bx, ox + 2, none⟩) n2 _, ((hf.set (a := ⟨bx, ox, none⟩) (.inl hx) _).set (a := ⟨bx, ox + 1, none⟩) (.inl hx) _).set (a := ⟨bx, ox + 2, none⟩) (.inl hx) _⟩
theorem doF {W w' : World} {b o c : Nat} {t2 : TypeId} {x y v p q r s : Value} (h : P3 W b o x y v) (h' : Blk4 W c t2 p q r s) (hb : Below W.heap.size W w') :
    w'.cell? ⟨b, o, none⟩ = some x ∧ w'.cell? ⟨b, o + 1, none⟩ = some y ∧ w'.cell? ⟨b, o + 2, none⟩ = some v ∧ w'.cell? ⟨c, 0, none⟩ = some p ∧ w'.cell? ⟨c, 1, none⟩ = some q ∧ w'.cell? ⟨c, 2, none⟩ = some r ∧ w'.cell? ⟨c, 3, none⟩ = some s := by
  have h := h.keep hb
  obtain ⟨b1, b2, b3, b4⟩ := (h'.keep hb h'.lt).all
  exact ⟨h.c0, h.c1, h.c2, b1, b2, b3, b4⟩
structure DoAtG (R bf vf ba va : Nat) (k : Int) (I J : Nat) (z : Int) (ST : Nat → World → Prop) (g : Nat → Bool) (i : Nat) (w : World) (bx ox cx nx : Nat) (qx : Option Addr) (mx : Nat) (xs zs : List Int) : Prop where
  blk : P3 w bx ox (.int .i64 R) (.int .i64 cx) (.slice qx nx mx)
  rd : Rd w qx xs
  lx : xs.length = nx
  lz : zs.length = nx
  spot : Spot qx
  op : opM k I J z R cx xs = if g i = true then ⟨true, R, cx, zs⟩ else MR.no
  eb : bx = if i = 0 then bf else ba
  eo : ox = if i = 0 then vf else va
  l6 : nx ≤ 600
  next : ∀ w1 q m, Below w.heap.size w w1 → Own w.heap.size w1 (.slice q nx m) zs → ST (i + 1) (put3 w1 bx ox (.int .i64 R) (.int .i64 cx) (.slice q nx m))
def DoResG (bf ba : Nat) (ok : Bool) (S : World → Prop) (w : World) (e : Ending) (w' : World) : Prop :=
  e = .returned (.bool ok) ∧ FrS (fun b => b = bf ∨ b = ba) w w' ∧ (ok = true → S w')
set_option maxHeartbeats 8000000 in
theorem iDoG (R bf vf ba va I J : Nat) (k z : Int) (ST : Nat → World → Prop) (g : Nat → Bool) (w : World) (h0 : ∀ w', Below w.heap.size w w' → ST 0 w') (l1 : bf < w.heap.size) (l2 : ba < w.heap.size)
    (DA : Hid (∀ i wq, i < 2 → w.heap.size ≤ wq.heap.size → ST i wq → (i = 1 → g 0 = true) → ∃ bx ox cx nx qx mx xs zs, DoAtG R bf vf ba va k I J z ST g i wq bx ox cx nx qx mx xs zs)) :
    Calls Try.prog 141 #[.agg #[.pointer (some ⟨bf, vf, none⟩), .pointer (some ⟨ba, va, none⟩)], .agg #[.int .i64 k, .int .i64 I, .int .i64 J, .int .i64 z]] w (DoResG bf ba (g 0 && g 1) (ST 2) w) := by
  have HL := Lib.hid (And.intro l1 l2)
  have OP : Hid (∀ (cx : Nat) (qx : Option Addr) (mx : Nat) (xs : List Int) w', Rd w' qx xs → xs.length ≤ 600 → Spot qx → Calls Try.prog 162 #[.agg #[.int .i64 R, .int .i64 cx, .slice qx xs.length mx], .agg #[.int .i64 k, .int .i64 I, .int .i64 J, .int .i64 z]] w' (MatRes (opM k I J z R cx xs) w')) := fun cx qx mx xs w' h1 h2 h3 => iOp k I J z R cx qx mx xs w' h1 (by omega) h3
  have D0 := Lib.hid (DoM.start bf vf ba va k I J z w)
  have W0 : Hid (ST 0 (((w.alloc (.cells #[.pointer (some ⟨bf, vf, none⟩), .pointer (some ⟨ba, va, none⟩)] 93)).alloc (.cells #[.int .i64 k, .int .i64 I, .int .i64 J, .int .i64 z] 97)).alloc (.cells #[.pointer (some ⟨bf, vf, none⟩), .pointer (some ⟨ba, va, none⟩)] 91))) := Lib.hid (h0 _ ((((Below.refl _ _).alloc (Nat.le_refl _) _).alloc (by simp) _).alloc (by simp <;> omega) _))
  have GD : Hid (∀ i, i < 2 → (i = 1 → g 0 = true) → g i = false → (g 0 && g 1) = false) := fun i hi h1 h2 => by
    rcases i with _ | _ | i
    · rw [h2]; rfl
    · rw [h2, Bool.and_false]
    · omega
  have RES : Hid (∀ e w', e = .returned (.bool (g 0 && g 1)) ∧ FrS (fun b => b = bf ∨ b = ba) w w' ∧ ((g 0 && g 1) = true → ST 2 w') → DoResG bf ba (g 0 && g 1) (ST 2) w e w') := fun e w' h9 => h9
  clear h0 l1 l2
  go_enter Try.func141, Try.ntmps141
  go_upto_region 2 with fail
  generalize ((w.alloc (.cells #[.pointer (some ⟨bf, vf, none⟩), .pointer (some ⟨ba, va, none⟩)] 93)).alloc (.cells #[.int .i64 k, .int .i64 I, .int .i64 J, .int .i64 z] 97)).alloc (.cells #[.pointer (some ⟨bf, vf, none⟩), .pointer (some ⟨ba, va, none⟩)] 91) = W3 at D0 W0 ⊢
  go_loopw [4, 6, 7, 8, 15] (fun _ _ _ _ v15 wq => ∃ i : Nat, v15 = .int .i64 i ∧ i ≤ 2 ∧ (1 ≤ i → g 0 = true) ∧ (2 ≤ i → g 1 = true) ∧ ST i wq ∧ DoM bf vf ba va k I J z w wq) (fun _ _ _ _ v15 _ => 2 - (intOf v15).toNat)
  case atStart => exact ⟨0, rfl, by omega, fun h => by omega, fun h => by omega, W0.out, D0.out⟩
  case round =>
    clear W0 D0
    obtain ⟨i, rfl, hi, hg0, hg1, hw, hd⟩ := hrel
    have WS := Lib.hid hw
    have DM := Lib.hid hd
    have H0 := Lib.hid hg0
    have H1 := Lib.hid hg1
    clear hw hd hg0 hg1
    by_cases hi2 : i < 2
    rotate_left
    · obtain rfl : i = 2 := by omega
      have V : Hid ((g 0 && g 1) = true) := by refine Lib.hid ?_; rw [H0.out (by omega), H1.out (by omega)]; rfl
      have WE := WS.out
      have FE := DM.out.fr
      clear hi2 hi
      go_wp2_with fail
      go_ret
      exact RES.out _ _ ⟨by rw [V.out]; rfl, FE, fun _ => WE⟩
    have HI := Lib.hid hi2
    obtain ⟨bx, ox, cx, nx, qx, mx, xs, zs, hD⟩ := DA.out i wr hi2 DM.out.fr.size WS.out (fun h => H0.out (by omega))
    have D := Lib.hid hD
    have KX := Lib.hid hD.blk
    have KO := Lib.hid DM.out.op
    have hbx : Hid (bx = bf ∨ bx = ba) := by
      refine Lib.hid ?_
      rw [hD.eb]
      split
      · exact .inl rfl
      · exact .inr rfl
    have PC : wr.cell? ⟨w.heap.size + 1 + 1, i, none⟩ = some (.pointer (some ⟨bx, ox, none⟩)) := by
      have e := hD.eb
      have e2 := hD.eo
      rcases i with _ | _ | i
      · rw [e, e2]; exact DM.out.pt.cell0
      · rw [e, e2]; exact DM.out.pt.cell1
      · omega
    have OX : Hid (∀ w', Below wr.heap.size wr w' → Calls Try.prog 162 #[.agg #[.int .i64 R, .int .i64 cx, .slice qx nx mx], .agg #[.int .i64 k, .int .i64 I, .int .i64 J, .int .i64 z]] w' (MatRes (opM k I J z R cx xs) w')) := fun w' hb => by
      have := OP.out cx qx mx xs w' (D.out.rd.below hb) (by rw [D.out.lx]; exact D.out.l6) D.out.spot
      rw [D.out.lx] at this
      exact this
    obtain ⟨mr, hmr⟩ : ∃ mr, opM k I J z R cx xs = mr := ⟨_, rfl⟩
    rw [hmr] at OX
    have MR : Hid (mr = if g i = true then ⟨true, R, cx, zs⟩ else MR.no) := by refine Lib.hid ?_; rw [← hmr]; exact D.out.op
    have Pa : (0 : Int) ≤ (i : Int) := by omega
    have Pb : (i : Int) < 2 := by omega
    have S1 : ∀ n : Nat, (⟨bx, ox, none⟩ : Addr).add (n + 1) = ⟨bx, ox + (n + 1), none⟩ := fun n => by simp [Addr.add]
    clear hmr hD WS DA OP
    go_upto_region 4 with fail
    clear PC Pa Pb
    refine wp_region_held_drew (S := fun w' => Below wr.heap.size wr w') (by kernel_rfl) (Below.refl _ _).drew (fun hH => ?_)
    refine wpAnyH_take (i := 0) (v := ?_) (by simp only [List.getElem?_toArray, List.getElem?_cons_zero]; rfl) (by kernel_rfl) (by kernel_rfl) (by kernel_rfl) (by exact fun _ _ _ h => h) (Or.inl ⟨by rfl, ?_⟩) hH ?_
    rotate_left
    · (intro wS hS; (try dsimp only at hS); obtain ⟨k1, k2, k3, k4, k5, k6, k7⟩ := doF KX.out KO.out hS; go_simp; try rfl)
    try simp only [Act.put, List.setIfInBounds_toArray, List.set_cons_zero, List.set_cons_succ]
    refine wpAnyH_take (i := 1) (v := ?_) (by simp only [List.getElem?_toArray, List.getElem?_cons_succ, List.getElem?_cons_zero]; rfl) (by kernel_rfl) (by kernel_rfl) (by kernel_rfl) (by exact fun _ _ _ h => h) (Or.inl ⟨by rfl, ?_⟩) hH ?_
    rotate_left
    · (intro wS hS; (try dsimp only at hS); obtain ⟨k1, k2, k3, k4, k5, k6, k7⟩ := doF KX.out KO.out hS; go_simp; try rfl)
    try simp only [Act.put, List.setIfInBounds_toArray, List.set_cons_zero, List.set_cons_succ]
    refine wpAnyH_take (i := 2) (v := ?_) (by simp only [List.getElem?_toArray, List.getElem?_cons_succ, List.getElem?_cons_zero]; rfl) (by kernel_rfl) (by kernel_rfl) (by kernel_rfl) (by exact fun _ _ _ h => h) (Or.inl ⟨by rfl, ?_⟩) hH ?_
    rotate_left
    · (intro wS hS; (try dsimp only at hS); obtain ⟨k1, k2, k3, k4, k5, k6, k7⟩ := doF KX.out KO.out hS; go_simp; try rfl)
    try simp only [Act.put, List.setIfInBounds_toArray, List.set_cons_zero, List.set_cons_succ]
    refine wpAnyH_take (i := 3) (v := ?_) (by simp only [List.getElem?_toArray, List.getElem?_cons_succ, List.getElem?_cons_zero]; rfl) (by kernel_rfl) (by kernel_rfl) (by kernel_rfl) (by exact fun _ _ _ h => h) (Or.inl ⟨by rfl, ?_⟩) hH ?_
    rotate_left
    · (intro wS hS; (try dsimp only at hS); obtain ⟨k1, k2, k3, k4, k5, k6, k7⟩ := doF KX.out KO.out hS; go_simp; try rfl)
    try simp only [Act.put, List.setIfInBounds_toArray, List.set_cons_zero, List.set_cons_succ]
    refine wpAnyH_ready (rs := [4, 8]) (by kernel_rfl) (by simp) ?_
    refine AllReadyH.cons (by simp only [List.getElem?_toArray, List.getElem?_cons_succ, List.getElem?_cons_zero]; rfl) (fun K hK => ?_) (AllReadyH.cons (by simp only [List.getElem?_toArray, List.getElem?_cons_succ, List.getElem?_cons_zero]; rfl) (fun K hK => ?_) AllReadyH.nil)
    · go_simp
      have hs1 := hH.size
      (with_reducible refine (OX.out _ hH).mono ?_)
      rintro e v1 ⟨v, rfl, ho1, hb1⟩
      replace ho1 := ho1.le hs1
      obtain ⟨q2, qc2, rfl, -, -⟩ := ho1.form
      try dsimp only
      refine hK.out _ _ ?_ (fun hH2 => ?_)
      · exact hH.trans (hb1.mono hH.size)
      clear hK K
      have hO := hH
      clear hH
      have hH := hH2
      clear hH2
      try simp only [Act.put, List.setIfInBounds_toArray, List.set_cons_zero, List.set_cons_succ]
      have z1 := hb1.size
      refine wpAnyH_take (i := 5) (v := ?_) (by simp only [List.getElem?_toArray, List.getElem?_cons_succ, List.getElem?_cons_zero]; rfl) (by kernel_rfl) (by kernel_rfl) (by kernel_rfl) (by exact fun _ _ _ h => h) (Or.inl ⟨by rfl, ?_⟩) hH ?_
      rotate_left
      · (intro wS hS; clear hS; go_simp; try rfl)
      try simp only [Act.put, List.setIfInBounds_toArray, List.set_cons_zero, List.set_cons_succ]
      refine wpAnyH_take (i := 6) (v := ?_) (by simp only [List.getElem?_toArray, List.getElem?_cons_succ, List.getElem?_cons_zero]; rfl) (by kernel_rfl) (by kernel_rfl) (by kernel_rfl) (by exact fun _ _ _ h => h) (Or.inl ⟨by rfl, ?_⟩) hH ?_
      rotate_left
      · (intro wS hS; clear hS; go_simp; try rfl)
      try simp only [Act.put, List.setIfInBounds_toArray, List.set_cons_zero, List.set_cons_succ]
      refine wpAnyH_take (i := 7) (v := ?_) (by simp only [List.getElem?_toArray, List.getElem?_cons_succ, List.getElem?_cons_zero]; rfl) (by kernel_rfl) (by kernel_rfl) (by kernel_rfl) (by exact fun _ _ _ h => h) (Or.inl ⟨by rfl, ?_⟩) hH ?_
      rotate_left
      · (intro wS hS; clear hS; go_simp; try rfl)
      try simp only [Act.put, List.setIfInBounds_toArray, List.set_cons_zero, List.set_cons_succ]
      refine wpAnyH_ready (rs := [8]) (by kernel_rfl) (by simp) ?_
      refine AllReadyH.cons (by simp only [List.getElem?_toArray, List.getElem?_cons_succ, List.getElem?_cons_zero]; rfl) (fun K hK => ?_) AllReadyH.nil
      go_simp
      have VB : Hid (Blk3 (v1.alloc (.cells #[.int .i64 0, .int .i64 0, .slice none 0 0] 26)) v1.heap.size 26 (.int .i64 0) (.int .i64 0) (.slice none 0 0)) := Blk3.at_ _ _ _ _ rfl
      have PL : wr.heap.size ≤ v1.heap.size := hH.size
      try dsimp only
      refine hK.out _ _ ?_ (fun hH2 => ?_)
      · exact hH.alloc hH.size _
      clear hK K
      have hO := hH
      clear hH
      have hH := hH2
      clear hH2
      try simp only [Act.put, List.setIfInBounds_toArray, List.set_cons_zero, List.set_cons_succ]
      refine wpAnyH_ready (rs := [9]) (by kernel_rfl) (by simp) ?_
      refine AllReadyH.cons (by simp only [List.getElem?_toArray, List.getElem?_cons_succ, List.getElem?_cons_zero]; rfl) (fun K hK => ?_) AllReadyH.nil
      go_simp
      have VB : Hid (Blk3 (v1.alloc (.cells #[.int .i64 mr.r, .int .i64 mr.c, .slice q2 mr.zs.length qc2] 26)) v1.heap.size 26 (.int .i64 mr.r) (.int .i64 mr.c) (.slice q2 mr.zs.length qc2)) := Blk3.at_ _ _ _ _ rfl
      try dsimp only
      refine hK.out _ _ ?_ (fun hH2 => ?_)
      · exact hO.alloc hO.size _
      clear hK K
      have hO := hH
      clear hH
      have hH := hH2
      clear hH2
      try simp only [Act.put, List.setIfInBounds_toArray, List.set_cons_zero, List.set_cons_succ]
      refine wpAnyH_take (i := 10) (v := ?_) (by simp only [List.getElem?_toArray, List.getElem?_cons_succ, List.getElem?_cons_zero]; rfl) (by kernel_rfl) (by kernel_rfl) (by kernel_rfl) (by exact fun _ _ _ h => h) (Or.inl ⟨by rfl, ?_⟩) hH ?_
      rotate_left
      · (intro wS hS; clear hS; go_simp; try rfl)
      try simp only [Act.put, List.setIfInBounds_toArray, List.set_cons_zero, List.set_cons_succ]
      refine wpAnyH_done (by kernel_rfl) ?_ _
      have O2 := ho1.keep ((Below.refl _ _).alloc (Nat.le_refl _) (.cells #[.int .i64 mr.r, .int .i64 mr.c, .slice q2 mr.zs.length qc2] 26))
      obtain ⟨we, hwe⟩ : ∃ we, v1.alloc (.cells #[.int .i64 mr.r, .int .i64 mr.c, .slice q2 mr.zs.length qc2] 26) = we := ⟨_, rfl⟩
      rw [hwe] at hH VB O2 ⊢
      clear hwe
      obtain ⟨fx, hfx⟩ : ∃ fx, g i = fx := ⟨_, rfl⟩
      rw [hfx] at MR
      have HF := Lib.hid hfx
      clear hfx
      cases fx with
      | true =>
        have e := MR.out
        rw [if_pos rfl] at e
        subst e
        have KE := Lib.hid (KX.out.keep hH)
        obtain ⟨y0, y1, y2, -, -, -⟩ := VB.out.all
        obtain ⟨xlt, x0, x1, x2, xf0, xf1, xf2⟩ := KE.out
        have O2 := Lib.hid O2
        have HE := Lib.hid hH
        clear hH
        go_wp2_with fail
        go_roundw
        case rel =>
          refine ⟨i + 1, by go_num, by omega, fun h => ?_, fun h => ?_, ?_, DM.out.put HE.out hbx.out HL.out.1 HL.out.2 _ _ _⟩
          · rcases Nat.eq_zero_or_pos i with h0 | h0
            · rw [← h0]; exact HF.out
            · exact H0.out h0
          · obtain rfl : i = 1 := by have := HI.out; omega
            exact HF.out
          · have O3 := O2.out
            have lz : zs.length = nx := D.out.lz
            dsimp only at O3 ⊢
            rw [lz] at O3 ⊢
            exact D.out.next we q2 qc2 HE.out O3
        case measure => simp [intOf]; omega
      | false =>
        have e := MR.out
        rw [if_neg (by decide)] at e
        subst e
        have V := Lib.hid (GD.out i HI.out (fun h => H0.out (by omega)) HF.out)
        have FE := Lib.hid (DM.out.fr.trans (FrS.of_below hH))
        clear hH O2
        go_wp2_with fail
        go_ret
        exact RES.out _ _ ⟨by rw [V.out]; rfl, FE.out, fun h9 => by rw [V.out] at h9; cases h9⟩
    · go_simp
      have VB : Hid (Blk3 (wr.drew.alloc (.cells #[.int .i64 0, .int .i64 0, .slice none 0 0] 26)) wr.heap.size 26 (.int .i64 0) (.int .i64 0) (.slice none 0 0)) := Blk3.at_ _ _ _ _ rfl
      have PL : wr.heap.size ≤ wr.drew.heap.size := hH.size
      try dsimp only
      refine hK.out _ _ ?_ (fun hH2 => ?_)
      · exact hH.alloc hH.size _
      clear hK K
      have hO := hH
      clear hH
      have hH := hH2
      clear hH2
      try simp only [Act.put, List.setIfInBounds_toArray, List.set_cons_zero, List.set_cons_succ]
      refine wpAnyH_ready (rs := [4]) (by kernel_rfl) (by simp) ?_
      refine AllReadyH.cons (by simp only [List.getElem?_toArray, List.getElem?_cons_succ, List.getElem?_cons_zero]; rfl) (fun K hK => ?_) AllReadyH.nil
      go_simp
      have hs1 := hH.size
      have lb1 := VB.out.lt
      (with_reducible refine (OX.out _ hH).mono ?_)
      rintro e v1 ⟨v, rfl, ho1, hb1⟩
      replace ho1 := ho1.le hs1
      obtain ⟨q2, qc2, rfl, -, -⟩ := ho1.form
      have VB := Lib.hid (VB.out.keep hb1 VB.out.lt)
      try dsimp only
      refine hK.out _ _ ?_ (fun hH2 => ?_)
      · exact hH.trans (hb1.mono hH.size)
      clear hK K
      have hO := hH
      clear hH
      have hH := hH2
      clear hH2
      try simp only [Act.put, List.setIfInBounds_toArray, List.set_cons_zero, List.set_cons_succ]
      have z1 := hb1.size
      refine wpAnyH_take (i := 5) (v := ?_) (by simp only [List.getElem?_toArray, List.getElem?_cons_succ, List.getElem?_cons_zero]; rfl) (by kernel_rfl) (by kernel_rfl) (by kernel_rfl) (by exact fun _ _ _ h => h) (Or.inl ⟨by rfl, ?_⟩) hH ?_
      rotate_left
      · (intro wS hS; clear hS; go_simp; try rfl)
      try simp only [Act.put, List.setIfInBounds_toArray, List.set_cons_zero, List.set_cons_succ]
      refine wpAnyH_take (i := 6) (v := ?_) (by simp only [List.getElem?_toArray, List.getElem?_cons_succ, List.getElem?_cons_zero]; rfl) (by kernel_rfl) (by kernel_rfl) (by kernel_rfl) (by exact fun _ _ _ h => h) (Or.inl ⟨by rfl, ?_⟩) hH ?_
      rotate_left
      · (intro wS hS; clear hS; go_simp; try rfl)
      try simp only [Act.put, List.setIfInBounds_toArray, List.set_cons_zero, List.set_cons_succ]
      refine wpAnyH_take (i := 7) (v := ?_) (by simp only [List.getElem?_toArray, List.getElem?_cons_succ, List.getElem?_cons_zero]; rfl) (by kernel_rfl) (by kernel_rfl) (by kernel_rfl) (by exact fun _ _ _ h => h) (Or.inl ⟨by rfl, ?_⟩) hH ?_
      rotate_left
      · (intro wS hS; clear hS; go_simp; try rfl)
      try simp only [Act.put, List.setIfInBounds_toArray, List.set_cons_zero, List.set_cons_succ]
      refine wpAnyH_ready (rs := [9]) (by kernel_rfl) (by simp) ?_
      refine AllReadyH.cons (by simp only [List.getElem?_toArray, List.getElem?_cons_succ, List.getElem?_cons_zero]; rfl) (fun K hK => ?_) AllReadyH.nil
      have VC := VB
      obtain ⟨y0, y1, y2, y3, y4, y5⟩ := VB.out.all
      go_simp
      have VB := Lib.hid (((VB.out.set0 (.int .i64 mr.r)).set1 (.int .i64 mr.c)).set2 (.slice q2 mr.zs.length qc2))
      try dsimp only
      refine hK.out _ _ ?_ (fun hH2 => ?_)
      · exact (((hH.setCell PL _).setCell PL _).setCell PL _)
      clear hK K
      have hO := hH
      clear hH
      have hH := hH2
      clear hH2
      try simp only [Act.put, List.setIfInBounds_toArray, List.set_cons_zero, List.set_cons_succ]
      refine wpAnyH_take (i := 10) (v := ?_) (by simp only [List.getElem?_toArray, List.getElem?_cons_succ, List.getElem?_cons_zero]; rfl) (by kernel_rfl) (by kernel_rfl) (by kernel_rfl) (by exact fun _ _ _ h => h) (Or.inl ⟨by rfl, ?_⟩) hH ?_
      rotate_left
      · (intro wS hS; clear hS; go_simp; try rfl)
      try simp only [Act.put, List.setIfInBounds_toArray, List.set_cons_zero, List.set_cons_succ]
      refine wpAnyH_done (by kernel_rfl) ?_ _
      have O2 := ho1.setA (b := wr.heap.size) (ho1.ne_box VC.out) (.int .i64 mr.r) (.int .i64 mr.c) (.slice q2 mr.zs.length qc2)
      obtain ⟨we, hwe⟩ : ∃ we, ((v1.setCell ⟨wr.heap.size, 0, none⟩ (.int .i64 mr.r)).setCell ⟨wr.heap.size, 1, none⟩ (.int .i64 mr.c)).setCell ⟨wr.heap.size, 2, none⟩ (.slice q2 mr.zs.length qc2) = we := ⟨_, rfl⟩
      rw [hwe] at hH VB O2 ⊢
      clear hwe
      obtain ⟨fx, hfx⟩ : ∃ fx, g i = fx := ⟨_, rfl⟩
      rw [hfx] at MR
      have HF := Lib.hid hfx
      clear hfx
      cases fx with
      | true =>
        have e := MR.out
        rw [if_pos rfl] at e
        subst e
        have KE := Lib.hid (KX.out.keep hH)
        obtain ⟨y0, y1, y2, -, -, -⟩ := VB.out.all
        obtain ⟨xlt, x0, x1, x2, xf0, xf1, xf2⟩ := KE.out
        have O2 := Lib.hid O2
        have HE := Lib.hid hH
        clear hH
        go_wp2_with fail
        go_roundw
        case rel =>
          refine ⟨i + 1, by go_num, by omega, fun h => ?_, fun h => ?_, ?_, DM.out.put HE.out hbx.out HL.out.1 HL.out.2 _ _ _⟩
          · rcases Nat.eq_zero_or_pos i with h0 | h0
            · rw [← h0]; exact HF.out
            · exact H0.out h0
          · obtain rfl : i = 1 := by have := HI.out; omega
            exact HF.out
          · have O3 := O2.out
            have lz : zs.length = nx := D.out.lz
            dsimp only at O3 ⊢
            rw [lz] at O3 ⊢
            exact D.out.next we q2 qc2 HE.out O3
        case measure => simp [intOf]; omega
      | false =>
        have e := MR.out
        rw [if_neg (by decide)] at e
        subst e
        have V := Lib.hid (GD.out i HI.out (fun h => H0.out (by omega)) HF.out)
        have FE := Lib.hid (DM.out.fr.trans (FrS.of_below hH))
        clear hH O2
        go_wp2_with fail
        go_ret
        exact RES.out _ _ ⟨by rw [V.out]; rfl, FE.out, fun h9 => by rw [V.out] at h9; cases h9⟩
end Go.Proofs.Ytpelnfenfeoeeaa
end

section
/-
  Plain mathematics of chapter 13: operations on columns as they are done row by row. Nothing of a program is used.
-/
namespace Go.Proofs.Ytpelnfenfeoeeaa
theorem placeD {xs : List Int} {p q : Nat} {v : Int} (hq : q < xs.length) : (xs.set q v).getD p 0 = if p = q then v else xs.getD p 0 := by
  simp only [List.getD, List.getElem?_set]
  by_cases h : q = p
  · subst h
    rw [if_pos rfl, if_pos rfl, if_pos hq]
    rfl
  · rw [if_neg h, if_neg (fun e => h e.symm)]
theorem place_div {i b C : Nat} (hb : b < C) : (i * C + b) / C = i ∧ (i * C + b) % C = b := by
  have hC : 0 < C := by omega
  refine ⟨?_, ?_⟩
  · rw [Nat.mul_comm, Nat.mul_add_div hC, Nat.div_eq_of_lt hb, Nat.add_zero]
  · rw [Nat.mul_comm, Nat.mul_add_mod, Nat.mod_eq_of_lt hb]
theorem place_split {p C : Nat} : p = p / C * C + p % C := by
  have := Nat.div_add_mod p C
  rw [Nat.mul_comm] at this
  exact this.symm
variable {k : Int} {I J : Nat} {z : Int} {C : Nat} {xs : List Int} {i b : Nat}
theorem clTo_at (hb : b < C) (hl : i * C + b < xs.length) : (clTo k I J z C xs i).getD (i * C + b) 0 = xs.getD (i * C + b) 0 := by
  rw [clTo_getD hl, (place_div hb).1, if_neg (Nat.lt_irrefl i)]
theorem clTo_add (hI : I < C) (hl : i * C + I < xs.length) : (clTo 2 I J z C xs i).set (i * C + I) (addB (xs.getD (i * C + I) 0) (mulB (xs.getD (i * C + J) 0) z)) = clTo 2 I J z C xs (i + 1) := by
  refine list_getD (by rw [List.length_set, clTo_length, clTo_length]) fun p hp => ?_
  rw [List.length_set, clTo_length] at hp
  rw [placeD (by rw [clTo_length]; exact hl), clTo_getD hp, clTo_getD hp]
  by_cases e : p = i * C + I
  · rw [if_pos e, if_pos (by rw [e, (place_div hI).1]; omega)]
    unfold colAt
    rw [if_neg (by decide), e, (place_div hI).1, (place_div hI).2, if_pos rfl]
  · rw [if_neg e]
    by_cases h : p / C < i
    · rw [if_pos h, if_pos (by omega)]
    · rw [if_neg h]
      by_cases h2 : p / C < i + 1
      · rw [if_pos h2]
        have h3 : p / C = i := by omega
        unfold colAt
        rw [if_neg (by decide), if_neg]
        intro h4
        apply e
        have := place_split (p := p) (C := C)
        rw [h3, h4] at this
        exact this
      · rw [if_neg h2]
theorem clTo_swap (hI : I < C) (hJ : J < C) (hne : I ≠ J) (hl : i * C + I < xs.length) (hm : i * C + J < xs.length) : ((clTo 0 I J z C xs i).set (i * C + I) (xs.getD (i * C + J) 0)).set (i * C + J) (xs.getD (i * C + I) 0) = clTo 0 I J z C xs (i + 1) := by
  refine list_getD (by rw [List.length_set, List.length_set, clTo_length, clTo_length]) fun p hp => ?_
  rw [List.length_set, List.length_set, clTo_length] at hp
  rw [placeD (by rw [List.length_set, clTo_length]; exact hm), placeD (by rw [clTo_length]; exact hl), clTo_getD hp, clTo_getD hp]
  by_cases e : p = i * C + J
  · rw [if_pos e, if_pos (by rw [e, (place_div hJ).1]; omega)]
    unfold colAt
    rw [if_pos rfl, e, (place_div hJ).1, (place_div hJ).2, if_neg (fun h => hne h.symm), if_pos rfl]
  · rw [if_neg e]
    by_cases e2 : p = i * C + I
    · rw [if_pos e2, if_pos (by rw [e2, (place_div hI).1]; omega)]
      unfold colAt
      rw [if_pos rfl, e2, (place_div hI).1, (place_div hI).2, if_pos rfl]
    · rw [if_neg e2]
      by_cases h : p / C < i
      · rw [if_pos h, if_pos (by omega)]
      · rw [if_neg h]
        by_cases h2 : p / C < i + 1
        · rw [if_pos h2]
          have h3 : p / C = i := by omega
          have h5 := place_split (p := p) (C := C)
          rw [h3] at h5
          unfold colAt
          rw [if_pos rfl, if_neg (fun h4 => e2 (by rw [h4] at h5; exact h5)), if_neg (fun h4 => e (by rw [h4] at h5; exact h5))]
        · rw [if_neg h2]
end Go.Proofs.Ytpelnfenfeoeeaa
end

section
/-
  Plain mathematics of chapter 13: the steps as a walk meets them: the least place, what is left, what is not divided. Nothing of a program is used.
-/
namespace Go.Proofs.Ytpelnfenfeoeeaa
def plL (C t : Nat) (s : SSt) (m : Nat) : Int := leastF (plF C t s) 0 m
def plR (C t : Nat) (L : Int) : Int := if L < 0 then -1 else ((t + L.toNat / (C - t) : Nat) : Int)
def plC (C t : Nat) (L : Int) : Int := if L < 0 then -1 else ((t + L.toNat % (C - t) : Nat) : Int)
theorem plR_none (C t : Nat) : plR C t (-1) = -1 ∧ plC C t (-1) = -1 := ⟨rfl, rfl⟩
theorem plL_range (C t : Nat) (s : SSt) (m : Nat) : plL C t s m = -1 ∨ ∃ p : Nat, plL C t s m = p ∧ p < m := by
  rcases leastF_says (plF C t s) 0 m with ⟨h, -⟩ | ⟨p, h1, -, h3, -⟩
  · exact .inl h
  · exact .inr ⟨p, h1, by omega⟩
section
variable {R C t a b : Nat} {s : SSt}
theorem pl_at (hb : b < C - t) : plF C t s (a * (C - t) + b) = cel3S C s (t + a) (t + b) := by
  unfold plF
  rw [(place_div hb).1, (place_div hb).2]
theorem pl_in (ha : a < R - t) (hb : b ≤ C - t) {L : Int} (hL : plL C t s (a * (C - t) + b) = L) (h : ¬ L < 0) : ∃ i j : Nat, plR C t L = i ∧ plC C t L = j ∧ t ≤ i ∧ i < R ∧ t ≤ j ∧ j < C ∧ cel3S C s i j = plF C t s L.toNat := by
  rcases plL_range C t s (a * (C - t) + b) with h1 | ⟨p, h1, h2⟩
  · omega
  · rw [hL] at h1
    have hp : L.toNat = p := by omega
    have hW : 0 < C - t := by
      rcases Nat.eq_zero_or_pos (C - t) with e | e
      · rw [e, Nat.mul_zero] at h2; omega
      · exact e
    have hq : p < (a + 1) * (C - t) := by rw [Nat.succ_mul]; omega
    have h3 : p / (C - t) < a + 1 := Nat.div_lt_of_lt_mul (by rw [Nat.mul_comm]; exact hq)
    have h4 := Nat.mod_lt p hW
    refine ⟨t + p / (C - t), t + p % (C - t), ?_, ?_, Nat.le_add_right _ _, ?_, Nat.le_add_right _ _, by omega, ?_⟩
    · unfold plR; rw [if_neg h, hp]
    · unfold plC; rw [if_neg h, hp]
    · generalize p / (C - t) = d at h3
      omega
    · rw [hp]; rfl
theorem pl_keep (hb : b < C - t) (h : cel3S C s (t + a) (t + b) = 0 ∨ (¬ plL C t s (a * (C - t) + b) < 0 ∧ ¬ (cel3S C s (t + a) (t + b)).natAbs < (plF C t s (plL C t s (a * (C - t) + b)).toNat).natAbs)) : plL C t s (a * (C - t) + (b + 1)) = plL C t s (a * (C - t) + b) := by
  have e : plL C t s (a * (C - t) + (b + 1)) = if plF C t s (0 + (a * (C - t) + b)) ≠ 0 ∧ (leastF (plF C t s) 0 (a * (C - t) + b) < 0 ∨ (plF C t s (0 + (a * (C - t) + b))).natAbs < (plF C t s (leastF (plF C t s) 0 (a * (C - t) + b)).toNat).natAbs) then ((0 + (a * (C - t) + b) : Nat) : Int) else leastF (plF C t s) 0 (a * (C - t) + b) := rfl
  rw [e, Nat.zero_add, pl_at hb, if_neg]
  · rfl
  · rintro ⟨h1, h2⟩
    rcases h with h | ⟨h3, h4⟩
    · exact h1 h
    · rcases h2 with h2 | h2
      · exact h3 h2
      · exact h4 h2
theorem pl_new (hb : b < C - t) (h0 : cel3S C s (t + a) (t + b) ≠ 0) (h : plL C t s (a * (C - t) + b) < 0 ∨ (cel3S C s (t + a) (t + b)).natAbs < (plF C t s (plL C t s (a * (C - t) + b)).toNat).natAbs) : plL C t s (a * (C - t) + (b + 1)) = ((a * (C - t) + b : Nat) : Int) ∧ plR C t ((a * (C - t) + b : Nat) : Int) = ((t + a : Nat) : Int) ∧ plC C t ((a * (C - t) + b : Nat) : Int) = ((t + b : Nat) : Int) := by
  have e : plL C t s (a * (C - t) + (b + 1)) = if plF C t s (0 + (a * (C - t) + b)) ≠ 0 ∧ (leastF (plF C t s) 0 (a * (C - t) + b) < 0 ∨ (plF C t s (0 + (a * (C - t) + b))).natAbs < (plF C t s (leastF (plF C t s) 0 (a * (C - t) + b)).toNat).natAbs) then ((0 + (a * (C - t) + b) : Nat) : Int) else leastF (plF C t s) 0 (a * (C - t) + b) := rfl
  refine ⟨?_, ?_, ?_⟩
  · rw [e, Nat.zero_add, pl_at hb, if_pos ⟨h0, h⟩]
  · unfold plR
    rw [if_neg (by omega), Int.toNat_natCast, (place_div hb).1]
  · unfold plC
    rw [if_neg (by omega), Int.toNat_natCast, (place_div hb).2]
theorem pl_end : plS R C t s = if plL C t s ((R - t) * (C - t)) < 0 then none else some ((plR C t (plL C t s ((R - t) * (C - t)))).toNat, (plC C t (plL C t s ((R - t) * (C - t)))).toNat) := by
  show (if leastF (plF C t s) 0 ((R - t) * (C - t)) < 0 then none else _) = (if leastF (plF C t s) 0 ((R - t) * (C - t)) < 0 then none else _)
  by_cases h : leastF (plF C t s) 0 ((R - t) * (C - t)) < 0
  · rw [if_pos h, if_pos h]
  · rw [if_neg h, if_neg h]
    unfold plR plC plL
    rw [if_neg h, if_neg h]
    rfl
def clI (t : Nat) (f : Nat → Int) (n : Nat) : Prop := ∀ i, t < i → i < n → f i = 0
theorem clI_zero (t : Nat) (f : Nat → Int) : clI t f (t + 1) := fun i h1 h2 => by omega
theorem clI_step {t n : Nat} {f : Nat → Int} (ht : t < n) : clI t f (n + 1) ↔ (clI t f n ∧ f n = 0) :=
  ⟨fun h => ⟨fun i h1 h2 => h i h1 (by omega), h n ht (by omega)⟩, fun h i h1 h2 => by
    rcases Nat.lt_or_ge i n with h3 | h3
    · exact h.1 i h1 h3
    · obtain rfl : i = n := by omega
      exact h.2⟩
theorem clB_iff {u : SSt} : clB R C t u = true ↔ (clI t (fun i => cel3S C u i t) R ∧ clI t (fun j => cel3S C u t j) C) := by
  constructor
  · intro h
    exact clB_true h
  · rintro ⟨h1, h2⟩
    cases hc : clB R C t u with
    | true => rfl
    | false =>
      rcases clB_false hc with ⟨i, a1, a2, a3⟩ | ⟨j, a1, a2, a3⟩
      · exact absurd (h1 i a1 a2) a3
      · exact absurd (h2 j a1 a2) a3
theorem ndF_found {u : SSt} {k : Nat} (h1 : t < k) (h2 : k < R) {j : Nat} (h3 : t < j) (h4 : j < C) (h5 : cel3S C u k j % cel3S C u t t ≠ 0) (h6 : ∀ i, t < i → i < k → ∀ b, t < b → b < C → cel3S C u i b % cel3S C u t t = 0) : ndF R C t u = some k := by
  cases hn : ndF R C t u with
  | none =>
    have := ndF_none hn k j h1 h2 h3 h4
    exact absurd (Int.emod_eq_zero_of_dvd this) h5
  | some k' =>
    obtain ⟨a1, a2, j', a3, a4, a5⟩ := ndF_some hn
    rcases Nat.lt_trichotomy k' k with h | h | h
    · exact absurd (h6 k' a1 h j' a3 a4) a5
    · rw [h]
    · exfalso
      unfold ndF at hn
      rw [List.find?_eq_some_iff_getElem] at hn
      obtain ⟨-, i, hi, e, hlt⟩ := hn
      have hi' : i < R := by simpa using hi
      have e : i = k' := by simpa using e
      have := hlt k (by omega)
      simp only [List.getElem_range, Bool.not_eq_true', Bool.and_eq_false_iff] at this
      rcases this with h7 | h7
      · exact absurd (decide_eq_true h1) (by rw [h7]; decide)
      · rw [List.any_eq_false] at h7
        have := h7 j (List.mem_range.mpr h4)
        rw [Bool.and_eq_true, decide_eq_true_eq, decide_eq_true_eq] at this
        exact this ⟨h3, h5⟩
theorem ndF_all {u : SSt} (h : ∀ i, t < i → i < R → ∀ b, t < b → b < C → cel3S C u i b % cel3S C u t t = 0) : ndF R C t u = none := by
  cases hn : ndF R C t u with
  | none => rfl
  | some k =>
    obtain ⟨a1, a2, j, a3, a4, a5⟩ := ndF_some hn
    exact absurd (h k a1 a2 j a3 a4) a5
theorem cel_row {I J : Nat} {z : Int} {i j : Nat} (h : Siz3 R C s) (hi : i < R) (hj : j < C) (hne : i ≠ I) : cel3S C (row3 R C 2 I J z s) i j = cel3S C s i j := by
  have hp : i * C + j < s.1.length := by rw [h.l1]; exact idx_lt hi hj
  show (opL 2 I J z C s.1).getD (i * C + j) 0 = _
  rw [opL_getD hp]
  unfold opAt
  rw [if_neg (by decide), if_neg (by decide), idx_div hj, if_neg hne]
  rfl
theorem cel_col {I J : Nat} {z : Int} {i j : Nat} (h : Siz3 R C s) (hi : i < R) (hj : j < C) (hne : j ≠ I) : cel3S C (col3 C 2 I J z s) i j = cel3S C s i j := by
  have hp : i * C + j < s.1.length := by rw [h.l1]; exact idx_lt hi hj
  show (colL 2 I J z C s.1).getD (i * C + j) 0 = _
  rw [colL_getD hp]
  unfold colAt
  rw [if_neg (by decide), idx_mod hj, if_neg hne]
  rfl
theorem rowsF_keep {p : Int} (h : Siz3 R C s) : ∀ n, t + 1 + n ≤ R → ∀ i j, i < R → j < C → (i ≤ t ∨ t + 1 + n ≤ i) → cel3S C (rowsF R C t p s n) i j = cel3S C s i j
  | 0, _, _, _, _, _, _ => rfl
  | n + 1, hn, i, j, hi, hj, hc => by
    have g := rowsF_keep (p := p) h n (by omega) i j hi hj (by omega)
    show cel3S C (if _ then _ else _) i j = _
    split
    · rw [cel_row (rowsF_siz h n) hi hj (by omega)]; exact g
    · exact g
theorem colsF_keep {p : Int} (h : Siz3 R C s) : ∀ n, t + 1 + n ≤ C → ∀ i j, i < R → j < C → (j ≤ t ∨ t + 1 + n ≤ j) → cel3S C (colsF C t p s n) i j = cel3S C s i j
  | 0, _, _, _, _, _, _ => rfl
  | n + 1, hn, i, j, hi, hj, hc => by
    have g := colsF_keep (p := p) h n (by omega) i j hi hj (by omega)
    show cel3S C (if _ then _ else _) i j = _
    split
    · rw [cel_col (colsF_siz h n) hi hj (by omega)]; exact g
    · exact g
theorem rowsF_do {p : Int} {n : Nat} (h : Siz3 R C s) (hn : t + 1 + n < R) (hc : t < C) : rowsF R C t p s (n + 1) = if cel3S C s (t + 1 + n) t ≠ 0 then row3 R C 2 (t + 1 + n) t (-(cel3S C s (t + 1 + n) t / p)) (rowsF R C t p s n) else rowsF R C t p s n := by
  have g := rowsF_keep (p := p) h n (by omega) (t + 1 + n) t hn hc (.inr (Nat.le_refl _))
  show (if cel3S C (rowsF R C t p s n) (t + 1 + n) t ≠ 0 then _ else _) = _
  rw [g]
theorem colsF_do {p : Int} {n : Nat} (h : Siz3 R C s) (hn : t + 1 + n < C) (hr : t < R) : colsF C t p s (n + 1) = if cel3S C s t (t + 1 + n) ≠ 0 then col3 C 2 (t + 1 + n) t (-(cel3S C s t (t + 1 + n) / p)) (colsF C t p s n) else colsF C t p s n := by
  have g := colsF_keep (p := p) h n (by omega) t (t + 1 + n) hr hn (.inr (Nat.le_refl _))
  show (if cel3S C (colsF C t p s n) t (t + 1 + n) ≠ 0 then _ else _) = _
  rw [g]
theorem rd_pivot (h : Siz3 R C s) (hr : t < R) (hc : t < C) : cel3S C (rdF R C t s) t t = cel3S C s t t := by
  unfold rdF
  rw [colsF_keep (rowsF_siz h _) (C - t - 1) (by omega) t t hr hc (.inl (Nat.le_refl _)), rowsF_keep h (R - t - 1) (by omega) t t hr hc (.inl (Nat.le_refl _))]
def RndP (R C t : Nat) (s : SSt) (b : Bool) (s' : SSt) : Prop :=
  Siz3 R C s' ∧ (ok3 (rdF R C t s) = false → ok3 s' = false) ∧ (ok3 (rdF R C t s) = true →
    (clB R C t (rdF R C t s) = false → b = false ∧ s' = rdF R C t s) ∧ (clB R C t (rdF R C t s) = true → (ndF R C t (rdF R C t s) = none → b = true ∧ s' = rdF R C t s) ∧ ∀ k, ndF R C t (rdF R C t s) = some k → b = false ∧ s' = row3 R C 2 t k 1 (rdF R C t s)))
theorem loopS_bad {i j f : Nat} (hp : plS R C t s = some (i, j)) (ho : ok3 (rdF R C t (sw3 R C t i j s)) = false) : loopS R C t (f + 1) s = none := by
  show (match plS R C t s with | none => some (s, false) | some (i, j) => _) = _
  rw [hp]
  show (if _ then _ else _) = _
  rw [if_neg (by rw [ho]; decide)]
theorem loopS_done {i j f : Nat} (hp : plS R C t s = some (i, j)) (ho : ok3 (rdF R C t (sw3 R C t i j s)) = true) (hc : clB R C t (rdF R C t (sw3 R C t i j s)) = true) (hn : ndF R C t (rdF R C t (sw3 R C t i j s)) = none) : loopS R C t (f + 1) s = some (rdF R C t (sw3 R C t i j s), true) := by
  show (match plS R C t s with | none => some (s, false) | some (i, j) => _) = _
  rw [hp]
  show (if _ then _ else _) = _
  rw [if_pos ho, if_pos hc, hn]
theorem loopS_left {i j f : Nat} (hp : plS R C t s = some (i, j)) (ho : ok3 (rdF R C t (sw3 R C t i j s)) = true) (hc : clB R C t (rdF R C t (sw3 R C t i j s)) = false) : loopS R C t (f + 1) s = loopS R C t f (rdF R C t (sw3 R C t i j s)) := by
  show (match plS R C t s with | none => some (s, false) | some (i, j) => _) = _
  rw [hp]
  show (if _ then _ else _) = _
  rw [if_pos ho, if_neg (by rw [hc]; decide)]
theorem loopS_add {i j f k : Nat} (hp : plS R C t s = some (i, j)) (ho : ok3 (rdF R C t (sw3 R C t i j s)) = true) (hc : clB R C t (rdF R C t (sw3 R C t i j s)) = true) (hn : ndF R C t (rdF R C t (sw3 R C t i j s)) = some k) : loopS R C t (f + 1) s = if ok3 (row3 R C 2 t k 1 (rdF R C t (sw3 R C t i j s))) = true then loopS R C t f (row3 R C 2 t k 1 (rdF R C t (sw3 R C t i j s))) else none := by
  show (match plS R C t s with | none => some (s, false) | some (i, j) => _) = _
  rw [hp]
  show (if _ then _ else _) = _
  rw [if_pos ho, if_pos hc, hn]
theorem loopS_none {f : Nat} (hp : plS R C t s = none) : loopS R C t (f + 1) s = some (s, false) := by
  show (match plS R C t s with | none => some (s, false) | some (i, j) => _) = _
  rw [hp]
end
end Go.Proofs.Ytpelnfenfeoeeaa
end

section
/-
  Plain mathematics of chapter 13: what is bad stays bad; swaps and changes of signs make nothing bad. Nothing of a program is used.
-/
namespace Go.Proofs.Ytpelnfenfeoeeaa
section
variable {R C t : Nat} {s : SSt} {p : Int}
theorem rowsF_bad (h : Siz3 R C s) (ht : t < R) {n : Nat} (ho : ok3 (rowsF R C t p s n) = false) : ∀ m, t + 1 + n + m ≤ R → ok3 (rowsF R C t p s (n + m)) = false
  | 0, _ => ho
  | m + 1, hm => by
    cases hc : ok3 (rowsF R C t p s (n + (m + 1))) with
    | false => rfl
    | true =>
      have h1 : ok3 (rowsF R C t p s (n + m)) = true := rowsF_back (n := n + m) h ht (by show t + 1 + (n + m) < R; omega) hc
      rw [rowsF_bad h ht ho m (by omega)] at h1
      cases h1
theorem colsF_bad (h : Siz3 R C s) (ht : t < C) {n : Nat} (ho : ok3 (colsF C t p s n) = false) : ∀ m, t + 1 + n + m ≤ C → ok3 (colsF C t p s (n + m)) = false
  | 0, _ => ho
  | m + 1, hm => by
    cases hc : ok3 (colsF C t p s (n + (m + 1))) with
    | false => rfl
    | true =>
      have h1 : ok3 (colsF C t p s (n + m)) = true := colsF_back (n := n + m) h ht (by show t + 1 + (n + m) < C; omega) hc
      rw [colsF_bad h ht ho m (by omega)] at h1
      cases h1
theorem rd_bad_rows (h : Siz3 R C s) (hr : t < R) (hc : t < C) {n : Nat} (hn : t + 1 + n ≤ R) (ho : ok3 (rowsF R C t (cel3S C s t t) s n) = false) : ok3 (rdF R C t s) = false := by
  have h1 := rowsF_bad h hr ho (R - t - 1 - n) (by omega)
  rw [show n + (R - t - 1 - n) = R - t - 1 by omega] at h1
  cases hk : ok3 (rdF R C t s) with
  | false => rfl
  | true =>
    have h2 := colsF_back0 (rowsF_siz h _) hc (C - t - 1) (by omega) hk
    rw [h1] at h2; cases h2
theorem nums_swapC {I J : Nat} {z : Int} {xs : List Int} (h : nums xs = true) : nums (colL 0 I J z C xs) = true := nums_true fun q hq => by
  rw [colL_length] at hq
  rw [colL_getD hq]
  unfold colAt
  rw [if_pos rfl]
  split
  · exact nums_def h _
  · split
    · exact nums_def h _
    · exact nums_def h _
theorem nums_swapR {I J : Nat} {z : Int} {xs : List Int} (h : nums xs = true) : nums (opL 0 I J z C xs) = true := nums_true fun q hq => by
  rw [opL_length] at hq
  rw [opL_getD hq]
  unfold opAt
  rw [if_pos rfl]
  split
  · exact nums_def h _
  · split
    · exact nums_def h _
    · exact nums_def h _
theorem ok3_swapR {I J : Nat} {z : Int} (h : ok3 s = true) : ok3 (row3 R C 0 I J z s) = true := by
  obtain ⟨a, b, c⟩ := ok3_and h
  exact ok3_of (nums_swapR a) (nums_swapR b) c
theorem ok3_swapC {I J : Nat} {z : Int} (h : ok3 s = true) : ok3 (col3 C 0 I J z s) = true := by
  obtain ⟨a, b, c⟩ := ok3_and h
  exact ok3_of (nums_swapC a) b (nums_swapC c)
theorem ok3_sw {i j : Nat} (h : ok3 s = true) : ok3 (sw3 R C t i j s) = true := by
  have h1 : ok3 (if i ≠ t then row3 R C 0 i t 0 s else s) = true := by
    split
    · exact ok3_swapR h
    · exact h
  unfold sw3
  split
  · exact ok3_swapC h1
  · exact h1
theorem ok3_neg {I J : Nat} {z : Int} (h : ok3 s = true) : ok3 (row3 R C 1 I J z s) = true := by
  obtain ⟨a, b, c⟩ := ok3_and h
  exact ok3_of (nums_neg a) (nums_neg b) c
theorem ok3_ng (h : ok3 s = true) : ok3 (ng3 R C t s) = true := by
  unfold ng3
  split
  · exact ok3_neg h
  · exact h
theorem row3_none {I J : Nat} (h : ok3 s = true) : row3 R C 2 I J 0 s = s := by
  obtain ⟨a, b, c⟩ := ok3_and h
  unfold row3
  rw [opL_none a, opL_none b]
end
end Go.Proofs.Ytpelnfenfeoeeaa
end

section
/-
  Chapter 3, in the program: a fold whose closure writes into its value (MultiplyMatrices).
-/
namespace Go.Proofs.Ytpelnfenfeoeeaa
set_option maxRecDepth 100000
open Go.RowKit
theorem far_of {w : World} {a : Option Addr} {zs : List Int} {n : Nat} (h : Rd w a zs) (hn : zs.length = n) : ∀ b o : Nat, a = some ⟨b, o, none⟩ → 0 < n → b ≠ w.heap.size := by
  intro b o e hz
  obtain ⟨b', o', e', hc⟩ := h 0 (by omega)
  rw [e] at e'
  injection e' with e'
  injection e' with e1 e2
  have := World.block_lt_of_cell? w _ hc
  simp at this
  omega
end Go.Proofs.Ytpelnfenfeoeeaa
end

section
/-
  Chapter 3, in the program: a fold whose closure writes into its value (TransposeOf).
-/
namespace Go.Proofs.Ytpelnfenfeoeeaa
set_option maxRecDepth 100000
open Go.RowKit
set_option maxRecDepth 100000 in
set_option maxHeartbeats 1000000 in
theorem iFoldT (pb R C n : Nat) (a : Option Addr) (cap : Nat) (zs : List Int) (g m mc : Nat) (L : Nat → List Int) (w : World) (hx : zs.length = n) (h : Rd w a zs) (hn : n = R * C) (hR : R ≤ 24) (hC : C ≤ 24) (hg : Ints w g (L 0)) (hz : ∀ b o : Nat, a = some ⟨b, o, none⟩ → 0 < n → b ≠ g)
    (step : ∀ (k : Nat) (w1 : World), k < n → w.grownBy w1 (some g) → Ints w1 g (L k) → Calls Try.prog 87 #[.slice (some ⟨g, 0, none⟩) m mc, .int .i64 ((k : Int) / (C : Int)), .int .i64 ((k : Int) % (C : Int)), .int .i64 (zs.getD k 0), .pointer (some ⟨pb, 0, none⟩)] w1
      (fun e w2 => e = .returned (.slice (some ⟨g, 0, none⟩) m mc) ∧ Ints w2 g (L (k + 1)) ∧ w1.grownBy w2 (some g))) :
    Calls Try.prog 86 #[.agg #[.int .i64 R, .int .i64 C, .slice a n cap], .slice (some ⟨g, 0, none⟩) m mc, .func (.func 87) #[] #[.pointer (some ⟨pb, 0, none⟩)]] w
      (fun e w' => e = .returned (.slice (some ⟨g, 0, none⟩) m mc) ∧ Ints w' g (L n) ∧ w.grownBy w' (some g)) := by
  have H := Lib.hid h
  have ST := Lib.hid step
  have HZ := Lib.hid hz
  have hle : R * C ≤ 24 * 24 := Nat.mul_le_mul hR hC
  have HN := Lib.hid hx
  rw [← hn] at hle
  have HM := Lib.hid hn
  have gw : w.grownBy (w.alloc (.cells #[.int .i64 R, .int .i64 C, .slice a n cap] 26)) (some g) := World.grownBy_alloc w _ _
  have G0 := Lib.hid gw
  have I0 := Lib.hid (hg.old (.cells #[.int .i64 R, .int .i64 C, .slice a n cap] 26))
  have K0 : Hid (Blk3 (w.alloc (.cells #[.int .i64 R, .int .i64 C, .slice a n cap] 26)) w.heap.size 26 (.int .i64 R) (.int .i64 C) (.slice a n cap)) := Blk3.at_ _ _ _ _ rfl
  have lg := hg.lt
  clear h step hz hx hn gw hg
  go_enter Try.func86, Try.ntmps86
  go_wp2_with fail
  go_loopw [7, 8, 9, 14] (fun v _ _ i wr => ∃ k : Nat, i = .int .i64 k ∧ k ≤ n ∧ v = .slice (some ⟨g, 0, none⟩) m mc ∧ Ints wr g (L k) ∧ (w.alloc (.cells #[.int .i64 R, .int .i64 C, .slice a n cap] 26)).grownBy wr (some g)) (fun _ _ _ i _ => n - (intOf i).toNat)
  case atStart => exact ⟨0, rfl, by omega, rfl, I0.out, World.grownBy.refl _ _⟩
  case round =>
    obtain ⟨k, rfl, hk, rfl, hi, hgr⟩ := hrel
    have I := Lib.hid hi
    have G := Lib.hid hgr
    have GW := Lib.hid (G0.out.trans hgr)
    clear hi hgr
    have R0 := Lib.hid (K0.out.keepOne G.out (by omega))
    by_cases hlt : k < n
    · have hC0 : 0 < C := by
        rcases Nat.eq_zero_or_pos C with e | e
        · have := HM.out; rw [e, Nat.mul_zero] at this; omega
        · exact e
      have c0 : ((C : Int) == 0) = false := by simp; omega
      obtain ⟨b, o, rfl, hcell⟩ := H.out k (by rw [HN.out]; exact hlt)
      have u1 := World.block_lt_of_cell? w _ hcell
      have hb : b ≠ g := HZ.out b o rfl (by omega)
      have hcell := GW.out.cell hcell (by simpa using hb)
      have d1 : (k : Int) / (C : Int) = ((k / C : Nat) : Int) := (Int.natCast_ediv k C).symm
      have d2 : (k : Int) % (C : Int) = ((k % C : Nat) : Int) := (Int.natCast_emod k C).symm
      have d3 : k / C ≤ k := Nat.div_le_self k C
      have d4 : k % C ≤ k := Nat.mod_le k C
      have d5 : 0 ≤ (k : Int) / (C : Int) := by rw [d1]; exact Int.natCast_nonneg _
      have d6 : (k : Int) / (C : Int) ≤ 600 := by rw [d1]; exact Int.ofNat_le.mpr (show k / C ≤ 600 by omega)
      have c1 : ¬ C = 0 := by omega
      have w1 : IntKind.i64.wrap ((k : Int) / (C : Int)) = (k : Int) / (C : Int) := IntWalk.i64_in _ (by omega)
      have e2 : Int.tmod (k : Int) (C : Int) = (k : Int) % (C : Int) := Int.tmod_eq_emod_of_nonneg (by omega)
      have e3 : Int.tdiv (k : Int) (C : Int) = (k : Int) / (C : Int) := Int.tdiv_eq_ediv_of_nonneg (by omega)
      clear d1 d2
      obtain ⟨z, hz⟩ : ∃ z, zs.getD k 0 = z := ⟨_, rfl⟩
      rw [hz] at hcell
      have Z := Lib.hid hz
      clear hz u1
      obtain ⟨r0, r1, r2, -, -, -⟩ := R0.out.all
      go_wp2_with fail
      go_still_tail 11, (by kernel_rfl)
      go_wp2_with fail
      rw [← Z.out]
      refine (ST.out k _ hlt (grown_drew_one GW.out) I.out.drew).mono ?_
      rintro e w2 ⟨rfl, hi2, hg2⟩
      have I2 := Lib.hid hi2
      have G2 := Lib.hid ((grown_drew_one G.out).trans hg2)
      clear hi2 hg2
      go_wp2_with fail
      go_roundw
      case rel => exact ⟨k + 1, by go_num, by omega, rfl, I2.out, G2.out⟩
      case measure => simp [intOf]; omega
    · obtain rfl : n = k := by omega
      go_wp2_with fail
      go_ret
      exact ⟨rfl, I.out, GW.out⟩
end Go.Proofs.Ytpelnfenfeoeeaa
end

section
/-
  Chapter 3, in the program: TransposeOf.
-/
namespace Go.Proofs.Ytpelnfenfeoeeaa
set_option maxRecDepth 100000
open Go.RowKit
def turnTo (R C : Nat) (xs : List Int) (k : Nat) : List Int := tab C R fun j i => if i * C + j < k then xs.getD (i * C + j) 0 else 0
theorem turnTo_length (R C : Nat) (xs : List Int) (k : Nat) : (turnTo R C xs k).length = C * R := tab_length _ _ _
theorem turnTo_zero (R C : Nat) (xs : List Int) : turnTo R C xs 0 = List.replicate (C * R) 0 := by
  apply List.ext_getElem (by simp [turnTo, tab])
  intro i h1 h2
  simp [turnTo, tab]
theorem turnTo_all (R C : Nat) (xs : List Int) : turnTo R C xs (R * C) = turnL R C xs := by
  refine tab_ext (turnTo_length _ _ _ _) fun j i hj hi => ?_
  unfold turnTo
  rw [tab_at C R _ hj hi, if_pos (idx_lt hi hj)]
theorem turnTo_step (R C : Nat) (xs : List Int) {i j : Nat} (hi : i < R) (hj : j < C) : (turnTo R C xs (i * C + j)).set (j * R + i) (xs.getD (i * C + j) 0) = turnTo R C xs (i * C + j + 1) := by
  refine (tab_ext (by rw [List.length_set, turnTo_length]) fun j' i' hj' hi' => ?_)
  rw [getD_set _ _ _ _ (by rw [turnTo_length]; exact idx_lt hj hi)]
  by_cases e : j' * R + i' = j * R + i
  · obtain ⟨rfl, rfl⟩ := idx_inj hi' hi e
    rw [if_pos e, if_pos (by omega)]
  · rw [if_neg e]
    unfold turnTo
    rw [tab_at C R _ hj' hi']
    by_cases h1 : i' * C + j' < i * C + j
    · rw [if_pos h1, if_pos (by omega)]
    · rw [if_neg h1]
      by_cases h2 : i' * C + j' < i * C + j + 1
      · exfalso
        have h3 : i' * C + j' = i * C + j := by omega
        obtain ⟨rfl, rfl⟩ := idx_inj hj' hj h3
        exact e rfl
      · rw [if_neg h2]
set_option maxHeartbeats 400000 in
theorem iTurnStep (pb R : Nat) (c v : Value) (g m mc i j : Nat) (z : Int) (L : List Int) (w : World) (hp : Blk3 w pb 26 (.int .i64 R) c v) (hI : Ints w g L) (hm : j * R + i < m) (hl : m = L.length) (hb : m ≤ 600) :
    Calls Try.prog 87 #[.slice (some ⟨g, 0, none⟩) m mc, .int .i64 (i : Int), .int .i64 (j : Int), .int .i64 z, .pointer (some ⟨pb, 0, none⟩)] w
      (fun e w2 => e = .returned (.slice (some ⟨g, 0, none⟩) m mc) ∧ Ints w2 g (L.set (j * R + i) z) ∧ w.grownBy w2 (some g)) := by
  have c1 : (j : Int) * (R : Int) = ((j * R : Nat) : Int) := (Int.natCast_mul _ _).symm
  have d1 : 0 ≤ (j : Int) * (R : Int) ∧ (j : Int) * (R : Int) ≤ 600 := by rw [c1]; omega
  have e1 : 0 ≤ (j : Int) * (R : Int) + (i : Int) := by omega
  have e2 : (j : Int) * (R : Int) + (i : Int) < (m : Int) := by rw [c1]; omega
  have e3 : ((j : Int) * (R : Int) + (i : Int)).toNat = j * R + i := by rw [c1]; omega
  obtain ⟨d11, d12⟩ := d1
  have e4 : (j : Int) * (R : Int) + (i : Int) ≤ 600 := by omega
  have v1 : IntKind.i64.wrap ((j : Int) * (R : Int)) = (j : Int) * (R : Int) := IntWalk.i64_in _ (by omega)
  have v2 : IntKind.i64.wrap ((j : Int) * (R : Int) + (i : Int)) = (j : Int) * (R : Int) + (i : Int) := IntWalk.i64_in _ (by omega)
  have hold := hI.cell (i := j * R + i) (by omega)
  have hfr := hI.free (j * R + i)
  obtain ⟨p0, p1, p2, -, -, -⟩ := hp.all
  have I := Lib.hid hI
  clear c1 hI hp
  go_enter Try.func87, Try.ntmps87
  go_wp2_with fail
  go_ret
  refine ⟨rfl, ?_, ?_⟩
  · first | exact I.out.set _ _ | exact I.out.drew.set _ _
  · first | exact grown_set_one (World.grownBy.refl _ _) rfl _ | exact grown_drew_one (grown_set_one (World.grownBy.refl _ _) rfl _)
theorem turnStepOf (pb R C n g : Nat) (xs : List Int) (w : World) {c v : Value} (hp : Blk3 w pb 26 (.int .i64 R) c v) (hn : n = R * C) (hne : pb ≠ g) (hle : n ≤ 576) :
    ∀ (k : Nat) (w1 : World), k < n → w.grownBy w1 (some g) → Ints w1 g (turnTo R C xs k) → Calls Try.prog 87 #[.slice (some ⟨g, 0, none⟩) n n, .int .i64 ((k : Int) / (C : Int)), .int .i64 ((k : Int) % (C : Int)), .int .i64 (xs.getD k 0), .pointer (some ⟨pb, 0, none⟩)] w1
      (fun e w2 => e = .returned (.slice (some ⟨g, 0, none⟩) n n) ∧ Ints w2 g (turnTo R C xs (k + 1)) ∧ w1.grownBy w2 (some g)) := by
  intro k w1 hk hg hI
  have hC : 0 < C := by
    rcases Nat.eq_zero_or_pos C with e | e
    · rw [e, Nat.mul_zero] at hn; omega
    · exact e
  have e1 : k / C * C + k % C = k := by rw [Nat.mul_comm]; exact Nat.div_add_mod k C
  have hj : k % C < C := Nat.mod_lt k hC
  have hi : k / C < R := Nat.div_lt_of_lt_mul (by rw [Nat.mul_comm, ← hn]; exact hk)
  have st := turnTo_step R C xs hi hj
  rw [e1] at st
  rw [← Int.natCast_ediv, ← Int.natCast_emod]
  refine (iTurnStep pb R c v g n n (k / C) (k % C) (xs.getD k 0) _ w1 (hp.keepOne hg hne) hI (by rw [hn, Nat.mul_comm R C]; exact idx_lt hj hi) (by rw [turnTo_length, hn, Nat.mul_comm]) (by omega)).mono ?_
  rintro e w2 ⟨h1, h2, h3⟩
  rw [st] at h2
  exact ⟨h1, h2, h3⟩
set_option maxHeartbeats 1000000 in
theorem iTurn_t (R C : Nat) (a : Option Addr) (m : Nat) (xs : List Int) (w : World) (h : Rd w a xs) (hn : xs.length ≤ 16777216) (hm : isMat R C xs = true) :
    Calls Try.prog 35 #[.agg #[.int .i64 R, .int .i64 C, .slice a xs.length m]] w (MatRes ⟨true, C, R, turnL R C xs⟩ w) := by
  obtain ⟨⟨r1, r2⟩, ⟨c1, c2⟩, l1, -⟩ := isMat_says hm
  rw [← Int.natCast_mul] at l1
  have hle : C * R ≤ 24 * 24 := Nat.mul_le_mul (by omega) (by omega)
  have hCR : C * R = R * C := Nat.mul_comm _ _
  have hl1 : xs.length = R * C := by omega
  obtain ⟨N, hN⟩ : ∃ N, xs.length = N := ⟨_, rfl⟩
  have hle2 : N ≤ 576 := by omega
  have HX := Lib.hid hN
  have HRC : Hid (N = R * C) := hN.symm.trans hl1
  have hmk := makeInts N (by omega)
  have M := Lib.hid hm
  have hR : R ≤ 24 := by omega
  have hC : C ≤ 24 := by omega
  rw [hN] at hn ⊢
  clear l1 hl1 hm hle hCR hN
  have B0 : ∀ o1 o2, Below w.heap.size w ((w.alloc o1).alloc o2) := fun o1 o2 => ((Below.refl _ _).alloc (Nat.le_refl _) _).alloc (by simp) _
  have BH := Lib.hid B0
  have H := Lib.hid h
  clear B0 h
  go_enter Try.func35, Try.ntmps35
  go_wp2_with fail
  have ST := iIsMat R C a m xs _ (H.out.below (BH.out (.cells #[.int .i64 R, .int .i64 C, .slice a N m] 26) (.cells #[.int .i64 0, .int .i64 0, .slice none 0 0] 26))) (by rw [HX.out]; omega)
  rw [HX.out] at ST
  refine ST.mono ?_
  clear ST
  rintro e w1 ⟨rfl, hb⟩
  have K0 : Hid (Blk3 w1 w.heap.size 26 (.int .i64 R) (.int .i64 C) (.slice a N m)) := ((Blk3.at_ _ _ _ _ rfl).old _).keep hb (by simp <;> omega)
  have K2 : Hid (Blk3 w1 (w.heap.size + 1) 26 (.int .i64 0) (.int .i64 0) (.slice none 0 0)) := (Blk3.at_ _ _ _ _ (by simp)).keep hb (by simp)
  have B : Hid (Below w.heap.size w w1) := (BH.out _ _).trans (hb.mono (by simp <;> omega))
  clear hb
  obtain ⟨ca0, ca1, ca2, -, -, -⟩ := K0.out.all
  obtain ⟨cc0, cc1, cc2, ff0, ff1, ff2⟩ := K2.out.all
  rw [M.out]
  go_upto_region 3 with fail
  refine wp_region_held_drew (S := fun w' => Below w1.heap.size w1 w') (by kernel_rfl) (Below.refl _ _).drew (fun hH => ?_)
  refine wpAnyH_take (i := 0) (v := ?_) (by simp only [List.getElem?_toArray, List.getElem?_cons_zero]; rfl) (by kernel_rfl) (by kernel_rfl) (by kernel_rfl) (by exact fun _ _ _ h => h) (Or.inl ⟨by rfl, ?_⟩) hH ?_
  rotate_left
  · (intro wS hS; (try dsimp only at hS); obtain ⟨k1, k2, k3⟩ := seven K0.out hS; go_simp; try rfl)
  try simp only [Act.put, List.setIfInBounds_toArray, List.set_cons_zero, List.set_cons_succ]
  refine wpAnyH_take (i := 1) (v := ?_) (by simp only [List.getElem?_toArray, List.getElem?_cons_succ, List.getElem?_cons_zero]; rfl) (by kernel_rfl) (by kernel_rfl) (by kernel_rfl) (by exact fun _ _ _ h => h) (Or.inl ⟨by rfl, ?_⟩) hH ?_
  rotate_left
  · (intro wS hS; (try dsimp only at hS); obtain ⟨k1, k2, k3⟩ := seven K0.out hS; go_simp; try rfl)
  try simp only [Act.put, List.setIfInBounds_toArray, List.set_cons_zero, List.set_cons_succ]
  refine wpAnyH_take (i := 2) (v := ?_) (by simp only [List.getElem?_toArray, List.getElem?_cons_succ, List.getElem?_cons_zero]; rfl) (by kernel_rfl) (by kernel_rfl) (by kernel_rfl) (by exact fun _ _ _ h => h) (Or.inl ⟨by rfl, ?_⟩) hH ?_
  rotate_left
  · (intro wS hS; (try dsimp only at hS); obtain ⟨k1, k2, k3⟩ := seven K0.out hS; go_simp; try rfl)
  try simp only [Act.put, List.setIfInBounds_toArray, List.set_cons_zero, List.set_cons_succ]
  refine wpAnyH_take (i := 3) (v := ?_) (by simp only [List.getElem?_toArray, List.getElem?_cons_succ, List.getElem?_cons_zero]; rfl) (by kernel_rfl) (by kernel_rfl) (by kernel_rfl) (by exact fun _ _ _ h => h) (Or.inl ⟨by rfl, ?_⟩) hH ?_
  rotate_left
  · (intro wS hS; clear hS; go_simp; try rfl)
  try simp only [Act.put, List.setIfInBounds_toArray, List.set_cons_zero, List.set_cons_succ]
  refine wpAnyH_take (i := 5) (v := ?_) (by simp only [List.getElem?_toArray, List.getElem?_cons_succ, List.getElem?_cons_zero]; rfl) (by kernel_rfl) (by kernel_rfl) (by kernel_rfl) (by exact fun _ _ _ h => h) (Or.inl ⟨by rfl, ?_⟩) hH ?_
  rotate_left
  · (intro wS hS; clear hS; go_simp; try rfl)
  try simp only [Act.put, List.setIfInBounds_toArray, List.set_cons_zero, List.set_cons_succ]
  refine wpAnyH_ready (rs := [4]) (by kernel_rfl) (by simp) ?_
  refine AllReadyH.cons (by simp only [List.getElem?_toArray, List.getElem?_cons_succ, List.getElem?_cons_zero]; rfl) (fun K hK => ?_) AllReadyH.nil
  go_simp
  have I0 : Hid (Ints (w1.alloc (.cells (madeCells #[.int .i64 0] N) 3)) w1.heap.size (List.replicate N 0)) := Ints.made N rfl
  try dsimp only
  refine hK.out _ _ ?_ (fun hH2 => ?_)
  · exact hH.alloc hH.size _
  clear hK K
  have hO := hH
  clear hH
  have hH := hH2
  clear hH2
  try simp only [Act.put, List.setIfInBounds_toArray, List.set_cons_zero, List.set_cons_succ]
  refine wpAnyH_ready (rs := [6]) (by kernel_rfl) (by simp) ?_
  refine AllReadyH.cons (by simp only [List.getElem?_toArray, List.getElem?_cons_succ, List.getElem?_cons_zero]; rfl) (fun K hK => ?_) AllReadyH.nil
  go_simp
  refine (iFoldT w.heap.size R C N a m xs w1.heap.size N N (turnTo R C xs) _ HX.out (H.out.below (B.out.trans (hH.mono B.out.size))) HRC.out hR hC (by rw [turnTo_zero, Nat.mul_comm, ← HRC.out]; first | exact I0.out | exact I0.out.drew) (far_of (H.out.below B.out) HX.out) (turnStepOf w.heap.size R C N w1.heap.size xs _ (K0.out.keep hH K0.out.lt) HRC.out (Nat.ne_of_lt K0.out.lt) hle2)).mono ?_
  rintro e v1 ⟨rfl, hi, hg⟩
  have I2 := Lib.hid hi
  clear hi
  try dsimp only
  refine hK.out _ _ ?_ (fun hH2 => ?_)
  · exact hH.trans (below_of_one hg (Nat.le_refl _) hH.size)
  clear hK K
  have hO := hH
  clear hH
  have hH := hH2
  clear hH2
  try simp only [Act.put, List.setIfInBounds_toArray, List.set_cons_zero, List.set_cons_succ]
  refine wpAnyH_take (i := 7) (v := ?_) (by simp only [List.getElem?_toArray, List.getElem?_cons_succ, List.getElem?_cons_zero]; rfl) (by kernel_rfl) (by kernel_rfl) (by kernel_rfl) (by exact fun _ _ _ h => h) (Or.inl ⟨by rfl, ?_⟩) hH ?_
  rotate_left
  · (intro wS hS; clear hS; go_simp; try rfl)
  try simp only [Act.put, List.setIfInBounds_toArray, List.set_cons_zero, List.set_cons_succ]
  refine wpAnyH_done (by kernel_rfl) ?_ _
  have hb := hH
  clear hH hO hg
  have EQ : turnTo R C xs N = turnL R C xs := by rw [HRC.out]; exact turnTo_all R C xs
  rw [EQ] at I2
  have HL : Hid ((turnL R C xs).length = N) := by show (turnL R C xs).length = N; unfold turnL; rw [tab_length, HRC.out, Nat.mul_comm]
  have gl := K2.out.lt
  have K0 := Lib.hid (K0.out.step hb)
  have K2 := Lib.hid (K2.out.step hb)
  have B := Lib.hid (stepB B.out hb)
  clear hb EQ
  obtain ⟨r0, r1, r2, -, -, -⟩ := K0.out.all
  obtain ⟨s0, s1, s2, t0, t1, t2⟩ := K2.out.all
  go_wp2_with fail
  obtain ⟨E0, E1, E2, -, -, -⟩ := (((K2.out.set0 (.int .i64 C)).set1 (.int .i64 R)).set2 (.slice (some ⟨w1.heap.size, 0, none⟩) N N)).all
  refine bodyPost_ret (v := .tuple #[.agg #[.int .i64 C, .int .i64 R, .slice (some ⟨w1.heap.size, 0, none⟩) N N], .bool true]) (by simp [results, Try.results35, go_sem, E0, E1, E2]) rfl ⟨_, rfl, ?_, ?_⟩
  · refine .inr ⟨w1.heap.size, N, by rw [HL.out], by omega, ?_, by rw [HL.out]; omega, by rw [HL.out]; omega⟩
    exact ((I2.out.far (by show w1.heap.size ≠ w.heap.size + 1; omega) _).far (by show w1.heap.size ≠ w.heap.size + 1; omega) _).far (by show w1.heap.size ≠ w.heap.size + 1; omega) _
  · exact ((B.out.setCell (Nat.le_succ _) _).setCell (Nat.le_succ _) _).setCell (Nat.le_succ _) _
end Go.Proofs.Ytpelnfenfeoeeaa
end

section
/-
  Chapter 13, in the program: a matrix on its way with the accounts of its rows and its columns, behind one pointer.
-/
namespace Go.Proofs.Ytpelnfenfeoeeaa
set_option maxRecDepth 100000
open Go.RowKit
def Blk9 (w : World) (b : Nat) (t : TypeId) (p1 p2 p3 q1 q2 q3 r1 r2 r3 : Value) : Prop := w.heap[b]? = some (.cells #[p1, p2, p3, q1, q2, q3, r1, r2, r3] t (0, 0))
section
variable {w w' : World} {b : Nat} {t : TypeId} {p1 p2 p3 q1 q2 q3 r1 r2 r3 x y v : Value}
theorem Blk9.lt (h : Blk9 w b t p1 p2 p3 q1 q2 q3 r1 r2 r3) : b < w.heap.size := lt_of_block h
theorem Blk9.free (h : Blk9 w b t p1 p2 p3 q1 q2 q3 r1 r2 r3) (o : Nat) : w.frozen? ⟨b, o, none⟩ = false := by unfold Blk9 at h; simp [World.frozen?, h]
theorem Blk9.all (h : Blk9 w b t p1 p2 p3 q1 q2 q3 r1 r2 r3) : w.cell? ⟨b, 0, none⟩ = some p1 ∧ w.cell? ⟨b, 1, none⟩ = some p2 ∧ w.cell? ⟨b, 2, none⟩ = some p3 ∧ w.cell? ⟨b, 3, none⟩ = some q1 ∧ w.cell? ⟨b, 4, none⟩ = some q2 ∧ w.cell? ⟨b, 5, none⟩ = some q3 ∧ w.cell? ⟨b, 6, none⟩ = some r1 ∧ w.cell? ⟨b, 7, none⟩ = some r2 ∧ w.cell? ⟨b, 8, none⟩ = some r3 := by
  unfold Blk9 at h
  simp [World.cell?, h]
theorem Blk9.move (h : Blk9 w b t p1 p2 p3 q1 q2 q3 r1 r2 r3) (e : w'.heap[b]? = w.heap[b]?) : Blk9 w' b t p1 p2 p3 q1 q2 q3 r1 r2 r3 := e.trans h
theorem Blk9.step (h : Blk9 w b t p1 p2 p3 q1 q2 q3 r1 r2 r3) (hb : Below w.heap.size w w') : Blk9 w' b t p1 p2 p3 q1 q2 q3 r1 r2 r3 := h.move (hb.block b h.lt)
theorem Blk9.at_ (t : TypeId) (p1 p2 p3 q1 q2 q3 r1 r2 r3 : Value) (hb : b = w.heap.size) : Blk9 (w.alloc (.cells #[p1, p2, p3, q1, q2, q3, r1, r2, r3] t)) b t p1 p2 p3 q1 q2 q3 r1 r2 r3 := by
  subst hb; unfold Blk9; show (w.heap.push _)[w.heap.size]? = _
  rw [Array.getElem?_push, if_pos rfl]
theorem Blk9.f (h : Blk9 w b t p1 p2 p3 q1 q2 q3 r1 r2 r3) : P3 w b 0 p1 p2 p3 := by
  obtain ⟨a1, a2, a3, -⟩ := h.all
  exact ⟨h.lt, a1, a2, a3, h.free _, h.free _, h.free _⟩
theorem Blk9.r (h : Blk9 w b t p1 p2 p3 q1 q2 q3 r1 r2 r3) : P3 w b 3 q1 q2 q3 := by
  obtain ⟨-, -, -, a1, a2, a3, -⟩ := h.all
  exact ⟨h.lt, a1, a2, a3, h.free _, h.free _, h.free _⟩
theorem Blk9.c (h : Blk9 w b t p1 p2 p3 q1 q2 q3 r1 r2 r3) : P3 w b 6 r1 r2 r3 := by
  obtain ⟨-, -, -, -, -, -, a1, a2, a3⟩ := h.all
  exact ⟨h.lt, a1, a2, a3, h.free _, h.free _, h.free _⟩
theorem cells_set {c : Array Value} {f : Nat × Nat} (h : w.heap[b]? = some (.cells c t f)) (o : Nat) (u : Value) : (w.setCell ⟨b, o, none⟩ u).heap[b]? = some (.cells (c.setIfInBounds o u) t f) := by
  have hlt := lt_of_block h
  have h' : w.heap[b] = .cells c t f := by simpa [Array.getElem?_eq_getElem hlt] using h
  show (w.heap.modify b _)[b]? = _
  rw [Array.getElem?_eq_getElem (by simpa using hlt), Array.getElem_modify_self, h']
  rfl
theorem Blk9.putF (h : Blk9 w b t p1 p2 p3 q1 q2 q3 r1 r2 r3) : Blk9 (put3 w b 0 x y v) b t x y v q1 q2 q3 r1 r2 r3 := cells_set (cells_set (cells_set h 0 x) 1 y) 2 v
theorem Blk9.putR (h : Blk9 w b t p1 p2 p3 q1 q2 q3 r1 r2 r3) : Blk9 (put3 w b 3 x y v) b t p1 p2 p3 x y v r1 r2 r3 := cells_set (cells_set (cells_set h 3 x) 4 y) 5 v
theorem Blk9.putC (h : Blk9 w b t p1 p2 p3 q1 q2 q3 r1 r2 r3) : Blk9 (put3 w b 6 x y v) b t p1 p2 p3 q1 q2 q3 x y v := cells_set (cells_set (cells_set h 6 x) 7 y) 8 v
theorem put3_far {o k : Nat} (h : k ≠ b) : (put3 w b o x y v).heap[k]? = w.heap[k]? := ((Below.heap_setCell _ ⟨b, o + 2, none⟩ v k h).trans (Below.heap_setCell _ ⟨b, o + 1, none⟩ y k h)).trans (Below.heap_setCell _ ⟨b, o, none⟩ x k h)
theorem put3_size {o : Nat} : (put3 w b o x y v).heap.size = w.heap.size := by simp [put3, World.setCell]
theorem Own.put {B o : Nat} {u : Value} {zs : List Int} (h : Own B w u zs) (hb : u.ownBlock ≠ some b) : Own B (put3 w b o x y v) u zs := h.moveA fun k hk => put3_far (fun e => hb (by rw [hk, e]))
theorem Own.ne9 {B : Nat} {u : Value} {zs : List Int} (h : Own B w u zs) (k : Blk9 w b 57 p1 p2 p3 q1 q2 q3 r1 r2 r3) : u.ownBlock ≠ some b := fun e => by
  rcases h with ⟨h2, -⟩ | ⟨g, cap, rfl, hB, ⟨rest, hg⟩, -⟩
  · rw [h2] at e; cases e
  · simp only [Value.ownBlock, Option.some.injEq] at e
    subst e
    unfold Blk9 at k
    rw [hg] at k
    injection k with k
    injection k with _ k2 _
    exact absurd k2 (by decide)
theorem Own.rdS {B n m : Nat} {q : Option Addr} {zs : List Int} (h : Own B w (.slice q n m) zs) : Rd w q zs := by
  rcases h with ⟨e, h0⟩ | ⟨g, c, e, -, hi, -⟩
  · rw [h0]; exact Rd.nil _ _
  · injection e with e1 _ _
    rw [e1]; exact hi.rd
end
theorem turn_col {k : Int} {I J : Nat} {z : Int} {R C : Nat} {xs : List Int} (hk : k = 0 ∨ k = 2) (hl : xs.length = R * C) (hI : I < C) (hJ : J < C) : opL k I J z R (turnL R C xs) = turnL R C (colL k I J z C xs) := by
  refine list_getD (by rw [opL_length, turnL_length, turnL_length]) fun p hp => ?_
  rw [opL_length, turnL_length] at hp
  have hR : 0 < R := by
    rcases Nat.eq_zero_or_pos R with e | e
    · rw [e, Nat.mul_zero] at hp; omega
    · exact e
  have hi : p % R < R := Nat.mod_lt p hR
  have hj : p / R < C := Nat.div_lt_of_lt_mul (by rw [Nat.mul_comm]; exact hp)
  have ep : p = p / R * R + p % R := place_split
  have hq : p % R * C + p / R < xs.length := by rw [hl]; exact idx_lt hi hj
  have e1 : (turnL R C (colL k I J z C xs)).getD p 0 = colAt k I J z C xs (p % R * C + p / R) := by
    rw [← colL_getD hq, ← turnL_at R C _ hi hj, ← ep]
  rw [e1, opL_getD (by rw [turnL_length]; exact hp)]
  have t0 : (turnL R C xs).getD p 0 = xs.getD (p % R * C + p / R) 0 := by rw [← turnL_at R C xs hi hj, ← ep]
  have t1 : ∀ j, j < C → (turnL R C xs).getD (j * R + p % R) 0 = xs.getD (p % R * C + j) 0 := fun j hj => turnL_at R C xs hi hj
  unfold opAt colAt
  rw [(place_div hj).1, (place_div hj).2]
  rcases hk with rfl | rfl
  · rw [if_pos rfl, if_pos rfl, t0, t1 I hI, t1 J hJ]
  · have a0 : ¬ (2 : Int) = 0 := by decide
    have a1 : ¬ (2 : Int) = 1 := by decide
    simp only [if_neg a0, if_neg a1]
    rw [t0, t1 J hJ]
theorem nums_turn {R C : Nat} {xs : List Int} (hl : xs.length = R * C) : nums (turnL R C xs) = nums xs := by
  have one : ∀ {R C : Nat} {xs : List Int}, nums xs = true → nums (turnL R C xs) = true := fun {R C xs} h => nums_true fun p hp => by
    rw [turnL_length] at hp
    have hR : 0 < R := by
      rcases Nat.eq_zero_or_pos R with e | e
      · rw [e, Nat.mul_zero] at hp; omega
      · exact e
    have e := turnL_at R C xs (Nat.mod_lt p hR) (j := p / R) (Nat.div_lt_of_lt_mul (by rw [Nat.mul_comm]; exact hp))
    rw [← place_split] at e
    rw [e]
    exact nums_def h _
  cases hx : nums xs with
  | true => exact one hx
  | false =>
    cases ht : nums (turnL R C xs) with
    | false => rfl
    | true =>
      have := one (R := C) (C := R) ht
      rw [turn_turn R C xs hl, hx] at this
      cases this
structure TsV (R C px B : Nat) (s : SSt) (qa qu qv : Option Addr) (ma mu mv : Nat) (w : World) : Prop where
  k : Blk9 w px 57 (.int .i64 R) (.int .i64 C) (.slice qa (R * C) ma) (.int .i64 R) (.int .i64 R) (.slice qu (R * R) mu) (.int .i64 C) (.int .i64 C) (.slice qv (C * C) mv)
  fA : Own B w (.slice qa (R * C) ma) s.1
  fU : Own B w (.slice qu (R * R) mu) s.2.1
  fV : Own B w (.slice qv (C * C) mv) (turnL C C s.2.2)
  df : ∀ k, (Value.slice qa (R * C) ma).ownBlock = some k → (Value.slice qu (R * R) mu).ownBlock ≠ some k
  siz : Siz3 R C s
  bB : B ≤ w.heap.size
def TsW (R C px B : Nat) (s : SSt) (w : World) : Prop := ∃ qa qu qv ma mu mv, TsV R C px B s qa qu qv ma mu mv w
section
variable {R C px B : Nat} {s : SSt} {qa qu qv : Option Addr} {ma mu mv : Nat} {w w' w1 : World}
theorem TsV.step (h : TsV R C px B s qa qu qv ma mu mv w) (hb : Below w.heap.size w w') : TsV R C px B s qa qu qv ma mu mv w' :=
  ⟨h.k.step hb, h.fA.keep hb, h.fU.keep hb, h.fV.keep hb, h.df, h.siz, Nat.le_trans h.bB hb.size⟩
theorem TsW.step (h : TsW R C px B s w) (hb : Below w.heap.size w w') : TsW R C px B s w' := by
  obtain ⟨qa, qu, qv, ma, mu, mv, h⟩ := h
  exact ⟨qa, qu, qv, ma, mu, mv, h.step hb⟩
theorem TsW.lt (h : TsW R C px B s w) : px < w.heap.size := by
  obtain ⟨qa, qu, qv, ma, mu, mv, h⟩ := h
  exact h.k.lt
theorem TsW.siz (h : TsW R C px B s w) : Siz3 R C s := by
  obtain ⟨qa, qu, qv, ma, mu, mv, h⟩ := h
  exact h.siz
theorem TsV.putF (h : TsV R C px B s qa qu qv ma mu mv w) (hb : Below w.heap.size w w1) {q : Option Addr} {m : Nat} {zs : List Int} (ho : Own w.heap.size w1 (.slice q (R * C) m) zs) (hs : Siz3 R C (zs, s.2.1, s.2.2)) :
    TsW R C px B (zs, s.2.1, s.2.2) (put3 w1 px 0 (.int .i64 R) (.int .i64 C) (.slice q (R * C) m)) := by
  have h1 := h.step hb
  have l1 := h.k.lt
  have ob : (Value.slice q (R * C) m).ownBlock ≠ some px := fun e => by have := ho.lt_of e; omega
  refine ⟨q, qu, qv, m, mu, mv, h1.k.putF, (ho.put ob).le h.bB, h1.fU.put (h1.fU.ne9 h1.k), h1.fV.put (h1.fV.ne9 h1.k), fun k hk e => ?_, hs, by rw [put3_size]; exact h1.bB⟩
  have a1 := ho.lt_of hk
  have a2 := h.fU.lt_of e
  omega
theorem TsV.putR (h : TsV R C px B s qa qu qv ma mu mv w) (hb : Below w.heap.size w w1) {q : Option Addr} {m : Nat} {zs : List Int} (ho : Own w.heap.size w1 (.slice q (R * R) m) zs) (hs : Siz3 R C (s.1, zs, s.2.2)) :
    TsW R C px B (s.1, zs, s.2.2) (put3 w1 px 3 (.int .i64 R) (.int .i64 R) (.slice q (R * R) m)) := by
  have h1 := h.step hb
  have l1 := h.k.lt
  have ob : (Value.slice q (R * R) m).ownBlock ≠ some px := fun e => by have := ho.lt_of e; omega
  refine ⟨qa, q, qv, ma, m, mv, h1.k.putR, h1.fA.put (h1.fA.ne9 h1.k), (ho.put ob).le h.bB, h1.fV.put (h1.fV.ne9 h1.k), fun k hk e => ?_, hs, by rw [put3_size]; exact h1.bB⟩
  have a1 := ho.lt_of e
  have a2 := h.fA.lt_of hk
  omega
theorem TsV.putC (h : TsV R C px B s qa qu qv ma mu mv w) (hb : Below w.heap.size w w1) {q : Option Addr} {m : Nat} {zs : List Int} (ho : Own w.heap.size w1 (.slice q (C * C) m) (turnL C C zs)) (hs : Siz3 R C (s.1, s.2.1, zs)) :
    TsW R C px B (s.1, s.2.1, zs) (put3 w1 px 6 (.int .i64 C) (.int .i64 C) (.slice q (C * C) m)) := by
  have h1 := h.step hb
  have l1 := h.k.lt
  have ob : (Value.slice q (C * C) m).ownBlock ≠ some px := fun e => by have := ho.lt_of e; omega
  exact ⟨qa, qu, q, ma, mu, m, h1.k.putC, h1.fA.put (h1.fA.ne9 h1.k), h1.fU.put (h1.fU.ne9 h1.k), (ho.put ob).le h.bB, h1.df, hs, by rw [put3_size]; exact h1.bB⟩
end
end Go.Proofs.Ytpelnfenfeoeeaa
end

section
/-
  A region that draws its order and stores, at its end, into cells that it loads: a condition on the world is shown again behind each operation but those that come after all loads. No function of the program is named.
-/
namespace Go.Proofs.Ytpelnfenfeoeeaa
theorem two_only {p : Nat → Prop} (a b : Nat) (ha : p a) (hb : p b) : ∀ j, (j == a || j == b) = true → p j := fun j hj => by
  rw [Bool.or_eq_true, beq_iff_eq, beq_iff_eq] at hj
  rcases hj with rfl | rfl
  · exact ha
  · exact hb
section
variable {P : Program} {ops : Array Oper} {Q : Exit → Act → World → Prop} {md : Region.Mode} {S : World → Prop} {T : Nat → Bool}
def anc (md : Region.Mode) (ops : Array Oper) (i : Nat) : Nat → Nat → Bool
  | 0, _ => false
  | f + 1, j => match ops[j]? with
    | some o => o.after.any fun e => Region.binds md e && (e.on == i || anc md ops i f e.on)
    | none => false
def closedB (md : Region.Mode) (ops : Array Oper) (listed : Array Bool) : Bool :=
  (List.range ops.size).all fun j => match ops[j]? with
    | some o => !(listed.getD j false) || o.after.all fun e => !(Region.binds md e) || listed.getD e.on false
    | none => true
def Closed (md : Region.Mode) (ops : Array Oper) (listed : Array Bool) : Prop := ∀ (j : Nat) (o : Oper), ops[j]? = some o → listed.getD j false = true → ∀ e ∈ o.after, Region.binds md e = true → listed.getD e.on false = true
theorem closed_of {listed : Array Bool} (h : closedB md ops listed = true) : Closed md ops listed := fun j o ho hl e he hb => by
  unfold closedB at h
  rw [List.all_eq_true] at h
  have hj : j < ops.size := by
    rcases Nat.lt_or_ge j ops.size with h1 | h1
    · exact h1
    · rw [Array.getElem?_eq_none h1] at ho; cases ho
  have h1 := h j (List.mem_range.mpr hj)
  rw [ho] at h1
  dsimp only at h1
  rw [hl] at h1
  simp only [Bool.not_true, Bool.false_or] at h1
  rw [Array.all_eq_true_iff_forall_mem] at h1
  have h2 := h1 e he
  rw [hb] at h2
  simpa using h2
theorem Closed.set {listed : Array Bool} {i : Nat} (h : Closed md ops listed) (hr : i ∈ Region.ready md ops listed) : Closed md ops (listed.setIfInBounds i true) := fun j o ho hl e he hb => by
  by_cases hji : i = j
  · subst hji
    obtain ⟨-, o', ho', hall⟩ := mem_ready.1 hr
    rw [ho] at ho'
    cases ho'
    exact getD_set_true (hall e he hb)
  · rw [getD_set_ne false hji] at hl
    exact getD_set_true (h j o ho hl e he hb)
theorem anc_unlisted {listed : Array Bool} {i : Nat} (h : Closed md ops listed) (hi : listed.getD i false = false) : ∀ (f j : Nat), anc md ops i f j = true → listed.getD j false = false
  | 0, j, ha => by cases ha
  | f + 1, j, ha => by
    unfold anc at ha
    cases ho : ops[j]? with
    | none => rw [ho] at ha; cases ha
    | some o =>
      rw [ho] at ha
      dsimp only at ha
      rw [Array.any_eq_true'] at ha
      obtain ⟨e, he, hb⟩ := ha
      rw [Bool.and_eq_true, Bool.or_eq_true] at hb
      cases hl : listed.getD j false with
      | false => rfl
      | true =>
        have h1 := h j o ho hl e he hb.1
        rcases hb.2 with h2 | h2
        · have e2 : e.on = i := by simpa using h2
          rw [e2, hi] at h1
          cases h1
        · rw [anc_unlisted h hi f e.on h2] at h1
          cases h1
theorem anc_not_ready {listed : Array Bool} {i j f : Nat} (h : Closed md ops listed) (hi : listed.getD i false = false) (ha : anc md ops i f j = true) : j ∉ Region.ready md ops listed := fun hr => by
  have h1 := h.set hr
  obtain ⟨-, o, ho, hall⟩ := mem_ready.1 hr
  cases f with
  | zero => cases ha
  | succ f =>
    unfold anc at ha
    rw [ho] at ha
    dsimp only at ha
    rw [Array.any_eq_true'] at ha
    obtain ⟨e, he, hb⟩ := ha
    rw [Bool.and_eq_true, Bool.or_eq_true] at hb
    have h2 := hall e he hb.1
    rcases hb.2 with h3 | h3
    · have e2 : e.on = i := by simpa using h3
      rw [e2, hi] at h2
      cases h2
    · rw [anc_unlisted h hi f e.on h3] at h2
      cases h2
def wpAnyT (P : Program) (md : Region.Mode) (ops : Array Oper) (Q : Exit → Act → World → Prop) (S : World → Prop) (T : Nat → Bool) : Nat → Array Bool → Act → World → Prop
  | 0, listed, a, w => Region.ready md ops listed = [] ∧ Q .normal a w
  | fuel + 1, listed, a, w =>
    (Region.ready md ops listed = [] → Q .normal a w) ∧
    ∀ i ∈ Region.ready md ops listed, wpOp P ops Q i (fun a' w' => (T i = false → S w') ∧ wpAnyT P md ops Q S T fuel (listed.setIfInBounds i true) a' w') a w
theorem wpAny_of_T : ∀ (fuel : Nat) (listed : Array Bool) (a : Act) (w : World), wpAnyT P md ops Q S T fuel listed a w → wpAny P md ops Q fuel listed a w
  | 0, _, _, _, h => h
  | fuel + 1, _, _, _, h => ⟨h.1, fun i hi => wpOp_mono (fun a' w' h' => wpAny_of_T fuel _ a' w' h'.2) (h.2 i hi)⟩
theorem getD_swap {listed : Array Bool} {i : Nat} (h : listed.getD i true = false) : listed.getD i false = false := by
  rcases Nat.lt_or_ge i listed.size with h' | h'
  · simp [h'] at h ⊢; exact h
  · simp [Array.getElem?_eq_none h'] at h
theorem wpAnyT_first {i : Nat} {oi : Oper} {v : Value} (hi : ops[i]? = some oi) (hsel : ∀ (j : Nat) (o : Oper) cs b, ops[j]? = some o → o.op ≠ .select cs b)
    (hQ : ∀ c a w, Q (.panic c) (a.put oi.dst v) w → Q (.panic c) a w) (hT : ∀ j, T j = true → anc md ops i ops.size j = true) :
    ∀ (fuel : Nat) (listed : Array Bool) (a : Act) (w : World), Closed md ops listed →
      (∀ j oj, ops[j]? = some oj → j ≠ i → listed.getD j true = false → (∀ e ∈ oj.after, Region.binds md e = true → e.on ≠ i) → oi.apart ops oj = true) →
      i ∈ Region.ready md ops listed → YieldsIf P ops S oi v a → S w →
      wpAnyT P md ops Q S T fuel (listed.setIfInBounds i true) (a.put oi.dst v) w → wpAnyT P md ops Q S T (fuel + 1) listed a w := by
  intro fuel
  induction fuel with
  | zero =>
    intro listed a w _ _ hr hy hS H
    refine ⟨fun h => (by rw [h] at hr; cases hr), fun j hj => ?_⟩
    by_cases hji : j = i
    · subst hji; exact hy.wpOp hi hS ⟨fun _ => hS, H⟩
    · have := ready_mono hj hji
      rw [H.1] at this
      cases this
  | succ fuel ih =>
    intro listed a w hcl hfree hr hy hS H
    refine ⟨fun h => (by rw [h] at hr; cases hr), fun j hj => ?_⟩
    by_cases hji : j = i
    · subst hji; exact hy.wpOp hi hS ⟨fun _ => hS, H⟩
    · have h1 := H.2 j (ready_mono hj hji)
      have hli := getD_swap (mem_ready.1 hr).1
      have hTj : T j = false := by
        cases hb : T j with
        | false => rfl
        | true => exact absurd hj (anc_not_ready hcl hli (hT j hb))
      obtain ⟨hjun, oj, hoj, hall⟩ := mem_ready.1 hj
      have hnot : ∀ e ∈ oj.after, Region.binds md e = true → e.on ≠ i := fun e he hb heq => by
        have h1 := hall e he hb
        rw [heq, hli] at h1
        cases h1
      have h2 := wpOp_putIf hoj (hfree j oj hoj hji hjun hnot) (fun cs b => hsel i oi cs b hi) (fun cs b => hsel j oj cs b hoj) hQ hy h1
      have hfree' : ∀ k ok, ops[k]? = some ok → k ≠ i → (listed.setIfInBounds j true).getD k true = false →
          (∀ e ∈ ok.after, Region.binds md e = true → e.on ≠ i) → oi.apart ops ok = true := fun k ok hk hki hun hno => by
        refine hfree k ok hk hki ?_ hno
        by_cases hjk : j = k
        · subst hjk; exact hjun
        · rw [getD_set_ne true hjk] at hun; exact hun
      refine wpOp_mono (fun a' w' h3 => ⟨h3.2.1, ih (listed.setIfInBounds j true) a' w' (hcl.set hj) hfree' (ready_mono hr (Ne.symm hji)) h3.1 (h3.2.1 hTj) ?_⟩) h2
      rw [Array.setIfInBounds_comm _ _ hji]
      exact h3.2.2
theorem wpAnyT_take {i : Nat} {oi : Oper} {v : Value} {fuel : Nat} {listed : Array Bool} {a : Act} {w : World} (hi : ops[i]? = some oi)
    (hs : Region.noSelect ops = true) (hf : Region.free md ops listed i = true) (hr : (Region.ready md ops listed).contains i = true) (hcl : closedB md ops listed = true)
    (hT : ∀ j, T j = true → anc md ops i ops.size j = true)
    (hQ : ∀ c a w, Q (.panic c) (a.put oi.dst v) w → Q (.panic c) a w) (hy : YieldsIf P ops S oi v a) (hS : S w)
    (h : wpAnyT P md ops Q S T fuel (listed.setIfInBounds i true) (a.put oi.dst v) w) : wpAnyT P md ops Q S T (fuel + 1) listed a w :=
  wpAnyT_first hi (Region.noSelect_spec hs) hQ hT fuel listed a w (closed_of hcl) (Region.free_spec hi hf) (by simpa using hr) hy hS h
theorem wpAnyT_done {listed : Array Bool} {a : Act} {w : World} (hr : Region.ready md ops listed = []) (h : Q .normal a w) :
    ∀ fuel, wpAnyT P md ops Q S T fuel listed a w
  | 0 => ⟨hr, h⟩
  | _ + 1 => ⟨fun _ => h, by rw [hr]; simp⟩
def AllReadyT (P : Program) (md : Region.Mode) (ops : Array Oper) (Q : Exit → Act → World → Prop) (S : World → Prop) (T : Nat → Bool) (fuel : Nat) (listed : Array Bool) (a : Act) (w : World) (rs : List Nat) : Prop :=
  ∀ i ∈ rs, wpOp P ops Q i (fun a' w' => (T i = false → S w') ∧ wpAnyT P md ops Q S T fuel (listed.setIfInBounds i true) a' w') a w
theorem AllReadyT.nil {fuel : Nat} {listed : Array Bool} {a : Act} {w : World} : AllReadyT P md ops Q S T fuel listed a w [] := fun _ h => by cases h
theorem AllReadyT.cons {fuel : Nat} {listed : Array Bool} {a : Act} {w : World} {i : Nat} {o : Oper} {rs : List Nat} (ho : ops[i]? = some o)
    (h : ∀ K' : Act → World → Prop, Shut (∀ a w, (T i = false → S w) → wpAnyT P md ops Q S T fuel (listed.setIfInBounds i true) a w → K' a w) → if Region.wanted o (yielded ops a.tmps) = true then Oper.wp P o a w K' Q else K' (a.put o.dst undef) w)
    (hs : AllReadyT P md ops Q S T fuel listed a w rs) : AllReadyT P md ops Q S T fuel listed a w (i :: rs) := fun j hj => by
  rcases List.mem_cons.1 hj with rfl | hj
  · exact wpOp_step ho (fun K' hK => h K' (fun a w hS hW => hK a w ⟨hS, hW⟩))
  · exact hs j hj
theorem wpAnyT_ready {rs : List Nat} {fuel : Nat} {listed : Array Bool} {a : Act} {w : World} (hr : Region.ready md ops listed = rs) (hne : rs ≠ [])
    (h : AllReadyT P md ops Q S T fuel listed a w rs) : wpAnyT P md ops Q S T (fuel + 1) listed a w := ⟨fun h0 => absurd (hr ▸ h0) hne, hr ▸ h⟩
end
end Go.Proofs.Ytpelnfenfeoeeaa
end

section
/-
  A region that draws its order and stores, at its end, into cells that it loads: outside of a fence. No function of the program is named.
-/
namespace Go.Proofs.Ytpelnfenfeoeeaa
theorem wp_region_T {P : Program} {id : Nat} {ops : Array Oper} {Q : Exit → Act → World → Prop} {S : World → Prop} {T : Nat → Bool} {a : Act} {w : World} (hm : P.follows .mixedOrders = true) (hS : S w.drew)
    (h : S w.drew → wpAnyT P .any ops Q S T ops.size (Array.replicate ops.size false) a w.drew) : (Code.region id ops true).wp P Q a w := wp_region_any hm (wpAny_of_T _ _ _ _ (h hS))
end Go.Proofs.Ytpelnfenfeoeeaa
end

section
/-
  Chapter 13, in the program: an operation on the rows, an operation on the columns.
-/
namespace Go.Proofs.Ytpelnfenfeoeeaa
set_option maxRecDepth 100000
open Go.RowKit
def TsRes (R C px B : Nat) (s' : SSt) (w : World) (e : Ending) (w' : World) : Prop :=
  e = .returned (.bool (ok3 s')) ∧ FrS (fun b => b = px) w w' ∧ (ok3 s' = true → TsW R C px B s' w')
theorem le600 {R C : Nat} (hR : R ≤ 24) (hC : C ≤ 24) : R * C ≤ 600 := Nat.le_trans (Nat.mul_le_mul hR hC) (by decide)
def rwT (R C px B : Nat) (k : Int) (I J : Nat) (z : Int) (s : SSt) : Nat → World → Prop
  | 0 => TsW R C px B s
  | 1 => TsW R C px B (opL k I J z C s.1, s.2.1, s.2.2)
  | _ => TsW R C px B (row3 R C k I J z s)
theorem iDoR (R C px B I J : Nat) (k z : Int) (s : SSt) (w : World) (h : TsW R C px B s w) (hR : R ≤ 24) (hC : C ≤ 24) (ho : ok3 s = true) (hop : isOp k I J z R = true) :
    Calls Try.prog 141 #[.agg #[.pointer (some ⟨px, 0, none⟩), .pointer (some ⟨px, 3, none⟩)], .agg #[.int .i64 k, .int .i64 I, .int .i64 J, .int .i64 z]] w (TsRes R C px B (row3 R C k I J z s) w) := by
  obtain ⟨n1, n2, n3⟩ := ok3_and ho
  have hS := h.siz
  have S2 := hS.row k I J z
  have l1 : (opL k I J z C s.1).length = R * C := S2.l1
  have l2 : (opL k I J z R s.2.1).length = R * R := S2.l2
  have hc := iDoG R px 0 px 3 I J k z (rwT R C px B k I J z s) (fun i => if i = 0 then nums (opL k I J z C s.1) else nums (opL k I J z R s.2.1)) w (fun w' hb => h.step hb) h.lt h.lt (Lib.hid fun i wq hi hw hst h1 => by
    rcases i with _ | _ | i
    · obtain ⟨qa, qu, qv, ma, mu, mv, q⟩ := (show TsW R C px B s wq from hst)
      exact ⟨px, 0, C, R * C, qa, ma, s.1, opL k I J z C s.1, q.k.f, q.fA.rdS, hS.l1, l1, q.fA.celA.spot, opM_case (isMat_mk hR hC hS.l1 n1) hop l1, rfl, rfl, le600 hR hC, fun w1 qq m hb hw => q.putF hb hw ⟨l1, hS.l2, hS.l3, S2.m1, hS.m2, hS.m3⟩⟩
    · obtain ⟨qa, qu, qv, ma, mu, mv, q⟩ := (show TsW R C px B (opL k I J z C s.1, s.2.1, s.2.2) wq from hst)
      exact ⟨px, 3, R, R * R, qu, mu, s.2.1, opL k I J z R s.2.1, q.k.r, q.fU.rdS, hS.l2, l2, q.fU.celA.spot, opM_case (isMat_mk hR hR hS.l2 n2) hop l2, rfl, rfl, le600 hR hR, fun w1 qq m hb hw => q.putR hb hw S2⟩
    · omega)
  refine hc.mono ?_
  rintro e w' ⟨h1, h2, h3⟩
  have e1 : ((fun i => if i = 0 then nums (opL k I J z C s.1) else nums (opL k I J z R s.2.1)) 0 && (fun i => if i = 0 then nums (opL k I J z C s.1) else nums (opL k I J z R s.2.1)) 1) = ok3 (row3 R C k I J z s) := by
    show (nums (opL k I J z C s.1) && nums (opL k I J z R s.2.1)) = (nums (opL k I J z C s.1) && nums (opL k I J z R s.2.1) && nums s.2.2)
    rw [n3, Bool.and_true]
  rw [e1] at h1 h3
  exact ⟨h1, h2.mono fun b hb => by rcases hb with e | e <;> exact e, h3⟩
theorem d0F {W w' : World} {b : Nat} {t : TypeId} {p q r s : Value} (h : Blk4 W b t p q r s) (hb : Below W.heap.size W w') : w'.cell? ⟨b, 0, none⟩ = some p ∧ w'.cell? ⟨b, 1, none⟩ = some q ∧ w'.cell? ⟨b, 2, none⟩ = some r ∧ w'.cell? ⟨b, 3, none⟩ = some s := (h.keep hb h.lt).all
set_option maxHeartbeats 2000000 in
theorem iDoRow (R C px B I J : Nat) (k z : Int) (s : SSt) (w : World) (h : TsW R C px B s w) (hR : R ≤ 24) (hC : C ≤ 24) (ho : ok3 s = true) (hop : isOp k I J z R = true) :
    Calls Try.prog 120 #[.pointer (some ⟨px, 0, none⟩), .agg #[.int .i64 k, .int .i64 I, .int .i64 J, .int .i64 z]] w (TsRes R C px B (row3 R C k I J z s) w) := by
  have D : Hid (∀ w', Below w.heap.size w w' → Calls Try.prog 141 #[.agg #[.pointer (some ⟨px, 0, none⟩), .pointer (some ⟨px, 3, none⟩)], .agg #[.int .i64 k, .int .i64 I, .int .i64 J, .int .i64 z]] w' (TsRes R C px B (row3 R C k I J z s) w')) := fun w' hb => iDoR R C px B I J k z s w' (h.step hb) hR hC ho hop
  have B0 : Hid (Below w.heap.size w (w.alloc (.cells #[.int .i64 k, .int .i64 I, .int .i64 J, .int .i64 z] 97))) := (Below.refl _ _).alloc (Nat.le_refl _) _
  have K0 : Hid (Blk4 (w.alloc (.cells #[.int .i64 k, .int .i64 I, .int .i64 J, .int .i64 z] 97)) w.heap.size 97 (.int .i64 k) (.int .i64 I) (.int .i64 J) (.int .i64 z)) := Blk4.at_ _ _ _ _ _ rfl
  generalize row3 R C k I J z s = s' at D ⊢
  clear h hR hC ho hop
  go_enter Try.func120, Try.ntmps120
  go_upto_region 1 with fail
  generalize w.alloc (.cells #[.int .i64 k, .int .i64 I, .int .i64 J, .int .i64 z] 97) = W0 at B0 K0 ⊢
  refine wp_region_T (S := fun w' => Below W0.heap.size W0 w') (T := fun j => j == 8 || j == 9) (by kernel_rfl) (Below.refl _ _).drew (fun hH => ?_)
  refine wpAnyT_take (i := 0) (v := ?_) (by simp only [List.getElem?_toArray, List.getElem?_cons_zero]; rfl) (by kernel_rfl) (by kernel_rfl) (by kernel_rfl) (by kernel_rfl) (two_only 8 9 (by kernel_rfl) (by kernel_rfl)) (by exact fun _ _ _ h => h) (Or.inl ⟨by rfl, ?_⟩) hH ?_
  rotate_left
  · (intro wS hS; clear hS; go_simp; try rfl)
  try simp only [Act.put, List.setIfInBounds_toArray, List.set_cons_zero, List.set_cons_succ]
  refine wpAnyT_take (i := 1) (v := ?_) (by simp only [List.getElem?_toArray, List.getElem?_cons_succ, List.getElem?_cons_zero]; rfl) (by kernel_rfl) (by kernel_rfl) (by kernel_rfl) (by kernel_rfl) (two_only 8 9 (by kernel_rfl) (by kernel_rfl)) (by exact fun _ _ _ h => h) (Or.inl ⟨by rfl, ?_⟩) hH ?_
  rotate_left
  · (intro wS hS; clear hS; go_simp; try rfl)
  try simp only [Act.put, List.setIfInBounds_toArray, List.set_cons_zero, List.set_cons_succ]
  refine wpAnyT_take (i := 2) (v := ?_) (by simp only [List.getElem?_toArray, List.getElem?_cons_succ, List.getElem?_cons_zero]; rfl) (by kernel_rfl) (by kernel_rfl) (by kernel_rfl) (by kernel_rfl) (two_only 8 9 (by kernel_rfl) (by kernel_rfl)) (by exact fun _ _ _ h => h) (Or.inl ⟨by rfl, ?_⟩) hH ?_
  rotate_left
  · (intro wS hS; clear hS; go_simp; try rfl)
  try simp only [Act.put, List.setIfInBounds_toArray, List.set_cons_zero, List.set_cons_succ]
  refine wpAnyT_take (i := 3) (v := ?_) (by simp only [List.getElem?_toArray, List.getElem?_cons_succ, List.getElem?_cons_zero]; rfl) (by kernel_rfl) (by kernel_rfl) (by kernel_rfl) (by kernel_rfl) (two_only 8 9 (by kernel_rfl) (by kernel_rfl)) (by exact fun _ _ _ h => h) (Or.inl ⟨by rfl, ?_⟩) hH ?_
  rotate_left
  · (intro wS hS; clear hS; go_simp; try rfl)
  try simp only [Act.put, List.setIfInBounds_toArray, List.set_cons_zero, List.set_cons_succ]
  refine wpAnyT_take (i := 4) (v := ?_) (by simp only [List.getElem?_toArray, List.getElem?_cons_succ, List.getElem?_cons_zero]; rfl) (by kernel_rfl) (by kernel_rfl) (by kernel_rfl) (by kernel_rfl) (two_only 8 9 (by kernel_rfl) (by kernel_rfl)) (by exact fun _ _ _ h => h) (Or.inl ⟨by rfl, ?_⟩) hH ?_
  rotate_left
  · (intro wS hS; clear hS; go_simp; try rfl)
  try simp only [Act.put, List.setIfInBounds_toArray, List.set_cons_zero, List.set_cons_succ]
  refine wpAnyT_take (i := 5) (v := ?_) (by simp only [List.getElem?_toArray, List.getElem?_cons_succ, List.getElem?_cons_zero]; rfl) (by kernel_rfl) (by kernel_rfl) (by kernel_rfl) (by kernel_rfl) (two_only 8 9 (by kernel_rfl) (by kernel_rfl)) (by exact fun _ _ _ h => h) (Or.inl ⟨by rfl, ?_⟩) hH ?_
  rotate_left
  · (intro wS hS; clear hS; go_simp; try rfl)
  try simp only [Act.put, List.setIfInBounds_toArray, List.set_cons_zero, List.set_cons_succ]
  refine wpAnyT_take (i := 6) (v := ?_) (by simp only [List.getElem?_toArray, List.getElem?_cons_succ, List.getElem?_cons_zero]; rfl) (by kernel_rfl) (by kernel_rfl) (by kernel_rfl) (by kernel_rfl) (two_only 8 9 (by kernel_rfl) (by kernel_rfl)) (by exact fun _ _ _ h => h) (Or.inl ⟨by rfl, ?_⟩) hH ?_
  rotate_left
  · (intro wS hS; clear hS; go_simp; try rfl)
  try simp only [Act.put, List.setIfInBounds_toArray, List.set_cons_zero, List.set_cons_succ]
  refine wpAnyT_take (i := 7) (v := ?_) (by simp only [List.getElem?_toArray, List.getElem?_cons_succ, List.getElem?_cons_zero]; rfl) (by kernel_rfl) (by kernel_rfl) (by kernel_rfl) (by kernel_rfl) (two_only 8 9 (by kernel_rfl) (by kernel_rfl)) (by exact fun _ _ _ h => h) (Or.inl ⟨by rfl, ?_⟩) hH ?_
  rotate_left
  · (intro wS hS; (try dsimp only at hS); obtain ⟨k1, k2, k3, k4⟩ := d0F K0.out hS; go_simp; try rfl)
  try simp only [Act.put, List.setIfInBounds_toArray, List.set_cons_zero, List.set_cons_succ]
  refine wpAnyT_ready (rs := [8]) (by kernel_rfl) (by simp) ?_
  refine AllReadyT.cons (by simp only [List.getElem?_toArray, List.getElem?_cons_succ, List.getElem?_cons_zero]; rfl) (fun K hK => ?_) AllReadyT.nil
  go_simp
  (with_reducible refine (D.out _ (B0.out.trans (hH.mono B0.out.size))).mono ?_)
  rintro e v1 ⟨rfl, hf, hs⟩
  have hH := Lib.hid (B0.out.trans (hH.mono B0.out.size))
  try dsimp only
  refine hK.out _ _ (fun h => by cases h) ?_
  clear hK K
  try simp only [Act.put, List.setIfInBounds_toArray, List.set_cons_zero, List.set_cons_succ]
  refine wpAnyT_ready (rs := [9]) (by kernel_rfl) (by simp) ?_
  refine AllReadyT.cons (by simp only [List.getElem?_toArray, List.getElem?_cons_succ, List.getElem?_cons_zero]; rfl) (fun K hK => ?_) AllReadyT.nil
  go_simp
  try dsimp only
  refine hK.out _ _ (fun h => by cases h) ?_
  clear hK K
  try simp only [Act.put, List.setIfInBounds_toArray, List.set_cons_zero, List.set_cons_succ]
  refine wpAnyT_done (by kernel_rfl) ?_ _
  go_wp2_with fail
  go_ret
  exact ⟨rfl, (FrS.of_below hH.out).trans hf, hs⟩
structure ClT (R C px B bt : Nat) (s : SSt) (zs : List Int) (w : World) : Prop where
  t : ∃ q m, Blk3 w bt 26 (.int .i64 C) (.int .i64 R) (.slice q (C * R) m) ∧ Own B w (.slice q (C * R) m) (turnL R C zs)
  x : TsW R C px B s w
  ne : bt ≠ px
def clT (R C px B bt : Nat) (k : Int) (I J : Nat) (z : Int) (s : SSt) : Nat → World → Prop
  | 0 => ClT R C px B bt s s.1
  | 1 => ClT R C px B bt s (colL k I J z C s.1)
  | _ => ClT R C px B bt (s.1, s.2.1, colL k I J z C s.2.2) (colL k I J z C s.1)
theorem ClT.step {R C px B bt : Nat} {s : SSt} {zs : List Int} {w w' : World} (h : ClT R C px B bt s zs w) (hb : Below w.heap.size w w') : ClT R C px B bt s zs w' := by
  obtain ⟨⟨q, m, h1, h2⟩, h3, h4⟩ := h
  exact ⟨⟨q, m, h1.step hb, h2.keep hb⟩, h3.step hb, h4⟩
theorem iDoC (R C px B bt I J : Nat) (k z : Int) (s : SSt) (w : World) (h : ClT R C px B bt s s.1 w) (hR : R ≤ 24) (hC : C ≤ 24) (ho : ok3 s = true) (hop : isOp k I J z C = true) (hk : k = 0 ∨ k = 2) (hI : I < C) (hJ : J < C) :
    Calls Try.prog 141 #[.agg #[.pointer (some ⟨bt, 0, none⟩), .pointer (some ⟨px, 6, none⟩)], .agg #[.int .i64 k, .int .i64 I, .int .i64 J, .int .i64 z]] w (fun e w' => e = .returned (.bool (ok3 (col3 C k I J z s))) ∧ FrS (fun b => b = bt ∨ b = px) w w' ∧ (ok3 (col3 C k I J z s) = true → ClT R C px B bt (s.1, s.2.1, colL k I J z C s.2.2) (colL k I J z C s.1) w')) := by
  obtain ⟨n1, n2, n3⟩ := ok3_and ho
  have hS := h.x.siz
  have S2 := hS.col k I J z
  have c1 : (colL k I J z C s.1).length = R * C := S2.l1
  have c3 : (colL k I J z C s.2.2).length = C * C := S2.l3
  have t1 : opL k I J z R (turnL R C s.1) = turnL R C (colL k I J z C s.1) := turn_col hk hS.l1 hI hJ
  have t3 : opL k I J z C (turnL C C s.2.2) = turnL C C (colL k I J z C s.2.2) := turn_col hk hS.l3 hI hJ
  have l1 : (opL k I J z R (turnL R C s.1)).length = C * R := by rw [opL_length, turnL_length]
  have l3 : (opL k I J z C (turnL C C s.2.2)).length = C * C := by rw [opL_length, turnL_length]
  have e1 : nums (opL k I J z R (turnL R C s.1)) = nums (colL k I J z C s.1) := by rw [t1, nums_turn c1]
  have e3 : nums (opL k I J z C (turnL C C s.2.2)) = nums (colL k I J z C s.2.2) := by rw [t3, nums_turn c3]
  have lt2 : bt < w.heap.size := by obtain ⟨⟨q, m, h1, -⟩, -, -⟩ := h; exact h1.lt
  have hc := iDoG C bt 0 px 6 I J k z (clT R C px B bt k I J z s) (fun i => if i = 0 then nums (colL k I J z C s.1) else nums (colL k I J z C s.2.2)) w (fun w' hb => h.step hb) lt2 h.x.lt (Lib.hid fun i wq hi hw hst h1 => by
    rcases i with _ | _ | i
    · obtain ⟨⟨q, m, h1, h2⟩, h3, h4⟩ := (show ClT R C px B bt s s.1 wq from hst)
      refine ⟨bt, 0, R, C * R, q, m, turnL R C s.1, opL k I J z R (turnL R C s.1), h1.p3, h2.rdS, turnL_length _ _ _, l1, h2.celA.spot, by rw [opM_case (isMat_mk hC hR (turnL_length _ _ _) (by rw [nums_turn hS.l1]; exact n1)) hop l1, e1]; rfl, rfl, rfl, le600 hC hR, fun w1 qq mm hb ho => ?_⟩
      rw [t1] at ho
      obtain ⟨qa, qu, qv, ma, mu, mv, qx⟩ := h3
      have qx1 := qx.step hb
      have hf : ∀ k, k ≠ bt → (put3 w1 bt 0 (.int .i64 C) (.int .i64 R) (.slice qq (C * R) mm)).heap[k]? = w1.heap[k]? := fun k hk => put3_far hk
      have ob : (Value.slice qq (C * R) mm).ownBlock ≠ some bt := fun e => by have := ho.lt_of e; have := h1.lt; omega
      have nb : ∀ (u : Value) ys, Own B w1 u ys → u.ownBlock ≠ some bt := fun u ys hu => hu.ne_box (h1.step hb)
      exact ⟨⟨qq, mm, ((((h1.step hb).set0 _).set1 _).set2 _), (ho.put ob).le qx.bB⟩, ⟨qa, qu, qv, ma, mu, mv, qx1.k.move (hf px (Ne.symm h4)), qx1.fA.put (nb _ _ qx1.fA), qx1.fU.put (nb _ _ qx1.fU), qx1.fV.put (nb _ _ qx1.fV), qx1.df, qx1.siz, by rw [put3_size]; exact qx1.bB⟩, h4⟩
    · obtain ⟨⟨q, m, h1, h2⟩, h3, h4⟩ := (show ClT R C px B bt s (colL k I J z C s.1) wq from hst)
      obtain ⟨qa, qu, qv, ma, mu, mv, qx⟩ := h3
      refine ⟨px, 6, C, C * C, qv, mv, turnL C C s.2.2, opL k I J z C (turnL C C s.2.2), qx.k.c, qx.fV.rdS, turnL_length _ _ _, l3, qx.fV.celA.spot, by rw [opM_case (isMat_mk hC hC (turnL_length _ _ _) (by rw [nums_turn hS.l3]; exact n3)) hop l3, e3]; rfl, rfl, rfl, le600 hC hC, fun w1 qq mm hb ho => ?_⟩
      rw [t3] at ho
      have hx := qx.putC hb ho ⟨hS.l1, hS.l2, c3, hS.m1, hS.m2, S2.m3⟩
      have h2' := h2.keep hb
      exact ⟨⟨q, m, (put3_far h4).trans (h1.step hb), h2'.put (h2'.ne9 (qx.step hb).k)⟩, hx, h4⟩
    · omega)
  refine hc.mono ?_
  rintro e w' ⟨h1, h2, h3⟩
  have ee : ((fun i => if i = 0 then nums (colL k I J z C s.1) else nums (colL k I J z C s.2.2)) 0 && (fun i => if i = 0 then nums (colL k I J z C s.1) else nums (colL k I J z C s.2.2)) 1) = ok3 (col3 C k I J z s) := by
    show (nums (colL k I J z C s.1) && nums (colL k I J z C s.2.2)) = (nums (colL k I J z C s.1) && nums s.2.1 && nums (colL k I J z C s.2.2))
    rw [n2, Bool.and_true]
  rw [ee] at h1 h3
  exact ⟨h1, h2, h3⟩
set_option maxHeartbeats 4000000 in
theorem iDoCol (R C px B I J : Nat) (k z : Int) (s : SSt) (w : World) (h : TsW R C px B s w) (hR : R ≤ 24) (hC : C ≤ 24) (ho : ok3 s = true) (hop : isOp k I J z C = true) (hk : k = 0 ∨ k = 2) (hI : I < C) (hJ : J < C) :
    Calls Try.prog 148 #[.pointer (some ⟨px, 0, none⟩), .agg #[.int .i64 k, .int .i64 I, .int .i64 J, .int .i64 z]] w (TsRes R C px B (col3 C k I J z s) w) := by
  obtain ⟨n1, n2, n3⟩ := ok3_and ho
  have hS := h.siz
  have S2 := hS.col k I J z
  have hm := isMat_mk hR hC hS.l1 n1
  have TU : Hid (∀ (a : Option Addr) (m : Nat) w', Rd w' a s.1 → Calls Try.prog 35 #[.agg #[.int .i64 R, .int .i64 C, .slice a (R * C) m]] w' (MatRes ⟨true, C, R, turnL R C s.1⟩ w')) := fun a m w' hr => by
    have := iTurn_t R C a m s.1 w' hr (by rw [hS.l1]; have := le600 hR hC; omega) hm
    rwa [hS.l1] at this
  have DC : Hid (∀ bt w', ClT R C px B bt s s.1 w' → Calls Try.prog 141 #[.agg #[.pointer (some ⟨bt, 0, none⟩), .pointer (some ⟨px, 6, none⟩)], .agg #[.int .i64 k, .int .i64 I, .int .i64 J, .int .i64 z]] w' (fun e w2 => e = .returned (.bool (ok3 (col3 C k I J z s))) ∧ FrS (fun b => b = bt ∨ b = px) w' w2 ∧ (ok3 (col3 C k I J z s) = true → ClT R C px B bt (s.1, s.2.1, colL k I J z C s.2.2) (colL k I J z C s.1) w2))) := fun bt w' h9 => iDoC R C px B bt I J k z s w' h9 hR hC ho hop hk hI hJ
  have TB : Hid (ok3 (col3 C k I J z s) = true → ∀ (a : Option Addr) (m : Nat) w', Rd w' a (turnL R C (colL k I J z C s.1)) → Calls Try.prog 35 #[.agg #[.int .i64 C, .int .i64 R, .slice a (C * R) m]] w' (MatRes ⟨true, R, C, colL k I J z C s.1⟩ w')) := fun h9 a m w' hr => by
    have hl := turnL_length R C (colL k I J z C s.1)
    have hl1 : (colL k I J z C s.1).length = R * C := S2.l1
    have hn : nums (colL k I J z C s.1) = true := (ok3_and h9).1
    have := iTurn_t C R a m (turnL R C (colL k I J z C s.1)) w' hr (by rw [hl]; have := le600 hC hR; omega) (isMat_mk hC hR hl (by rw [nums_turn hl1]; exact hn))
    rw [hl, turn_turn R C _ hl1] at this
    exact this
  have PF : Hid (∀ (w1 w2 : World) (q : Option Addr) (m : Nat), TsW R C px B (s.1, s.2.1, colL k I J z C s.2.2) w1 → Below w1.heap.size w1 w2 → Own w1.heap.size w2 (.slice q (R * C) m) (colL k I J z C s.1) → TsW R C px B (col3 C k I J z s) (put3 w2 px 0 (.int .i64 R) (.int .i64 C) (.slice q (R * C) m))) := fun w1 w2 q m h1 hb h2 => by
    obtain ⟨qa, qu, qv, ma, mu, mv, qx⟩ := h1
    exact qx.putF hb h2 S2
  have ZL : Hid ((turnL R C s.1).length = C * R ∧ (colL k I J z C s.1).length = R * C) := ⟨turnL_length _ _ _, S2.l1⟩
  obtain ⟨s9, hs9⟩ : ∃ s9, col3 C k I J z s = s9 := ⟨_, rfl⟩
  rw [hs9] at DC TB PF ⊢
  obtain ⟨z1, hz1⟩ : ∃ z1, colL k I J z C s.1 = z1 := ⟨_, rfl⟩
  rw [hz1] at DC TB PF ZL
  have W0 := Lib.hid (h.step ((Below.refl _ _).alloc (Nat.le_refl _) (.cells #[.int .i64 k, .int .i64 I, .int .i64 J, .int .i64 z] 97)))
  have LP := Lib.hid h.lt
  have BB : B ≤ w.heap.size := by obtain ⟨qa, qu, qv, ma, mu, mv, qx⟩ := h; exact qx.bB
  have BB := Lib.hid BB
  have B0 : Hid (Below w.heap.size w (w.alloc (.cells #[.int .i64 k, .int .i64 I, .int .i64 J, .int .i64 z] 97))) := (Below.refl _ _).alloc (Nat.le_refl _) _
  have K0 : Hid (Blk4 (w.alloc (.cells #[.int .i64 k, .int .i64 I, .int .i64 J, .int .i64 z] 97)) w.heap.size 97 (.int .i64 k) (.int .i64 I) (.int .i64 J) (.int .i64 z)) := Blk4.at_ _ _ _ _ _ rfl
  clear h hR hC ho hop hS S2 hm n1 n2 n3 hs9 hz1
  go_enter Try.func148, Try.ntmps148
  go_upto_region 1 with fail
  have S0 : Hid ((w.alloc (.cells #[.int .i64 k, .int .i64 I, .int .i64 J, .int .i64 z] 97)).heap.size = w.heap.size + 1) := by show _ = _; simp
  generalize w.alloc (.cells #[.int .i64 k, .int .i64 I, .int .i64 J, .int .i64 z] 97) = W1 at W0 B0 K0 S0 ⊢
  obtain ⟨qa, qu, qv, ma, mu, mv, qx⟩ := W0.out
  have QX := Lib.hid qx
  obtain ⟨c0, c1, c2, -⟩ := qx.k.all
  clear qx
  go_wp2_with fail
  refine (TU.out qa ma _ QX.out.fA.rdS).mono ?_
  rintro e w2 ⟨v, rfl, ho1, hb⟩
  obtain ⟨q2, m2, rfl, -, -⟩ := ho1.form
  have ho1 : Own W1.heap.size w2 (.slice q2 (C * R) m2) (turnL R C s.1) := by rw [← ZL.out.1]; exact ho1
  have O1 := Lib.hid ho1
  have B1 := Lib.hid (B0.out.trans (hb.mono B0.out.size))
  have W2 := Lib.hid (W0.out.step hb)
  have K1 := Lib.hid (K0.out.keep hb K0.out.lt)
  have SB := hb.size
  clear hb c0 c1 c2 QX W0 B0 K0 TU ho1
  rw [show ((turnL R C s.1).length : Nat) = C * R from ZL.out.1]
  have CT : Hid (ClT R C px B w2.heap.size s s.1 (w2.alloc (.cells #[.int .i64 C, .int .i64 R, .slice q2 (C * R) m2] 26))) :=
    ⟨⟨q2, m2, Blk3.at_ _ _ _ _ rfl, (O1.out.le (by have := S0.out; have := BB.out; omega)).keep ((Below.refl _ _).alloc (Nat.le_refl _) _)⟩, W2.out.step ((Below.refl _ _).alloc (Nat.le_refl _) _), by have := LP.out; have := S0.out; omega⟩
  have B2 := Lib.hid (B1.out.alloc (by have := S0.out; omega) (.cells #[.int .i64 C, .int .i64 R, .slice q2 (C * R) m2] 26))
  have K2 := Lib.hid (K1.out.old (.cells #[.int .i64 C, .int .i64 R, .slice q2 (C * R) m2] 26))
  have BT : Hid (w.heap.size ≤ w2.heap.size) := by show _ ≤ _; have := S0.out; omega
  clear O1 B1 W2 K1 SB
  go_upto_region 2 with fail
  obtain ⟨bt, hbt⟩ : ∃ bt, w2.heap.size = bt := ⟨_, rfl⟩
  rw [hbt] at CT BT ⊢
  generalize w2.alloc (.cells #[.int .i64 C, .int .i64 R, .slice q2 (C * R) m2] 26) = W2 at CT B2 K2 ⊢
  clear hbt
  refine wp_region_T (S := fun w' => Below W2.heap.size W2 w') (T := fun j => j == 5 || j == 6) (by kernel_rfl) (Below.refl _ _).drew (fun hH => ?_)
  refine wpAnyT_take (i := 0) (v := ?_) (by simp only [List.getElem?_toArray, List.getElem?_cons_zero]; rfl) (by kernel_rfl) (by kernel_rfl) (by kernel_rfl) (by kernel_rfl) (two_only 5 6 (by kernel_rfl) (by kernel_rfl)) (by exact fun _ _ _ h => h) (Or.inl ⟨by rfl, ?_⟩) hH ?_
  rotate_left
  · (intro wS hS; clear hS; go_simp; try rfl)
  try simp only [Act.put, List.setIfInBounds_toArray, List.set_cons_zero, List.set_cons_succ]
  refine wpAnyT_take (i := 1) (v := ?_) (by simp only [List.getElem?_toArray, List.getElem?_cons_succ, List.getElem?_cons_zero]; rfl) (by kernel_rfl) (by kernel_rfl) (by kernel_rfl) (by kernel_rfl) (two_only 5 6 (by kernel_rfl) (by kernel_rfl)) (by exact fun _ _ _ h => h) (Or.inl ⟨by rfl, ?_⟩) hH ?_
  rotate_left
  · (intro wS hS; clear hS; go_simp; try rfl)
  try simp only [Act.put, List.setIfInBounds_toArray, List.set_cons_zero, List.set_cons_succ]
  refine wpAnyT_take (i := 2) (v := ?_) (by simp only [List.getElem?_toArray, List.getElem?_cons_succ, List.getElem?_cons_zero]; rfl) (by kernel_rfl) (by kernel_rfl) (by kernel_rfl) (by kernel_rfl) (two_only 5 6 (by kernel_rfl) (by kernel_rfl)) (by exact fun _ _ _ h => h) (Or.inl ⟨by rfl, ?_⟩) hH ?_
  rotate_left
  · (intro wS hS; clear hS; go_simp; try rfl)
  try simp only [Act.put, List.setIfInBounds_toArray, List.set_cons_zero, List.set_cons_succ]
  refine wpAnyT_take (i := 3) (v := ?_) (by simp only [List.getElem?_toArray, List.getElem?_cons_succ, List.getElem?_cons_zero]; rfl) (by kernel_rfl) (by kernel_rfl) (by kernel_rfl) (by kernel_rfl) (two_only 5 6 (by kernel_rfl) (by kernel_rfl)) (by exact fun _ _ _ h => h) (Or.inl ⟨by rfl, ?_⟩) hH ?_
  rotate_left
  · (intro wS hS; clear hS; go_simp; try rfl)
  try simp only [Act.put, List.setIfInBounds_toArray, List.set_cons_zero, List.set_cons_succ]
  refine wpAnyT_take (i := 4) (v := ?_) (by simp only [List.getElem?_toArray, List.getElem?_cons_succ, List.getElem?_cons_zero]; rfl) (by kernel_rfl) (by kernel_rfl) (by kernel_rfl) (by kernel_rfl) (two_only 5 6 (by kernel_rfl) (by kernel_rfl)) (by exact fun _ _ _ h => h) (Or.inl ⟨by rfl, ?_⟩) hH ?_
  rotate_left
  · (intro wS hS; (try dsimp only at hS); obtain ⟨k1, k2, k3, k4⟩ := d0F K2.out hS; go_simp; try rfl)
  try simp only [Act.put, List.setIfInBounds_toArray, List.set_cons_zero, List.set_cons_succ]
  refine wpAnyT_ready (rs := [5]) (by kernel_rfl) (by simp) ?_
  refine AllReadyT.cons (by simp only [List.getElem?_toArray, List.getElem?_cons_succ, List.getElem?_cons_zero]; rfl) (fun K hK => ?_) AllReadyT.nil
  go_simp
  (with_reducible refine (DC.out bt _ (CT.out.step hH)).mono ?_)
  rintro e v1 ⟨rfl, hf, hs⟩
  have hH := Lib.hid hH
  try dsimp only
  refine hK.out _ _ (fun h => by cases h) ?_
  clear hK K
  try simp only [Act.put, List.setIfInBounds_toArray, List.set_cons_zero, List.set_cons_succ]
  refine wpAnyT_ready (rs := [6]) (by kernel_rfl) (by simp) ?_
  refine AllReadyT.cons (by simp only [List.getElem?_toArray, List.getElem?_cons_succ, List.getElem?_cons_zero]; rfl) (fun K hK => ?_) AllReadyT.nil
  go_simp
  try dsimp only
  refine hK.out _ _ (fun h => by cases h) ?_
  clear hK K
  try simp only [Act.put, List.setIfInBounds_toArray, List.set_cons_zero, List.set_cons_succ]
  refine wpAnyT_done (by kernel_rfl) ?_ _
  have FE : Hid (FrS (fun b => b = px) w v1) := ((FrS.of_below (p := fun b => b = px) B2.out).trans ((FrS.of_below hH.out))).transR hf (fun k hk hb => by rcases hb with e | e; exact absurd hk (by have := BT.out; omega); exact e)
  have NB := Lib.hid CT.out.ne
  have HS := Lib.hid hs
  clear hf hs hH CT B2 K2 DC
  obtain ⟨ok, hok⟩ : ∃ ok, ok3 s9 = ok := ⟨_, rfl⟩
  rw [hok] at TB HS
  have HO := Lib.hid hok
  cases ok with
  | false =>
    rw [hok]
    clear hok
    go_wp2_with fail
    go_ret
    exact ⟨by rw [HO.out]; rfl, FE.out, fun h => by rw [HO.out] at h; cases h⟩
  | true =>
    have CT2 := Lib.hid (HS.out rfl)
    obtain ⟨⟨q3, m3, h1, h2⟩, h3, h4⟩ := CT2.out
    have RD := Lib.hid h2.rdS
    have X3 := Lib.hid h3
    obtain ⟨b0, b1, b2, -, -, -⟩ := h1.all
    rw [hok]
    clear hok h1 h2 h3 h4 CT2 HS
    go_wp2_with fail
    refine (TB.out (by trivial) q3 m3 _ RD.out).mono ?_
    rintro e w4 ⟨v, rfl, ho4, hb4⟩
    obtain ⟨q4, m4, rfl, -, -⟩ := ho4.form
    have X4 := Lib.hid (X3.out.step hb4)
    have ho4 : Own v1.heap.size w4 (.slice q4 (R * C) m4) z1 := by rw [← ZL.out.2]; exact ho4
    have PT := Lib.hid (PF.out v1 w4 q4 m4 X3.out hb4 ho4)
    have FF := Lib.hid (FE.out.trans (FrS.of_below hb4))
    obtain ⟨qa', qu', qv', ma', mu', mv', qx⟩ := X4.out
    have f0 := qx.k.free 0
    have f1 := qx.k.free 1
    have f2 := qx.k.free 2
    obtain ⟨c0, c1, c2, -⟩ := qx.k.all
    rw [show (z1.length : Nat) = R * C from ZL.out.2]
    clear qx b0 b1 b2 RD X3 X4 TB PF ho4 hb4 FE
    go_wp2_with fail
    go_ret
    exact ⟨by rw [HO.out]; rfl, ((FF.out.set (a := ⟨px, 0, none⟩) (.inl rfl) _).set (a := ⟨px, 1, none⟩) (.inl rfl) _).set (a := ⟨px, 2, none⟩) (.inl rfl) _, fun _ => PT.out⟩
end Go.Proofs.Ytpelnfenfeoeeaa
end

section
/-
  Chapter 12, in the model: a cell, the row that is least in a column, whether it is alone, marks.
-/
namespace Go.Proofs.Ytpelnfenfeoeeaa
set_option maxRecDepth 100000
open Go.RowKit
theorem cell_idx {R C i j : Nat} (hR : R ≤ 24) (hC : C ≤ 24) (hi : i < R) (hj : j < C) : i * C + j < R * C ∧ IntKind.i64.wrap ((i : Int) * (C : Int)) = (i : Int) * (C : Int) ∧ IntKind.i64.wrap ((i : Int) * (C : Int) + (j : Int)) = ((i * C + j : Nat) : Int) := by
  have h1 : i * C + j < R * C := idx_lt hi hj
  have h2 : R * C ≤ 24 * 24 := Nat.mul_le_mul hR hC
  have c1 : (i : Int) * (C : Int) = ((i * C : Nat) : Int) := (Int.natCast_mul _ _).symm
  refine ⟨h1, IntWalk.i64_in _ (by rw [c1]; omega), ?_⟩
  rw [show (i : Int) * (C : Int) + (j : Int) = ((i * C + j : Nat) : Int) by rw [c1]; omega]
  exact IntWalk.i64_in _ (by omega)
theorem sAbsN (n : Int) (w : World) (h1 : -4000000000000000000 ≤ n) (h2 : n ≤ 4000000000000000000) : Calls Try.prog 100 #[.int .i64 n] w (Gives (.int .i64 (n.natAbs : Int)) w) := by
  by_cases hn : 0 ≤ n
  · refine (sAbs_p n w hn (by omega)).mono ?_
    rintro e w' ⟨rfl, rfl⟩
    exact ⟨by rw [show ((n.natAbs : Nat) : Int) = n by omega], Below.refl _ _⟩
  · have := sAbs_n (-n) w (by omega) (by omega)
    rw [Int.neg_neg] at this
    refine this.mono ?_
    rintro e w' ⟨rfl, rfl⟩
    exact ⟨by rw [show ((n.natAbs : Nat) : Int) = -n by omega], Below.refl _ _⟩
set_option maxHeartbeats 1000000 in
theorem sCel (R C : Nat) (a : Option Addr) (n m i j : Nat) (xs : List Int) (w : World) (h : Rd w a xs) (hx : xs.length = n) (hn : n = R * C) (hR : R ≤ 24) (hC : C ≤ 24) (hi : i < R) (hj : j < C) :
    Calls Try.prog 63 #[.agg #[.int .i64 R, .int .i64 C, .slice a n m], .int .i64 i, .int .i64 j] w (Gives (.int .i64 (mxC C xs i j)) w) := by
  obtain ⟨x1, x2, x3⟩ := cell_idx hR hC hi hj
  have h := h.below ((Below.refl _ _).alloc (Nat.le_refl _) (.cells #[.int .i64 R, .int .i64 C, .slice a n m] 26))
  obtain ⟨b, o, rfl, hc⟩ := h (i * C + j) (by omega)
  have V : Hid (mxC C xs i j = xs.getD (i * C + j) 0) := rfl
  obtain ⟨x, hxx⟩ : ∃ x, xs.getD (i * C + j) 0 = x := ⟨_, rfl⟩
  obtain ⟨P, hP⟩ : ∃ P, i * C + j = P := ⟨_, rfl⟩
  rw [hxx] at hc V
  rw [hP] at hc x1 x3
  have P0 : (0 : Int) ≤ (P : Int) := by omega
  have P1 : (P : Int) < (n : Int) := by omega
  rw [V.out]
  clear h hx hxx hP V hn x1
  go_enter Try.func63, Try.ntmps63
  go_wp2_with fail
  go_ret
  exact ⟨rfl, by repeat (first | exact Below.refl _ _ | refine below_drewN ?_ _ | refine Below.alloc ?_ (by simp <;> omega) _)⟩
end Go.Proofs.Ytpelnfenfeoeeaa
end

section
/-
  Chapter 12, in the model: marks in a list, an operation on a matrix and its account.
-/
namespace Go.Proofs.Ytpelnfenfeoeeaa
set_option maxRecDepth 100000
open Go.RowKit
theorem nums_bad_at {xs : List Int} {i : Nat} (hi : i < xs.length) (h : xs.getD i 0 = badN) : nums xs = false := by
  cases hn : nums xs with
  | false => rfl
  | true =>
    have := nums_at hn hi
    rw [h] at this
    exact absurd this (by unfold NumP badN; omega)
set_option maxHeartbeats 1000000 in
theorem sBads (a : Option Addr) (n m : Nat) (xs : List Int) (w : World) (h : Rd w a xs) (hx : xs.length = n) (hn : n ≤ 16777216) (hm : MkOr xs) :
    Calls Try.prog 111 #[.slice a n m] w (Gives (.bool (!nums xs)) w) := by
  have VB : Hid (∀ i, i < n → xs.getD i 0 = badN → nums xs = false) := fun i h1 h2 => nums_bad_at (by omega) h2
  have VT : Hid ((∀ i, i < n → xs.getD i 0 ≠ badN) → nums xs = true) := fun h2 => nums_true fun p hp => (hm p).resolve_left (h2 p (by omega))
  have RA : Hid (Rd w a xs) := h
  have XL := Lib.hid hx
  generalize nums xs = bb at VB VT ⊢
  clear h hx hm
  go_enter Try.func111, Try.ntmps111
  go_wp2_with fail
  go_loopw [2, 3] (fun _ v3 wr => ∃ i : Nat, v3 = .int .i64 i ∧ i ≤ n ∧ (∀ k, k < i → xs.getD k 0 ≠ badN) ∧ Below w.heap.size w wr) (fun _ v3 _ => n - (intOf v3).toNat)
  case atStart => exact ⟨0, rfl, Nat.zero_le _, fun k hk => by omega, Below.refl _ _⟩
  case round =>
    obtain ⟨i, rfl, hi, hk, hB⟩ := hrel
    have HK := Lib.hid hk
    have B := Lib.hid hB
    clear hk hB
    by_cases hlt : i < n
    · obtain ⟨b, o, rfl, hc⟩ := (RA.out.below B.out) i (by rw [XL.out]; exact hlt)
      have VBi : Hid (xs.getD i 0 = badN → bb = false) := fun h => VB.out i hlt h
      have HK2 : Hid (xs.getD i 0 ≠ badN → ∀ k, k < i + 1 → xs.getD k 0 ≠ badN) := fun h0 k h1 => by
        rcases Nat.lt_or_ge k i with h4 | h4
        · exact HK.out k h4
        · obtain rfl : k = i := by omega
          exact h0
      generalize xs.getD i 0 = z at hc VBi HK2
      have i1 : (i : Int) < (n : Int) := by omega
      by_cases hz : z = badN
      · have V := Lib.hid (VBi.out hz)
        have n2 : (z == -4611686018427387904) = true := by rw [hz]; rfl
        clear hz
        go_wp2_with fail
        go_ret
        exact ⟨by rw [V.out]; rfl, B.out⟩
      · have n2 : (z == -4611686018427387904) = false := by rw [beq_eq_false_iff_ne]; exact hz
        have HK3 := Lib.hid (HK2.out hz)
        clear hz
        go_wp2_with fail
        go_roundw
        case rel => exact ⟨i + 1, by go_num, by omega, HK3.out, B.out⟩
        case measure => simp [intOf]; omega
    · obtain rfl : i = n := by omega
      have V := Lib.hid (VT.out HK.out)
      go_wp2_with fail
      go_ret
      exact ⟨by rw [V.out]; rfl, B.out⟩
set_option maxHeartbeats 2000000 in
theorem sOps (R C Iq J ga gu na nu ca cu : Nat) (k z : Int) (s : HSt) (w : World) (ha : Ints w ga s.1) (hu : Ints w gu s.2) (hne : ga ≠ gu) (hx : s.1.length = na) (hna : na = R * C) (hy : s.2.length = nu) (hnu : nu = R * R) (hR : R ≤ 24) (hC : C ≤ 24) (hI : Iq < R) (hJ : J < R) (hk : k = 0 ∨ k = 1 ∨ k = 2) (hIJ : k = 0 → Iq ≠ J) :
    Calls Try.prog 108 #[.agg #[.int .i64 R, .int .i64 C, .slice (some ⟨ga, 0, none⟩) na ca], .agg #[.int .i64 R, .int .i64 R, .slice (some ⟨gu, 0, none⟩) nu cu], .agg #[.int .i64 k, .int .i64 Iq, .int .i64 J, .int .i64 z]] w
      (fun e w' => Void e ∧ Ints w' ga (op2 R C k Iq J z s).1 ∧ Ints w' gu (op2 R C k Iq J z s).2 ∧ FrS (fun b => b = ga ∨ b = gu) w w') := by
  have D1 : Hid (∀ w', Ints w' ga s.1 → Calls Try.prog 144 #[.agg #[.int .i64 R, .int .i64 C, .slice (some ⟨ga, 0, none⟩) na ca], .agg #[.int .i64 k, .int .i64 Iq, .int .i64 J, .int .i64 z]] w' (fun e w2 => Void e ∧ Ints w2 ga (opL k Iq J z C s.1) ∧ w'.grownBy w2 (some ga))) := fun w' hi => sDo R C Iq J ga na ca k z s.1 w' hi hx hna hR hC hI hJ hk hIJ
  have D2 : Hid (∀ w', Ints w' gu s.2 → Calls Try.prog 144 #[.agg #[.int .i64 R, .int .i64 R, .slice (some ⟨gu, 0, none⟩) nu cu], .agg #[.int .i64 k, .int .i64 Iq, .int .i64 J, .int .i64 z]] w' (fun e w2 => Void e ∧ Ints w2 gu (opL k Iq J z R s.2) ∧ w'.grownBy w2 (some gu))) := fun w' hi => sDo R R Iq J gu nu cu k z s.2 w' hi hy hnu hR hR hI hJ hk hIJ
  have la := ha.lt
  have lu := hu.lt
  have A0 := Lib.hid (((ha.old (.cells #[.int .i64 R, .int .i64 C, .slice (some ⟨ga, 0, none⟩) na ca] 26)).old (.cells #[.int .i64 R, .int .i64 R, .slice (some ⟨gu, 0, none⟩) nu cu] 26)).old (.cells #[.int .i64 k, .int .i64 Iq, .int .i64 J, .int .i64 z] 97))
  have U0 := Lib.hid (((hu.old (.cells #[.int .i64 R, .int .i64 C, .slice (some ⟨ga, 0, none⟩) na ca] 26)).old (.cells #[.int .i64 R, .int .i64 R, .slice (some ⟨gu, 0, none⟩) nu cu] 26)).old (.cells #[.int .i64 k, .int .i64 Iq, .int .i64 J, .int .i64 z] 97))
  have F0 : Hid (FrS (fun b => b = ga ∨ b = gu) w (((w.alloc (.cells #[.int .i64 R, .int .i64 C, .slice (some ⟨ga, 0, none⟩) na ca] 26)).alloc (.cells #[.int .i64 R, .int .i64 R, .slice (some ⟨gu, 0, none⟩) nu cu] 26)).alloc (.cells #[.int .i64 k, .int .i64 Iq, .int .i64 J, .int .i64 z] 97))) := (((FrS.refl _ _).alloc _).alloc _).alloc _
  have K3 : Hid (Blk3 (((w.alloc (.cells #[.int .i64 R, .int .i64 C, .slice (some ⟨ga, 0, none⟩) na ca] 26)).alloc (.cells #[.int .i64 R, .int .i64 R, .slice (some ⟨gu, 0, none⟩) nu cu] 26)).alloc (.cells #[.int .i64 k, .int .i64 Iq, .int .i64 J, .int .i64 z] 97)) (w.heap.size + 1) 26 (.int .i64 R) (.int .i64 R) (.slice (some ⟨gu, 0, none⟩) nu cu)) := (Blk3.at_ _ _ _ _ (by simp)).old _
  have K4 : Hid (Blk4 (((w.alloc (.cells #[.int .i64 R, .int .i64 C, .slice (some ⟨ga, 0, none⟩) na ca] 26)).alloc (.cells #[.int .i64 R, .int .i64 R, .slice (some ⟨gu, 0, none⟩) nu cu] 26)).alloc (.cells #[.int .i64 k, .int .i64 Iq, .int .i64 J, .int .i64 z] 97)) (w.heap.size + 2) 97 (.int .i64 k) (.int .i64 Iq) (.int .i64 J) (.int .i64 z)) := Blk4.at_ _ _ _ _ _ (by simp)
  show Calls Try.prog _ _ w (fun e w' => Void e ∧ Ints w' ga (opL k Iq J z C s.1) ∧ Ints w' gu (opL k Iq J z R s.2) ∧ FrS (fun b => b = ga ∨ b = gu) w w')
  have n1 : w.heap.size + 1 ≠ ga := by omega
  have n2 : w.heap.size + 2 ≠ ga := by omega
  clear ha hu hx hy hna hnu
  go_enter Try.func108, Try.ntmps108
  go_wp2_with fail
  generalize ((w.alloc (.cells #[.int .i64 R, .int .i64 C, .slice (some ⟨ga, 0, none⟩) na ca] 26)).alloc (.cells #[.int .i64 R, .int .i64 R, .slice (some ⟨gu, 0, none⟩) nu cu] 26)).alloc (.cells #[.int .i64 k, .int .i64 Iq, .int .i64 J, .int .i64 z] 97) = W at A0 U0 F0 K3 K4 ⊢
  refine (D1.out W A0.out).mono ?_
  rintro e w1 ⟨rfl, hi, hg⟩
  have A1 := Lib.hid hi
  have U1 := Lib.hid (U0.out.one hg (Ne.symm hne))
  have F1 := Lib.hid (F0.out.trans (FrS.of_one (p := fun b => b = ga ∨ b = gu) hg (.inl rfl)))
  have K31 := Lib.hid (K3.out.keepOne hg n1)
  have K41 := Lib.hid (K4.out.keepOne hg n2)
  obtain ⟨p0, p1, p2, -, -, -⟩ := K31.out.all
  have q0 := K41.out.cell0
  have q1 := K41.out.cell1
  have q2 := K41.out.cell2
  have q3 := K41.out.cell3
  clear hi hg A0 U0 F0 K3 K4
  go_wp2_with fail
  refine (D2.out w1 U1.out).mono ?_
  rintro e w2 ⟨rfl, hi, hg⟩
  have A2 := Lib.hid (A1.out.one hg hne)
  have U2 := Lib.hid hi
  have F2 := Lib.hid (F1.out.trans (FrS.of_one (p := fun b => b = ga ∨ b = gu) hg (.inr rfl)))
  clear hi hg
  go_wp2_with fail
  go_end0
  exact ⟨rfl, A2.out, U2.out, F2.out⟩
end Go.Proofs.Ytpelnfenfeoeeaa
end
