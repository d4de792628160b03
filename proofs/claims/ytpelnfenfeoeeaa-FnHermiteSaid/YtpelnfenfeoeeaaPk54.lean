/-
  Texts of this seat, joined: ZCDoG · ZCAcD · ZCNumIDiv · ZCAcX · ZCLsI · ZCSgMath · ZCNumGD · ZCLdI · ZCAlI · ZCAcL · ZCAcP · ZCPmI · ZCPvR · ZCMatI3
-/
import Derived.Deep.RegionHeld3
import Derived.Deep.DeepCutAuto
import Derived.Test.YtpelnfenfeoeeaaRows
import Derived.WalkKit
import Derived.BigQuiet
import Derived.Deep.QuietTactic
import Derived.Lib.Hide
import Derived.IntWalk
import Derived.StillTailTactics
import Derived.Test.YtpelnfenfeoeeaaPk46
import Derived.Test.YtpelnfenfeoeeaaPk47
import Derived.Test.YtpelnfenfeoeeaaPk48
import Derived.Test.YtpelnfenfeoeeaaPk50
import Derived.Test.YtpelnfenfeoeeaaPk51
import Derived.Test.YtpelnfenfeoeeaaPk53

section
/-
  Chapters 12 and 13, in the program: one row operation done to two matrices, each behind a pointer to anywhere.
-/
namespace Go.Proofs.Ytpelnfenfeoeeaa
set_option maxRecDepth 100000
open Go.RowKit
structure P3 (w : World) (b o : Nat) (x y v : Value) : Prop where
  lt : b < w.heap.size
  c0 : w.cell? ⟨b, o, none⟩ = some x
  c1 : w.cell? ⟨b, o + 1, none⟩ = some y
  c2 : w.cell? ⟨b, o + 2, none⟩ = some v
  f0 : w.frozen? ⟨b, o, none⟩ = false
  f1 : w.frozen? ⟨b, o + 1, none⟩ = false
  f2 : w.frozen? ⟨b, o + 2, none⟩ = false
theorem P3.keep {w w' : World} {b o : Nat} {x y v : Value} (h : P3 w b o x y v) (hb : Below w.heap.size w w') : P3 w' b o x y v :=
  ⟨Nat.lt_of_lt_of_le h.lt hb.size, (hb.cell (p := ⟨b, o, none⟩) h.lt).trans h.c0, (hb.cell (p := ⟨b, o + 1, none⟩) h.lt).trans h.c1, (hb.cell (p := ⟨b, o + 2, none⟩) h.lt).trans h.c2, (hb.frozen (p := ⟨b, o, none⟩) h.lt).trans h.f0, (hb.frozen (p := ⟨b, o + 1, none⟩) h.lt).trans h.f1, (hb.frozen (p := ⟨b, o + 2, none⟩) h.lt).trans h.f2⟩
theorem Blk3.p3 {w : World} {b : Nat} {t : TypeId} {x y v : Value} (h : Blk3 w b t x y v) : P3 w b 0 x y v := ⟨h.lt, h.cell0, h.cell1, h.cell2, h.free _, h.free _, h.free _⟩
def put3 (w : World) (b o : Nat) (x y v : Value) : World := ((w.setCell ⟨b, o, none⟩ x).setCell ⟨b, o + 1, none⟩ y).setCell ⟨b, o + 2, none⟩ v
structure DoM (bf vf ba va : Nat) (k : Int) (I J : Nat) (z : Int) (w : World) (wq : World) : Prop where
  op : Blk4 wq (w.heap.size + 1) 97 (.int .i64 k) (.int .i64 I) (.int .i64 J) (.int .i64 z)
  pt : Blk2 wq (w.heap.size + 1 + 1) 91 (.pointer (some ⟨bf, vf, none⟩)) (.pointer (some ⟨ba, va, none⟩))
  fr : FrS (fun b => b = bf ∨ b = ba) w wq
theorem Blk4.farA {w : World} {b : Nat} {t : TypeId} {p q r s : Value} (h : Blk4 w b t p q r s) {a : Addr} (ha : b ≠ a.block) (u : Value) : Blk4 (w.setCell a u) b t p q r s := (Below.heap_setCell w a u b ha).trans h
theorem DoM.start (bf vf ba va : Nat) (k : Int) (I J : Nat) (z : Int) (w : World) : DoM bf vf ba va k I J z w (((w.alloc (.cells #[.pointer (some ⟨bf, vf, none⟩), .pointer (some ⟨ba, va, none⟩)] 93)).alloc (.cells #[.int .i64 k, .int .i64 I, .int .i64 J, .int .i64 z] 97)).alloc (.cells #[.pointer (some ⟨bf, vf, none⟩), .pointer (some ⟨ba, va, none⟩)] 91)) :=
  ⟨(Blk4.at_ _ _ _ _ _ (by simp)).old _, Blk2.at_ _ _ _ (by simp), (((FrS.refl _ _).alloc _).alloc _).alloc _⟩
theorem DoM.put {bf vf ba va : Nat} {k : Int} {I J : Nat} {z : Int} {w wr we : World} (h : DoM bf vf ba va k I J z w wr) (hb : Below wr.heap.size wr we) {bx ox : Nat} (hx : bx = bf ∨ bx = ba) (l1 : bf < w.heap.size) (l2 : ba < w.heap.size) (x y v : Value) :
    DoM bf vf ba va k I J z w (put3 we bx ox x y v) := by
  have n1 : w.heap.size + 1 ≠ bx := by omega
  have n2 : w.heap.size + 1 + 1 ≠ bx := by omega
  have hf : FrS (fun b => b = bf ∨ b = ba) w we := h.fr.trans (FrS.of_below hb)
  exact ⟨Blk4.farA (a := ⟨bx, ox + 2, none⟩) (Blk4.farA (a := ⟨bx, ox + 1, none⟩) (Blk4.farA (a := ⟨bx, ox, none⟩) (h.op.keep hb h.op.lt) n1 _) n1 _) n1 _, (((h.pt.keep hb h.pt.lt).far (a := ⟨bx, ox, none⟩) n2 _).far (a := ⟨bx, ox + 1, none⟩) n2 _).far (a := ⟨bx, ox + 2, none⟩) n2 _, ((hf.set (a := ⟨bx, ox, none⟩) (.inl hx) _).set (a := ⟨bx, ox + 1, none⟩) (.inl hx) _).set (a := ⟨bx, ox + 2, none⟩) (.inl hx) _⟩
theorem doF {W w' : World} {b o c : Nat} {t2 : TypeId} {x y v p q r s : Value} (h : P3 W b o x y v) (h' : Blk4 W c t2 p q r s) (hb : Below W.heap.size W w') :
    w'.cell? ⟨b, o, none⟩ = some x ∧ w'.cell? ⟨b, o + 1, none⟩ = some y ∧ w'.cell? ⟨b, o + 2, none⟩ = some v ∧ w'.cell? ⟨c, 0, none⟩ = some p ∧ w'.cell? ⟨c, 1, none⟩ = some q ∧ w'.cell? ⟨c, 2, none⟩ = some r ∧ w'.cell? ⟨c, 3, none⟩ = some s := by
  have h := h.keep hb
  obtain ⟨b1, b2, b3, b4⟩ := (h'.keep hb h'.lt).all
  exact ⟨h.c0, h.c1, h.c2, b1, b2, b3, b4⟩
structure DoAtG (R bf vf ba va : Nat) (k : Int) (I J : Nat) (z : Int) (ST : Nat → World → Prop) (g : Nat → Bool) (i : Nat) (w : World) (bx ox cx nx : Nat) (qx : Option Addr) (mx : Nat) (xs zs : List Int) : Prop where
  blk : P3 w bx ox (.int .i64 R) (.int .i64 cx) (.slice qx nx mx)
  rd : Rd w qx xs
  lx : xs.length = nx
  lz : zs.length = nx
  spot : Spot qx
  op : opM k I J z R cx xs = if g i = true then ⟨true, R, cx, zs⟩ else MR.no
  eb : bx = if i = 0 then bf else ba
  eo : ox = if i = 0 then vf else va
  l6 : nx ≤ 600
  next : ∀ w1 q m, Below w.heap.size w w1 → Own w.heap.size w1 (.slice q nx m) zs → ST (i + 1) (put3 w1 bx ox (.int .i64 R) (.int .i64 cx) (.slice q nx m))
def DoResG (bf ba : Nat) (ok : Bool) (S : World → Prop) (w : World) (e : Ending) (w' : World) : Prop :=
  e = .returned (.bool ok) ∧ FrS (fun b => b = bf ∨ b = ba) w w' ∧ (ok = true → S w')
set_option maxHeartbeats 8000000 in
theorem iDoG (R bf vf ba va I J : Nat) (k z : Int) (ST : Nat → World → Prop) (g : Nat → Bool) (w : World) (h0 : ∀ w', Below w.heap.size w w' → ST 0 w') (l1 : bf < w.heap.size) (l2 : ba < w.heap.size)
    (DA : Hid (∀ i wq, i < 2 → w.heap.size ≤ wq.heap.size → ST i wq → (i = 1 → g 0 = true) → ∃ bx ox cx nx qx mx xs zs, DoAtG R bf vf ba va k I J z ST g i wq bx ox cx nx qx mx xs zs)) :
    Calls Try.prog 141 #[.agg #[.pointer (some ⟨bf, vf, none⟩), .pointer (some ⟨ba, va, none⟩)], .agg #[.int .i64 k, .int .i64 I, .int .i64 J, .int .i64 z]] w (DoResG bf ba (g 0 && g 1) (ST 2) w) := by
  have HL := Lib.hid (And.intro l1 l2)
  have OP : Hid (∀ (cx : Nat) (qx : Option Addr) (mx : Nat) (xs : List Int) w', Rd w' qx xs → xs.length ≤ 600 → Spot qx → Calls Try.prog 162 #[.agg #[.int .i64 R, .int .i64 cx, .slice qx xs.length mx], .agg #[.int .i64 k, .int .i64 I, .int .i64 J, .int .i64 z]] w' (MatRes (opM k I J z R cx xs) w')) := fun cx qx mx xs w' h1 h2 h3 => iOp k I J z R cx qx mx xs w' h1 (by omega) h3
  have D0 := Lib.hid (DoM.start bf vf ba va k I J z w)
  have W0 : Hid (ST 0 (((w.alloc (.cells #[.pointer (some ⟨bf, vf, none⟩), .pointer (some ⟨ba, va, none⟩)] 93)).alloc (.cells #[.int .i64 k, .int .i64 I, .int .i64 J, .int .i64 z] 97)).alloc (.cells #[.pointer (some ⟨bf, vf, none⟩), .pointer (some ⟨ba, va, none⟩)] 91))) := Lib.hid (h0 _ ((((Below.refl _ _).alloc (Nat.le_refl _) _).alloc (by simp) _).alloc (by simp <;> omega) _))
  have GD : Hid (∀ i, i < 2 → (i = 1 → g 0 = true) → g i = false → (g 0 && g 1) = false) := fun i hi h1 h2 => by
    rcases i with _ | _ | i
    · rw [h2]; rfl
    · rw [h2, Bool.and_false]
    · omega
  have RES : Hid (∀ e w', e = .returned (.bool (g 0 && g 1)) ∧ FrS (fun b => b = bf ∨ b = ba) w w' ∧ ((g 0 && g 1) = true → ST 2 w') → DoResG bf ba (g 0 && g 1) (ST 2) w e w') := fun e w' h9 => h9
  clear h0 l1 l2
  go_enter Try.func141, Try.ntmps141
  go_upto_region 2 with fail
  generalize ((w.alloc (.cells #[.pointer (some ⟨bf, vf, none⟩), .pointer (some ⟨ba, va, none⟩)] 93)).alloc (.cells #[.int .i64 k, .int .i64 I, .int .i64 J, .int .i64 z] 97)).alloc (.cells #[.pointer (some ⟨bf, vf, none⟩), .pointer (some ⟨ba, va, none⟩)] 91) = W3 at D0 W0 ⊢
  go_loopw [4, 6, 7, 8, 15] (fun _ _ _ _ v15 wq => ∃ i : Nat, v15 = .int .i64 i ∧ i ≤ 2 ∧ (1 ≤ i → g 0 = true) ∧ (2 ≤ i → g 1 = true) ∧ ST i wq ∧ DoM bf vf ba va k I J z w wq) (fun _ _ _ _ v15 _ => 2 - (intOf v15).toNat)
  case atStart => exact ⟨0, rfl, by omega, fun h => by omega, fun h => by omega, W0.out, D0.out⟩
  case round =>
    clear W0 D0
    obtain ⟨i, rfl, hi, hg0, hg1, hw, hd⟩ := hrel
    have WS := Lib.hid hw
    have DM := Lib.hid hd
    have H0 := Lib.hid hg0
    have H1 := Lib.hid hg1
    clear hw hd hg0 hg1
    by_cases hi2 : i < 2
    rotate_left
    · obtain rfl : i = 2 := by omega
      have V : Hid ((g 0 && g 1) = true) := by refine Lib.hid ?_; rw [H0.out (by omega), H1.out (by omega)]; rfl
      have WE := WS.out
      have FE := DM.out.fr
      clear hi2 hi
      go_wp2_with fail
      go_ret
      exact RES.out _ _ ⟨by rw [V.out]; rfl, FE, fun _ => WE⟩
    have HI := Lib.hid hi2
    obtain ⟨bx, ox, cx, nx, qx, mx, xs, zs, hD⟩ := DA.out i wr hi2 DM.out.fr.size WS.out (fun h => H0.out (by omega))
    have D := Lib.hid hD
    have KX := Lib.hid hD.blk
    have KO := Lib.hid DM.out.op
    have hbx : Hid (bx = bf ∨ bx = ba) := by
      refine Lib.hid ?_
      rw [hD.eb]
      split
      · exact .inl rfl
      · exact .inr rfl
    have PC : wr.cell? ⟨w.heap.size + 1 + 1, i, none⟩ = some (.pointer (some ⟨bx, ox, none⟩)) := by
      have e := hD.eb
      have e2 := hD.eo
      rcases i with _ | _ | i
      · rw [e, e2]; exact DM.out.pt.cell0
      · rw [e, e2]; exact DM.out.pt.cell1
      · omega
    have OX : Hid (∀ w', Below wr.heap.size wr w' → Calls Try.prog 162 #[.agg #[.int .i64 R, .int .i64 cx, .slice qx nx mx], .agg #[.int .i64 k, .int .i64 I, .int .i64 J, .int .i64 z]] w' (MatRes (opM k I J z R cx xs) w')) := fun w' hb => by
      have := OP.out cx qx mx xs w' (D.out.rd.below hb) (by rw [D.out.lx]; exact D.out.l6) D.out.spot
      rw [D.out.lx] at this
      exact this
    obtain ⟨mr, hmr⟩ : ∃ mr, opM k I J z R cx xs = mr := ⟨_, rfl⟩
    rw [hmr] at OX
    have MR : Hid (mr = if g i = true then ⟨true, R, cx, zs⟩ else MR.no) := by refine Lib.hid ?_; rw [← hmr]; exact D.out.op
    have Pa : (0 : Int) ≤ (i : Int) := by omega
    have Pb : (i : Int) < 2 := by omega
    have S1 : ∀ n : Nat, (⟨bx, ox, none⟩ : Addr).add (n + 1) = ⟨bx, ox + (n + 1), none⟩ := fun n => by simp [Addr.add]
    clear hmr hD WS DA OP
    go_upto_region 4 with fail
    clear PC Pa Pb
    refine wp_region_held_drew (S := fun w' => Below wr.heap.size wr w') (by kernel_rfl) (Below.refl _ _).drew (fun hH => ?_)
    refine wpAnyH_take (i := 0) (v := ?_) (by simp only [List.getElem?_toArray, List.getElem?_cons_zero]; rfl) (by kernel_rfl) (by kernel_rfl) (by kernel_rfl) (by exact fun _ _ _ h => h) (Or.inl ⟨by rfl, ?_⟩) hH ?_
    rotate_left
    · (intro wS hS; (try dsimp only at hS); obtain ⟨k1, k2, k3, k4, k5, k6, k7⟩ := doF KX.out KO.out hS; go_simp; try rfl)
    try simp only [Act.put, List.setIfInBounds_toArray, List.set_cons_zero, List.set_cons_succ]
    refine wpAnyH_take (i := 1) (v := ?_) (by simp only [List.getElem?_toArray, List.getElem?_cons_succ, List.getElem?_cons_zero]; rfl) (by kernel_rfl) (by kernel_rfl) (by kernel_rfl) (by exact fun _ _ _ h => h) (Or.inl ⟨by rfl, ?_⟩) hH ?_
    rotate_left
    · (intro wS hS; (try dsimp only at hS); obtain ⟨k1, k2, k3, k4, k5, k6, k7⟩ := doF KX.out KO.out hS; go_simp; try rfl)
    try simp only [Act.put, List.setIfInBounds_toArray, List.set_cons_zero, List.set_cons_succ]
    refine wpAnyH_take (i := 2) (v := ?_) (by simp only [List.getElem?_toArray, List.getElem?_cons_succ, List.getElem?_cons_zero]; rfl) (by kernel_rfl) (by kernel_rfl) (by kernel_rfl) (by exact fun _ _ _ h => h) (Or.inl ⟨by rfl, ?_⟩) hH ?_
    rotate_left
    · (intro wS hS; (try dsimp only at hS); obtain ⟨k1, k2, k3, k4, k5, k6, k7⟩ := doF KX.out KO.out hS; go_simp; try rfl)
    try simp only [Act.put, List.setIfInBounds_toArray, List.set_cons_zero, List.set_cons_succ]
    refine wpAnyH_take (i := 3) (v := ?_) (by simp only [List.getElem?_toArray, List.getElem?_cons_succ, List.getElem?_cons_zero]; rfl) (by kernel_rfl) (by kernel_rfl) (by kernel_rfl) (by exact fun _ _ _ h => h) (Or.inl ⟨by rfl, ?_⟩) hH ?_
    rotate_left
    · (intro wS hS; (try dsimp only at hS); obtain ⟨k1, k2, k3, k4, k5, k6, k7⟩ := doF KX.out KO.out hS; go_simp; try rfl)
    try simp only [Act.put, List.setIfInBounds_toArray, List.set_cons_zero, List.set_cons_succ]
    refine wpAnyH_ready (rs := [4, 8]) (by kernel_rfl) (by simp) ?_
    refine AllReadyH.cons (by simp only [List.getElem?_toArray, List.getElem?_cons_succ, List.getElem?_cons_zero]; rfl) (fun K hK => ?_) (AllReadyH.cons (by simp only [List.getElem?_toArray, List.getElem?_cons_succ, List.getElem?_cons_zero]; rfl) (fun K hK => ?_) AllReadyH.nil)
    · go_simp
      have hs1 := hH.size
      (with_reducible refine (OX.out _ hH).mono ?_)
      rintro e v1 ⟨v, rfl, ho1, hb1⟩
      replace ho1 := ho1.le hs1
      obtain ⟨q2, qc2, rfl, -, -⟩ := ho1.form
      try dsimp only
      refine hK.out _ _ ?_ (fun hH2 => ?_)
      · exact hH.trans (hb1.mono hH.size)
      clear hK K
      have hO := hH
      clear hH
      have hH := hH2
      clear hH2
      try simp only [Act.put, List.setIfInBounds_toArray, List.set_cons_zero, List.set_cons_succ]
      have z1 := hb1.size
      refine wpAnyH_take (i := 5) (v := ?_) (by simp only [List.getElem?_toArray, List.getElem?_cons_succ, List.getElem?_cons_zero]; rfl) (by kernel_rfl) (by kernel_rfl) (by kernel_rfl) (by exact fun _ _ _ h => h) (Or.inl ⟨by rfl, ?_⟩) hH ?_
      rotate_left
      · (intro wS hS; clear hS; go_simp; try rfl)
      try simp only [Act.put, List.setIfInBounds_toArray, List.set_cons_zero, List.set_cons_succ]
      refine wpAnyH_take (i := 6) (v := ?_) (by simp only [List.getElem?_toArray, List.getElem?_cons_succ, List.getElem?_cons_zero]; rfl) (by kernel_rfl) (by kernel_rfl) (by kernel_rfl) (by exact fun _ _ _ h => h) (Or.inl ⟨by rfl, ?_⟩) hH ?_
      rotate_left
      · (intro wS hS; clear hS; go_simp; try rfl)
      try simp only [Act.put, List.setIfInBounds_toArray, List.set_cons_zero, List.set_cons_succ]
      refine wpAnyH_take (i := 7) (v := ?_) (by simp only [List.getElem?_toArray, List.getElem?_cons_succ, List.getElem?_cons_zero]; rfl) (by kernel_rfl) (by kernel_rfl) (by kernel_rfl) (by exact fun _ _ _ h => h) (Or.inl ⟨by rfl, ?_⟩) hH ?_
      rotate_left
      · (intro wS hS; clear hS; go_simp; try rfl)
      try simp only [Act.put, List.setIfInBounds_toArray, List.set_cons_zero, List.set_cons_succ]
      refine wpAnyH_ready (rs := [8]) (by kernel_rfl) (by simp) ?_
      refine AllReadyH.cons (by simp only [List.getElem?_toArray, List.getElem?_cons_succ, List.getElem?_cons_zero]; rfl) (fun K hK => ?_) AllReadyH.nil
      go_simp
      have VB : Hid (Blk3 (v1.alloc (.cells #[.int .i64 0, .int .i64 0, .slice none 0 0] 26)) v1.heap.size 26 (.int .i64 0) (.int .i64 0) (.slice none 0 0)) := Blk3.at_ _ _ _ _ rfl
      have PL : wr.heap.size ≤ v1.heap.size := hH.size
      try dsimp only
      refine hK.out _ _ ?_ (fun hH2 => ?_)
      · exact hH.alloc hH.size _
      clear hK K
      have hO := hH
      clear hH
      have hH := hH2
      clear hH2
      try simp only [Act.put, List.setIfInBounds_toArray, List.set_cons_zero, List.set_cons_succ]
      refine wpAnyH_ready (rs := [9]) (by kernel_rfl) (by simp) ?_
      refine AllReadyH.cons (by simp only [List.getElem?_toArray, List.getElem?_cons_succ, List.getElem?_cons_zero]; rfl) (fun K hK => ?_) AllReadyH.nil
      go_simp
      have VB : Hid (Blk3 (v1.alloc (.cells #[.int .i64 mr.r, .int .i64 mr.c, .slice q2 mr.zs.length qc2] 26)) v1.heap.size 26 (.int .i64 mr.r) (.int .i64 mr.c) (.slice q2 mr.zs.length qc2)) := Blk3.at_ _ _ _ _ rfl
      try dsimp only
      refine hK.out _ _ ?_ (fun hH2 => ?_)
      · exact hO.alloc hO.size _
      clear hK K
      have hO := hH
      clear hH
      have hH := hH2
      clear hH2
      try simp only [Act.put, List.setIfInBounds_toArray, List.set_cons_zero, List.set_cons_succ]
      refine wpAnyH_take (i := 10) (v := ?_) (by simp only [List.getElem?_toArray, List.getElem?_cons_succ, List.getElem?_cons_zero]; rfl) (by kernel_rfl) (by kernel_rfl) (by kernel_rfl) (by exact fun _ _ _ h => h) (Or.inl ⟨by rfl, ?_⟩) hH ?_
      rotate_left
      · (intro wS hS; clear hS; go_simp; try rfl)
      try simp only [Act.put, List.setIfInBounds_toArray, List.set_cons_zero, List.set_cons_succ]
      refine wpAnyH_done (by kernel_rfl) ?_ _
      have O2 := ho1.keep ((Below.refl _ _).alloc (Nat.le_refl _) (.cells #[.int .i64 mr.r, .int .i64 mr.c, .slice q2 mr.zs.length qc2] 26))
      obtain ⟨we, hwe⟩ : ∃ we, v1.alloc (.cells #[.int .i64 mr.r, .int .i64 mr.c, .slice q2 mr.zs.length qc2] 26) = we := ⟨_, rfl⟩
      rw [hwe] at hH VB O2 ⊢
      clear hwe
      obtain ⟨fx, hfx⟩ : ∃ fx, g i = fx := ⟨_, rfl⟩
      rw [hfx] at MR
      have HF := Lib.hid hfx
      clear hfx
      cases fx with
      | true =>
        have e := MR.out
        rw [if_pos rfl] at e
        subst e
        have KE := Lib.hid (KX.out.keep hH)
        obtain ⟨y0, y1, y2, -, -, -⟩ := VB.out.all
        obtain ⟨xlt, x0, x1, x2, xf0, xf1, xf2⟩ := KE.out
        have O2 := Lib.hid O2
        have HE := Lib.hid hH
        clear hH
        go_wp2_with fail
        go_roundw
        case rel =>
          refine ⟨i + 1, by go_num, by omega, fun h => ?_, fun h => ?_, ?_, DM.out.put HE.out hbx.out HL.out.1 HL.out.2 _ _ _⟩
          · rcases Nat.eq_zero_or_pos i with h0 | h0
            · rw [← h0]; exact HF.out
            · exact H0.out h0
          · obtain rfl : i = 1 := by have := HI.out; omega
            exact HF.out
          · have O3 := O2.out
            have lz : zs.length = nx := D.out.lz
            dsimp only at O3 ⊢
            rw [lz] at O3 ⊢
            exact D.out.next we q2 qc2 HE.out O3
        case measure => simp [intOf]; omega
      | false =>
        have e := MR.out
        rw [if_neg (by decide)] at e
        subst e
        have V := Lib.hid (GD.out i HI.out (fun h => H0.out (by omega)) HF.out)
        have FE := Lib.hid (DM.out.fr.trans (FrS.of_below hH))
        clear hH O2
        go_wp2_with fail
        go_ret
        exact RES.out _ _ ⟨by rw [V.out]; rfl, FE.out, fun h9 => by rw [V.out] at h9; cases h9⟩
    · go_simp
      have VB : Hid (Blk3 (wr.drew.alloc (.cells #[.int .i64 0, .int .i64 0, .slice none 0 0] 26)) wr.heap.size 26 (.int .i64 0) (.int .i64 0) (.slice none 0 0)) := Blk3.at_ _ _ _ _ rfl
      have PL : wr.heap.size ≤ wr.drew.heap.size := hH.size
      try dsimp only
      refine hK.out _ _ ?_ (fun hH2 => ?_)
      · exact hH.alloc hH.size _
      clear hK K
      have hO := hH
      clear hH
      have hH := hH2
      clear hH2
      try simp only [Act.put, List.setIfInBounds_toArray, List.set_cons_zero, List.set_cons_succ]
      refine wpAnyH_ready (rs := [4]) (by kernel_rfl) (by simp) ?_
      refine AllReadyH.cons (by simp only [List.getElem?_toArray, List.getElem?_cons_succ, List.getElem?_cons_zero]; rfl) (fun K hK => ?_) AllReadyH.nil
      go_simp
      have hs1 := hH.size
      have lb1 := VB.out.lt
      (with_reducible refine (OX.out _ hH).mono ?_)
      rintro e v1 ⟨v, rfl, ho1, hb1⟩
      replace ho1 := ho1.le hs1
      obtain ⟨q2, qc2, rfl, -, -⟩ := ho1.form
      have VB := Lib.hid (VB.out.keep hb1 VB.out.lt)
      try dsimp only
      refine hK.out _ _ ?_ (fun hH2 => ?_)
      · exact hH.trans (hb1.mono hH.size)
      clear hK K
      have hO := hH
      clear hH
      have hH := hH2
      clear hH2
      try simp only [Act.put, List.setIfInBounds_toArray, List.set_cons_zero, List.set_cons_succ]
      have z1 := hb1.size
      refine wpAnyH_take (i := 5) (v := ?_) (by simp only [List.getElem?_toArray, List.getElem?_cons_succ, List.getElem?_cons_zero]; rfl) (by kernel_rfl) (by kernel_rfl) (by kernel_rfl) (by exact fun _ _ _ h => h) (Or.inl ⟨by rfl, ?_⟩) hH ?_
      rotate_left
      · (intro wS hS; clear hS; go_simp; try rfl)
      try simp only [Act.put, List.setIfInBounds_toArray, List.set_cons_zero, List.set_cons_succ]
      refine wpAnyH_take (i := 6) (v := ?_) (by simp only [List.getElem?_toArray, List.getElem?_cons_succ, List.getElem?_cons_zero]; rfl) (by kernel_rfl) (by kernel_rfl) (by kernel_rfl) (by exact fun _ _ _ h => h) (Or.inl ⟨by rfl, ?_⟩) hH ?_
      rotate_left
      · (intro wS hS; clear hS; go_simp; try rfl)
      try simp only [Act.put, List.setIfInBounds_toArray, List.set_cons_zero, List.set_cons_succ]
      refine wpAnyH_take (i := 7) (v := ?_) (by simp only [List.getElem?_toArray, List.getElem?_cons_succ, List.getElem?_cons_zero]; rfl) (by kernel_rfl) (by kernel_rfl) (by kernel_rfl) (by exact fun _ _ _ h => h) (Or.inl ⟨by rfl, ?_⟩) hH ?_
      rotate_left
      · (intro wS hS; clear hS; go_simp; try rfl)
      try simp only [Act.put, List.setIfInBounds_toArray, List.set_cons_zero, List.set_cons_succ]
      refine wpAnyH_ready (rs := [9]) (by kernel_rfl) (by simp) ?_
      refine AllReadyH.cons (by simp only [List.getElem?_toArray, List.getElem?_cons_succ, List.getElem?_cons_zero]; rfl) (fun K hK => ?_) AllReadyH.nil
      have VC := VB
      obtain ⟨y0, y1, y2, y3, y4, y5⟩ := VB.out.all
      go_simp
      have VB := Lib.hid (((VB.out.set0 (.int .i64 mr.r)).set1 (.int .i64 mr.c)).set2 (.slice q2 mr.zs.length qc2))
      try dsimp only
      refine hK.out _ _ ?_ (fun hH2 => ?_)
      · exact (((hH.setCell PL _).setCell PL _).setCell PL _)
      clear hK K
      have hO := hH
      clear hH
      have hH := hH2
      clear hH2
      try simp only [Act.put, List.setIfInBounds_toArray, List.set_cons_zero, List.set_cons_succ]
      refine wpAnyH_take (i := 10) (v := ?_) (by simp only [List.getElem?_toArray, List.getElem?_cons_succ, List.getElem?_cons_zero]; rfl) (by kernel_rfl) (by kernel_rfl) (by kernel_rfl) (by exact fun _ _ _ h => h) (Or.inl ⟨by rfl, ?_⟩) hH ?_
      rotate_left
      · (intro wS hS; clear hS; go_simp; try rfl)
      try simp only [Act.put, List.setIfInBounds_toArray, List.set_cons_zero, List.set_cons_succ]
      refine wpAnyH_done (by kernel_rfl) ?_ _
      have O2 := ho1.setA (b := wr.heap.size) (ho1.ne_box VC.out) (.int .i64 mr.r) (.int .i64 mr.c) (.slice q2 mr.zs.length qc2)
      obtain ⟨we, hwe⟩ : ∃ we, ((v1.setCell ⟨wr.heap.size, 0, none⟩ (.int .i64 mr.r)).setCell ⟨wr.heap.size, 1, none⟩ (.int .i64 mr.c)).setCell ⟨wr.heap.size, 2, none⟩ (.slice q2 mr.zs.length qc2) = we := ⟨_, rfl⟩
      rw [hwe] at hH VB O2 ⊢
      clear hwe
      obtain ⟨fx, hfx⟩ : ∃ fx, g i = fx := ⟨_, rfl⟩
      rw [hfx] at MR
      have HF := Lib.hid hfx
      clear hfx
      cases fx with
      | true =>
        have e := MR.out
        rw [if_pos rfl] at e
        subst e
        have KE := Lib.hid (KX.out.keep hH)
        obtain ⟨y0, y1, y2, -, -, -⟩ := VB.out.all
        obtain ⟨xlt, x0, x1, x2, xf0, xf1, xf2⟩ := KE.out
        have O2 := Lib.hid O2
        have HE := Lib.hid hH
        clear hH
        go_wp2_with fail
        go_roundw
        case rel =>
          refine ⟨i + 1, by go_num, by omega, fun h => ?_, fun h => ?_, ?_, DM.out.put HE.out hbx.out HL.out.1 HL.out.2 _ _ _⟩
          · rcases Nat.eq_zero_or_pos i with h0 | h0
            · rw [← h0]; exact HF.out
            · exact H0.out h0
          · obtain rfl : i = 1 := by have := HI.out; omega
            exact HF.out
          · have O3 := O2.out
            have lz : zs.length = nx := D.out.lz
            dsimp only at O3 ⊢
            rw [lz] at O3 ⊢
            exact D.out.next we q2 qc2 HE.out O3
        case measure => simp [intOf]; omega
      | false =>
        have e := MR.out
        rw [if_neg (by decide)] at e
        subst e
        have V := Lib.hid (GD.out i HI.out (fun h => H0.out (by omega)) HF.out)
        have FE := Lib.hid (DM.out.fr.trans (FrS.of_below hH))
        clear hH O2
        go_wp2_with fail
        go_ret
        exact RES.out _ _ ⟨by rw [V.out]; rfl, FE.out, fun h9 => by rw [V.out] at h9; cases h9⟩
end Go.Proofs.Ytpelnfenfeoeeaa
end

section
/-
  Chapter 12, in the program: one row operation done to a matrix and to its account.
-/
namespace Go.Proofs.Ytpelnfenfeoeeaa
set_option maxRecDepth 100000
open Go.RowKit
def DoRes (R C na nu bf ba B : Nat) (k : Int) (I J : Nat) (z : Int) (s : HSt) (w : World) (e : Ending) (w' : World) : Prop :=
  e = .returned (.bool (okS (op2 R C k I J z s))) ∧ FrS (fun b => b = bf ∨ b = ba) w w' ∧ (okS (op2 R C k I J z s) = true → AcW R C na nu bf ba B (op2 R C k I J z s) w')
theorem iDo (R C na nu bf ba B I J : Nat) (k z : Int) (s : HSt) (w : World) (h : AcW R C na nu bf ba B s w) (hR : R ≤ 24) (hC : C ≤ 24) (hna : na = R * C) (hnu : nu = R * R) (hB : B ≤ w.heap.size) (hS : Siz R C s) (ho : okS s = true) (hop : isOp k I J z R = true) :
    Calls Try.prog 141 #[.agg #[.pointer (some ⟨bf, 0, none⟩), .pointer (some ⟨ba, 0, none⟩)], .agg #[.int .i64 k, .int .i64 I, .int .i64 J, .int .i64 z]] w (DoRes R C na nu bf ba B k I J z s w) := by
  have hc := iDoG R bf 0 ba 0 I J k z (fun i wq => AcW R C na nu bf ba B (acS R C k I J z s i) wq) (fun i => acB R C k I J z s (i + 1)) w (fun w' hb => h.step hb) h.lt.1 h.lt.2 (Lib.hid fun i wq hi hw hst h1 => by
    have hf : acB R C k I J z s i = true := by
      rcases i with _ | _ | i
      · rfl
      · exact h1 rfl
      · omega
    obtain ⟨bx, cx, nx, qx, mx, xs, zs, fx, D, h6⟩ := do_at_le hi hR hC hna hnu hst (by omega) hS ho hop hf
    exact ⟨bx, 0, cx, nx, qx, mx, xs, zs, D.blk.p3, D.rd, D.lx, D.lz, D.spot, by rw [D.op, D.ef], D.eb, by split <;> rfl, h6, fun w1 q m hb ho => D.next w1 q m hb ho⟩)
  have e : ((fun i => acB R C k I J z s (i + 1)) 0 && (fun i => acB R C k I J z s (i + 1)) 1) = okS (op2 R C k I J z s) := by
    show (nums (opL k I J z C s.1) && (nums (opL k I J z C s.1) && nums (opL k I J z R s.2))) = (nums (opL k I J z C s.1) && nums (opL k I J z R s.2))
    cases nums (opL k I J z C s.1) <;> rfl
  refine hc.mono ?_
  rintro en w' ⟨h1, h2, h3⟩
  rw [e] at h1 h3
  exact ⟨h1, h2, h3⟩
end Go.Proofs.Ytpelnfenfeoeeaa
end

section
/-
  Chapter 1, in the program: DivideFloor.
-/
namespace Go.Proofs.Ytpelnfenfeoeeaa
open Go.RowKit
set_option maxHeartbeats 400000 in
theorem iDiv (n d : Int) (w : World) (hn1 : -400000000 ≤ n) (hn2 : n ≤ 400000000) (hd1 : -400000000 ≤ d) (hd2 : d ≤ 400000000) (hd0 : d ≠ 0) :
    Calls Try.prog 163 #[.int .i64 n, .int .i64 d] w fun e w' => e = .returned (.tuple #[.int .i64 (n / d), .int .i64 (n % d), .bool true]) ∧ ∃ n, w' = w.drewN n := by
  have hz : (d == 0) = false := by simpa using hd0
  obtain ⟨b1, b2⟩ := tdiv_bd n d hn1 hn2
  have l := tmod_small n d hd0
  have l1 : -400000000 ≤ n.tmod d := by omega
  have l2 : n.tmod d ≤ 400000000 := by omega
  clear l
  by_cases h : n.tmod d < 0
  · have hn : n < 0 := by
      rcases Int.lt_or_le n 0 with h' | h'
      · exact h'
      · have := Int.tmod_nonneg d h'; omega
    by_cases hd : 0 < d
    · have E := Lib.hid (tdiv_down n d hd h)
      go_enter Try.func163, Try.ntmps163
      go_wp2_with (first | (go_at_call 114; refine (iIsNum_t _ _ (by omega) (by omega)).mono ?_; rintro e w' ⟨rfl, rfl⟩) | go_quiet (fail))
      go_ret3
      exact ⟨by rw [E.out.1, E.out.2]; rfl, _, rfl⟩
    · have E : Hid (n / d = n.tdiv d + 1 ∧ n % d = n.tmod d - d) := by
        obtain ⟨c, rfl⟩ : ∃ c, d = -c := ⟨-d, by omega⟩
        exact iDiv_neg n c (by omega) h
      have hd' : decide (0 < d) = false := by simpa using hd
      go_enter Try.func163, Try.ntmps163
      go_wp2_with (first | (go_at_call 114; refine (iIsNum_t _ _ (by omega) (by omega)).mono ?_; rintro e w' ⟨rfl, rfl⟩) | go_quiet (fail))
      go_ret3
      exact ⟨by rw [E.out.1, E.out.2]; rfl, _, rfl⟩
  · have E := Lib.hid (iDiv_pos n d hd0 (by omega))
    have h' : decide (n.tmod d < 0) = false := by simpa using h
    have hp : 0 ≤ n % d := Int.emod_nonneg n hd0
    have hp' : decide (n % d < 0) = false := by simpa using hp
    go_enter Try.func163, Try.ntmps163
    go_wp2_with (first | (go_at_call 114; refine (iIsNum_t _ _ (by omega) (by omega)).mono ?_; rintro e w' ⟨rfl, rfl⟩) | go_quiet (fail))
    go_ret3
    exact ⟨by rw [E.out.1, E.out.2]; rfl, _, rfl⟩
end Go.Proofs.Ytpelnfenfeoeeaa
end

section
/-
  Chapter 12, in the program: the remainder of a row by another one (the method divide).
-/
namespace Go.Proofs.Ytpelnfenfeoeeaa
set_option maxRecDepth 100000
open Go.RowKit
theorem isOp_add {R I J : Nat} {z : Int} (hR : R ≤ 24) (hI : I < R) (hJ : J < R) (hne : I ≠ J) (hz : NumP z) : isOp 2 I J z R = true := by
  unfold isOp rangeOp
  simp only [Bool.and_eq_true, decide_eq_true_eq]
  refine ⟨⟨⟨⟨⟨by omega, by omega⟩, by omega⟩, by omega⟩, hz⟩, ?_⟩
  rw [if_neg (by decide), if_neg (by decide), decide_eq_true_eq]
  omega
theorem isOp_swap {R I J : Nat} (hR : R ≤ 24) (hI : I < R) (hJ : J < R) (hne : I ≠ J) : isOp 0 I J 0 R = true := by
  unfold isOp rangeOp
  simp only [Bool.and_eq_true, decide_eq_true_eq]
  refine ⟨⟨⟨⟨⟨by omega, by omega⟩, by omega⟩, by omega⟩, by unfold NumP; omega⟩, ?_⟩
  simp
  omega
theorem isOp_neg {R I : Nat} (hR : R ≤ 24) (hI : I < R) : isOp 1 I I 0 R = true := by
  unfold isOp rangeOp
  simp only [Bool.and_eq_true, decide_eq_true_eq]
  refine ⟨⟨⟨⟨⟨by omega, by omega⟩, by omega⟩, by omega⟩, by unfold NumP; omega⟩, ?_⟩
  simp
theorem DoRes.from {R C na nu bf ba B : Nat} {k : Int} {I J : Nat} {z : Int} {s : HSt} {w w1 w' : World} {e : Ending} (h : DoRes R C na nu bf ba B k I J z s w1 e w') (hb : Below w.heap.size w w1) : DoRes R C na nu bf ba B k I J z s w e w' :=
  ⟨h.1, (FrS.of_below hb).trans h.2.1, h.2.2⟩
theorem keepX {W0 W w' : World} {b0 bf ga d1 d2 : Nat} {p q r v x y : Value} (h : W.cell? ⟨b0, 0, none⟩ = some p ∧ W.cell? ⟨bf, 0, none⟩ = some q ∧ W.cell? ⟨bf, 1, none⟩ = some r ∧ W.cell? ⟨bf, 2, none⟩ = some v ∧ W.cell? ⟨ga, d1, none⟩ = some x ∧ W.cell? ⟨ga, d2, none⟩ = some y ∧ Below W0.heap.size W0 W) (hb : Below W.heap.size W w') :
    w'.cell? ⟨b0, 0, none⟩ = some p ∧ w'.cell? ⟨bf, 0, none⟩ = some q ∧ w'.cell? ⟨bf, 1, none⟩ = some r ∧ w'.cell? ⟨bf, 2, none⟩ = some v ∧ w'.cell? ⟨ga, d1, none⟩ = some x ∧ w'.cell? ⟨ga, d2, none⟩ = some y ∧ Below W0.heap.size W0 w' := by
  obtain ⟨h1, h2, h3, h4, h5, h6, h7⟩ := h
  have c : ∀ (b o : Nat) (v : Value), W.cell? ⟨b, o, none⟩ = some v → w'.cell? ⟨b, o, none⟩ = some v := fun b o v hv => (hb.cell (World.block_lt_of_cell? W _ hv)).trans hv
  exact ⟨c _ _ _ h1, c _ _ _ h2, c _ _ _ h3, c _ _ _ h4, c _ _ _ h5, c _ _ _ h6, h7.trans (hb.mono h7.size)⟩
set_option maxHeartbeats 8000000 in
theorem iDivide (R C na nu bf ba B I J j : Nat) (s : HSt) (w : World) (h : AcW R C na nu bf ba B s w) (hR : R ≤ 24) (hC : C ≤ 24) (hna : na = R * C) (hnu : nu = R * R) (hB : B ≤ w.heap.size) (hS : Siz R C s) (ho : okS s = true) (hI : I < R) (hJ : J < R) (hne : I ≠ J) (hj : j < C) (hy : celS C s J j ≠ 0) :
    Calls Try.prog 142 #[.agg #[.pointer (some ⟨bf, 0, none⟩), .pointer (some ⟨ba, 0, none⟩)], .int .i64 I, .int .i64 J, .int .i64 j] w (DoRes R C na nu bf ba B 2 I J (-(celS C s I j / celS C s J j)) s w) := by
  have hle : R * C ≤ 24 * 24 := Nat.mul_le_mul hR hC
  have NX : NumP (celS C s I j) := nums_def (okS_and ho).1 _
  have NY : NumP (celS C s J j) := nums_def (okS_and ho).1 _
  have NQ := quot_num NX hy
  have LI := h.lt
  obtain ⟨qa, qu, ma, mu, hV⟩ := h
  have B1 : Below w.heap.size w (w.alloc (.cells #[.pointer (some ⟨bf, 0, none⟩), .pointer (some ⟨ba, 0, none⟩)] 93)) := (Below.refl _ _).alloc (Nat.le_refl _) _
  have V1 := hV.step B1
  have P1 : Hid (Blk2 (w.alloc (.cells #[.pointer (some ⟨bf, 0, none⟩), .pointer (some ⟨ba, 0, none⟩)] 93)) w.heap.size 93 (.pointer (some ⟨bf, 0, none⟩)) (.pointer (some ⟨ba, 0, none⟩))) := Blk2.at_ _ _ _ rfl
  have RW : Hid (∀ i w', i < R → Calls Try.prog 83 #[.agg #[.int .i64 R, .int .i64 C, .slice qa na ma], .int .i64 i] w' (RowAt qa (i * C) C w')) := fun i w' hi => iRowIn R C i (i * C) na ma qa w' hV.fA.celA.spot rfl (by rw [hna, ← Nat.succ_mul]; exact Nat.mul_le_mul_right _ hi) hV.fA.celA.le hV.fA.celA.nil (by omega) (by omega)
  have CX : ∀ i, i < R → ∃ g o : Nat, qa = some ⟨g, o, none⟩ ∧ (w.alloc (.cells #[.pointer (some ⟨bf, 0, none⟩), .pointer (some ⟨ba, 0, none⟩)] 93)).cell? ⟨g, o + i * C + j, none⟩ = some (.int .i64 (celS C s i j)) := fun i hi => by
    obtain ⟨g, o, h1, h2⟩ := V1.rd (i * C + j) (by rw [hV.lf, hna]; exact idx_lt hi hj)
    exact ⟨g, o, h1, by rw [Nat.add_assoc]; exact h2⟩
  have DO : Hid (∀ z w', AcW R C na nu bf ba B s w' → w.heap.size ≤ w'.heap.size → isOp 2 I J z R = true → Calls Try.prog 141 #[.agg #[.pointer (some ⟨bf, 0, none⟩), .pointer (some ⟨ba, 0, none⟩)], .agg #[.int .i64 2, .int .i64 I, .int .i64 J, .int .i64 z]] w' (DoRes R C na nu bf ba B 2 I J z s w')) := fun z w' h1 h2 h3 => iDo R C na nu bf ba B I J 2 z s w' h1 hR hC hna hnu (by omega) hS ho h3
  have ON : Hid (op2 R C 2 I J 0 s = s) := op2_none ho
  have OK := Lib.hid ho
  have IO := Lib.hid (isOp_add hR hI hJ hne NQ)
  obtain ⟨ga, oa, hqa, cx⟩ := CX I hI
  obtain ⟨g2, o2, hqb, cy⟩ := CX J hJ
  rw [hqa] at hqb
  injection hqb with hqb
  injection hqb with e1 e2
  subst e1 e2 hqa
  have RI : Hid (∀ w', Calls Try.prog 83 #[.agg #[.int .i64 R, .int .i64 C, .slice (some ⟨ga, oa, none⟩) na ma], .int .i64 I] w' (fun e w2 => ∃ m', e = .returned (.slice (some ⟨ga, oa + I * C, none⟩) C m') ∧ Below w'.heap.size w' w2)) := fun w' => (RW.out I w' hI).mono fun e w2 ⟨q', m', h1, _, h2, _, h3⟩ => ⟨m', by rw [h1, h2 ga oa rfl (by omega)], h3⟩
  have RJ : Hid (∀ w', Calls Try.prog 83 #[.agg #[.int .i64 R, .int .i64 C, .slice (some ⟨ga, oa, none⟩) na ma], .int .i64 J] w' (fun e w2 => ∃ m', e = .returned (.slice (some ⟨ga, oa + J * C, none⟩) C m') ∧ Below w'.heap.size w' w2)) := fun w' => (RW.out J w' hJ).mono fun e w2 ⟨q', m', h1, _, h2, _, h3⟩ => ⟨m', by rw [h1, h2 ga oa rfl (by omega)], h3⟩
  obtain ⟨x, hx⟩ : ∃ x, celS C s I j = x := ⟨_, rfl⟩
  obtain ⟨y, hyy⟩ : ∃ y, celS C s J j = y := ⟨_, rfl⟩
  rw [hx] at NX NQ cx IO ⊢
  rw [hyy] at NY NQ cy hy IO ⊢
  have DV : Hid (∀ w', Calls Try.prog 163 #[.int .i64 x, .int .i64 y] w' (Gives (.tuple #[.int .i64 (x / y), .int .i64 (x % y), .bool true]) w')) := fun w' => by
    refine (iDiv x y w' NX.1 NX.2 NY.1 NY.2 hy).mono ?_
    rintro e w2 ⟨rfl, n, rfl⟩
    exact ⟨rfl, below_drewN (Below.refl _ _) n⟩
  obtain ⟨q, hq⟩ : ∃ q, x / y = q := ⟨_, rfl⟩
  rw [hq] at DV NQ IO ⊢
  obtain ⟨mm, hmm⟩ : ∃ mm, x % y = mm := ⟨_, rfl⟩
  rw [hmm] at DV
  obtain ⟨D1, hD1⟩ : ∃ D1, oa + I * C = D1 := ⟨_, rfl⟩
  obtain ⟨D2, hD2⟩ : ∃ D2, oa + J * C = D2 := ⟨_, rfl⟩
  rw [hD1] at RI cx
  rw [hD2] at RJ cy
  have nq : IntKind.i64.wrap (-q) = -q := IntWalk.i64_in _ (by have := NQ.1; have := NQ.2; omega)
  have j1 : (0 : Int) ≤ (j : Int) := by omega
  have j2 : (j : Int) < (C : Int) := by omega
  have AW : Hid (AcW R C na nu bf ba B s (w.alloc (.cells #[.pointer (some ⟨bf, 0, none⟩), .pointer (some ⟨ba, 0, none⟩)] 93))) := ⟨_, _, _, _, V1⟩
  have B1 := Lib.hid B1
  obtain ⟨f0, f1, f2, -, -, -⟩ := V1.kf.all
  have S0 := Lib.hid (And.intro P1.out.cell0 (And.intro f0 (And.intro f1 (And.intro f2 (And.intro cx (And.intro cy (Below.refl (w.alloc (.cells #[.pointer (some ⟨bf, 0, none⟩), .pointer (some ⟨ba, 0, none⟩)] 93)).heap.size (w.alloc (.cells #[.pointer (some ⟨bf, 0, none⟩), .pointer (some ⟨ba, 0, none⟩)] 93)))))))))
  clear hle NX NY NQ hV V1 RW CX hR hC hna hnu hB hS ho hI hJ hne hj hy cx cy hx hyy hq hmm hD1 hD2 f0 f1 f2 LI
  go_enter Try.func142, Try.ntmps142
  go_upto_region 1 with fail
  obtain ⟨W1, hW1⟩ : ∃ W1, w.alloc (.cells #[.pointer (some ⟨bf, 0, none⟩), .pointer (some ⟨ba, 0, none⟩)] 93) = W1 := ⟨_, rfl⟩
  rw [hW1] at P1 AW S0 B1 ⊢
  clear hW1
  go_region_held3 (fun w' => w'.cell? ⟨w.heap.size, 0, none⟩ = some (.pointer (some ⟨bf, 0, none⟩)) ∧ w'.cell? ⟨bf, 0, none⟩ = some (.int .i64 R) ∧ w'.cell? ⟨bf, 1, none⟩ = some (.int .i64 C) ∧ w'.cell? ⟨bf, 2, none⟩ = some (.slice (some ⟨ga, oa, none⟩) na ma) ∧ w'.cell? ⟨ga, D1 + j, none⟩ = some (.int .i64 x) ∧ w'.cell? ⟨ga, D2 + j, none⟩ = some (.int .i64 y) ∧ Below W1.heap.size W1 w') (first | exact keepX S0.out (Below.refl _ _).drew | with_reducible exact keepX ‹_› ‹Below _ _ _›)
    (first
    | (go_at_call 83; (with_reducible refine (RI.out _).mono ?_); rintro e w2 ⟨m2, rfl, hb2⟩)
    | (go_at_call 83; (with_reducible refine (RJ.out _).mono ?_); rintro e w3 ⟨m3, rfl, hb3⟩)
    | (go_at_call 163; (with_reducible refine (DV.out _).mono ?_); rintro e w4 ⟨rfl, hb4⟩))
  all_goals
    have BE := Lib.hid (And.right (And.right (And.right (And.right (And.right (And.right ‹_ ∧ _ ∧ _ ∧ _ ∧ _ ∧ _ ∧ Below W1.heap.size W1 w4›))))))
    have PE := Lib.hid (P1.out.keep BE.out P1.out.lt)
    have AE := Lib.hid (AW.out.step BE.out)
    have BF := Lib.hid (B1.out.trans (BE.out.mono B1.out.size))
    clear P1 AW BE
    by_cases h0 : q = 0
    · have b1 : (q == 0) = true := by simp [h0]
      have RES : Hid (okS (op2 R C 2 I J (-q) s) = true ∧ op2 R C 2 I J (-q) s = s) := by
        rw [h0]
        exact ⟨by rw [show -(0 : Int) = 0 from rfl, ON.out]; exact OK.out, ON.out⟩
      clear h0
      go_wp2_with fail
      go_ret
      exact ⟨by rw [RES.out.1]; rfl, FrS.of_below BF.out, fun _ => by rw [RES.out.2]; exact AE.out⟩
    · have b1 : (q == 0) = false := by simpa using h0
      clear h0
      obtain ⟨a0, a1, -, -⟩ := PE.out.all
      go_wp2_with fail
      refine (DO.out _ _ AE.out BF.out.size IO.out).mono ?_
      rintro e w5 hd
      have hd := hd.from BF.out
      obtain ⟨rfl, hd⟩ := And.intro hd.1 hd
      have HD := Lib.hid hd
      clear hd a0 a1
      go_wp2_with fail
      go_ret
      exact HD.out
end Go.Proofs.Ytpelnfenfeoeeaa
end

section
/-
  Chapter 12, in the program: whether a cell is nearer to 0 than the least one before it; the first row with the least cell that is not 0.
-/
namespace Go.Proofs.Ytpelnfenfeoeeaa
set_option maxRecDepth 100000
open Go.RowKit
def nearB (x y : Int) : Bool := decide (x ≠ 0 ∧ (y = 0 ∨ x.natAbs < y.natAbs))
set_option maxHeartbeats 1000000 in
theorem iNear (x y : Int) (w : World) (hx : NumP x) (hy : NumP y) : Calls Try.prog 116 #[.int .i64 x, .int .i64 y] w (Gives (.bool (nearB x y)) w) := by
  obtain ⟨x1, x2⟩ := hx
  obtain ⟨y1, y2⟩ := hy
  by_cases h0 : x = 0
  · have V : Hid (nearB x y = false) := by show _ = _; unfold nearB; exact decide_eq_false (fun h => h.1 h0)
    have n1 : (x != 0) = false := by simp [h0]
    rw [V.out]
    clear h0
    go_enter Try.func116, Try.ntmps116
    go_wp2_with fail
    go_ret
    exact ⟨rfl, by first | exact Below.refl _ _ | exact below_drewN (Below.refl _ _) _⟩
  have n1 : (x != 0) = true := by simpa using h0
  by_cases hy0 : y = 0
  · have V : Hid (nearB x y = true) := by show _ = _; unfold nearB; exact decide_eq_true ⟨h0, .inl hy0⟩
    have n2 : (y == 0) = true := by simp [hy0]
    rw [V.out]
    clear h0 hy0
    go_enter Try.func116, Try.ntmps116
    go_wp2_with fail
    go_ret
    exact ⟨rfl, by first | exact Below.refl _ _ | exact below_drewN (Below.refl _ _) _⟩
  have n2 : (y == 0) = false := by simpa using hy0
  have v1 : IntKind.i64.wrap (-x) = -x := IntWalk.i64_in _ (by omega)
  have v2 : IntKind.i64.wrap (-y) = -y := IntWalk.i64_in _ (by omega)
  obtain ⟨ax, hax⟩ : ∃ z : Int, (x.natAbs : Int) = z := ⟨_, rfl⟩
  obtain ⟨ay, hay⟩ : ∃ z : Int, (y.natAbs : Int) = z := ⟨_, rfl⟩
  have v3 : ∀ d : Decidable (x < -x), (@ite Int (x < -x) d (-x) x) = ax := fun d => by rw [← hax]; split <;> omega
  have v4 : ∀ d : Decidable (y < -y), (@ite Int (y < -y) d (-y) y) = ay := fun d => by rw [← hay]; split <;> omega
  have v5 : max x (-x) = ax := by rw [← hax]; omega
  have v6 : max y (-y) = ay := by rw [← hay]; omega
  by_cases hl : x.natAbs < y.natAbs
  · have V : Hid (nearB x y = true) := by show _ = _; unfold nearB; exact decide_eq_true ⟨h0, .inr hl⟩
    have n3 : decide (ax < ay) = true := decide_eq_true (by omega)
    rw [V.out]
    clear h0 hy0 hl hax hay
    go_enter Try.func116, Try.ntmps116
    go_wp2_with fail
    go_ret
    exact ⟨rfl, by first | exact Below.refl _ _ | exact below_drewN (Below.refl _ _) _⟩
  · have V : Hid (nearB x y = false) := by
      show _ = _
      unfold nearB
      refine decide_eq_false ?_
      rintro ⟨-, h | h⟩
      · exact hy0 h
      · exact hl h
    have n3 : decide (ax < ay) = false := decide_eq_false (by omega)
    rw [V.out]
    clear h0 hy0 hl hax hay
    go_enter Try.func116, Try.ntmps116
    go_wp2_with fail
    go_ret
    exact ⟨rfl, by first | exact Below.refl _ _ | exact below_drewN (Below.refl _ _) _⟩
def lsZ (f : Nat → Int) (L : Int) : Int := if L < 0 then 0 else f L.toNat
theorem ls_none {f : Nat → Int} {t k : Nat} (h : nearB (f (t + k)) (lsZ f (leastF f t k)) = false) : leastF f t (k + 1) = leastF f t k := by
  unfold nearB at h
  rw [decide_eq_false_iff_not] at h
  show (if _ then _ else _) = _
  rw [if_neg]
  rintro ⟨h1, h2⟩
  refine h ⟨h1, ?_⟩
  unfold lsZ
  by_cases hl : leastF f t k < 0
  · rw [if_pos hl]; exact .inl rfl
  · rw [if_neg hl]
    rcases h2 with h2 | h2
    · exact absurd h2 hl
    · exact .inr h2
theorem ls_some {f : Nat → Int} {t k : Nat} (h : nearB (f (t + k)) (lsZ f (leastF f t k)) = true) (h0 : ¬ leastF f t k < 0 → f (leastF f t k).toNat ≠ 0) : leastF f t (k + 1) = ((t + k : Nat) : Int) ∧ lsZ f ((t + k : Nat) : Int) = f (t + k) := by
  unfold nearB at h
  rw [decide_eq_true_iff] at h
  refine ⟨?_, ?_⟩
  · show (if _ then _ else _) = _
    rw [if_pos]
    refine ⟨h.1, ?_⟩
    have h2 := h.2
    unfold lsZ at h2
    by_cases hl : leastF f t k < 0
    · exact .inl hl
    · rw [if_neg hl] at h2
      rcases h2 with h2 | h2
      · exact absurd h2 (h0 hl)
      · exact .inr h2
  · unfold lsZ
    rw [if_neg (by omega), Int.toNat_natCast]
theorem ls_nz (f : Nat → Int) (t k : Nat) : ¬ leastF f t k < 0 → f (leastF f t k).toNat ≠ 0 := fun h => by
  rcases leastF_says f t k with ⟨h1, -⟩ | ⟨p, h1, -, -, h4, -⟩
  · omega
  · rw [h1, Int.toNat_natCast]; exact h4
set_option maxHeartbeats 2000000 in
theorem iLeast (R C : Nat) (a : Option Addr) (n m j t : Nat) (s : HSt) (w : World) (h : Rd w a s.1) (hA : CelA a n m) (hx : s.1.length = n) (hn : n = R * C) (hR : R ≤ 24) (hC : C ≤ 24) (hj : j < C) (ht : t ≤ R) (ho : nums s.1 = true) :
    Calls Try.prog 161 #[.agg #[.int .i64 R, .int .i64 C, .slice a n m], .int .i64 t, .int .i64 j] w (Gives (.int .i64 (leastS R C j t s)) w) := by
  have hle : R * C ≤ 24 * 24 := Nat.mul_le_mul hR hC
  have K0 : Hid (Blk3 (w.alloc (.cells #[.int .i64 R, .int .i64 C, .slice a n m] 26)) w.heap.size 26 (.int .i64 R) (.int .i64 C) (.slice a n m)) := Blk3.at_ _ _ _ _ rfl
  have B0 : Hid (Below w.heap.size w (w.alloc (.cells #[.int .i64 R, .int .i64 C, .slice a n m] 26))) := (Below.refl _ _).alloc (Nat.le_refl _) _
  have RW : Hid (∀ i w', i < R → Calls Try.prog 83 #[.agg #[.int .i64 R, .int .i64 C, .slice a n m], .int .i64 i] w' (RowAt a (i * C) C w')) := fun i w' hi => iRowIn R C i (i * C) n m a w' hA.spot rfl (by rw [hn, ← Nat.succ_mul]; exact Nat.mul_le_mul_right _ hi) hA.le hA.nil (by omega) (by omega)
  have CX : Hid (∀ i w', i < R → Below w.heap.size w w' → ∃ g o : Nat, a = some ⟨g, o, none⟩ ∧ w'.cell? ⟨g, o + i * C + j, none⟩ = some (.int .i64 (celS C s i j))) := fun i w' hi hb => by
    obtain ⟨g, o, h1, h2⟩ := h.below hb (i * C + j) (by rw [hx, hn]; exact idx_lt hi hj)
    exact ⟨g, o, h1, by rw [Nat.add_assoc]; exact h2⟩
  have NU : Hid (∀ i, NumP (celS C s i j)) := fun i => nums_def ho _
  have LS : Hid (leastS R C j t s = leastF (fun i => celS C s i j) t (R - t)) := rfl
  have cj : Hid ((0 : Int) ≤ (j : Int) ∧ (j : Int) < (C : Int)) := ⟨by omega, by omega⟩
  obtain ⟨f, hf⟩ : ∃ f : Nat → Int, (fun i => celS C s i j) = f := ⟨_, rfl⟩
  have CX : Hid (∀ i w', i < R → Below w.heap.size w w' → ∃ g o : Nat, a = some ⟨g, o, none⟩ ∧ w'.cell? ⟨g, o + i * C + j, none⟩ = some (.int .i64 (f i))) := by rw [← hf]; exact CX
  have NU : Hid (∀ i, NumP (f i)) := by rw [← hf]; exact NU
  rw [hf] at LS
  rw [LS.out]
  have NZ : Hid (∀ L, NumP (lsZ f L)) := fun L => by
    unfold lsZ
    split
    · exact ⟨by decide, by decide⟩
    · exact NU.out _
  clear h hx hn ho hf LS hA hle
  go_enter Try.func161, Try.ntmps161
  go_wp2_with fail
  go_loopw [7, 8, 9, 10] (fun v7 v8 v9 _ wr => ∃ k : Nat, v7 = .int .i64 (leastF f t k) ∧ v8 = .int .i64 (lsZ f (leastF f t k)) ∧ v9 = .int .i64 ((t + k : Nat) : Int) ∧ t + k ≤ R ∧ Blk3 wr w.heap.size 26 (.int .i64 R) (.int .i64 C) (.slice a n m) ∧ Below w.heap.size w wr) (fun _ _ v9 _ _ => R - (intOf v9).toNat)
  case atStart => exact ⟨0, rfl, rfl, rfl, by omega, K0.out, B0.out⟩
  case round =>
    clear K0 B0
    obtain ⟨k, rfl, rfl, rfl, hk, hK, hB⟩ := hrel
    have K := Lib.hid hK
    have B := Lib.hid hB
    clear hK hB
    obtain ⟨p0, p1, p2, -, -, -⟩ := K.out.all
    by_cases hlt : t + k < R
    · have LNo : Hid (nearB (f (t + k)) (lsZ f (leastF f t k)) = false → leastF f t (k + 1) = leastF f t k) := fun h => ls_none h
      have LNe : Hid (nearB (f (t + k)) (lsZ f (leastF f t k)) = true → leastF f t (k + 1) = ((t + k : Nat) : Int) ∧ lsZ f ((t + k : Nat) : Int) = f (t + k)) := fun h => ls_some h (ls_nz f t k)
      have NI := Lib.hid (NU.out (t + k))
      obtain ⟨T, hT⟩ : ∃ T, t + k = T := ⟨_, rfl⟩
      have ET := Lib.hid hT
      rw [hT] at LNo LNe NI hlt ⊢
      obtain ⟨x, hx⟩ : ∃ x, f T = x := ⟨_, rfl⟩
      rw [hx] at LNo LNe NI
      have EX := Lib.hid hx
      clear hx hT
      obtain ⟨L, hL⟩ : ∃ L, leastF f t k = L := ⟨_, rfl⟩
      rw [hL] at LNo LNe ⊢
      have EL := Lib.hid hL
      have ZI := Lib.hid (NZ.out L)
      obtain ⟨Z, hZ⟩ : ∃ Z, lsZ f L = Z := ⟨_, rfl⟩
      rw [hZ] at LNo LNe ZI ⊢
      have EZ := Lib.hid hZ
      clear hL hZ
      have NR := Lib.hid (fun w' => iNear x Z w' NI.out ZI.out)
      obtain ⟨nb, hnb⟩ : ∃ nb, nearB x Z = nb := ⟨_, rfl⟩
      rw [hnb] at NR LNo LNe
      clear hnb
      go_wp2_with fail
      refine (RW.out T _ hlt).mono ?_
      rintro e w3 ⟨q', m', rfl, -, hq', -, hb3⟩
      have K3 := Lib.hid (K.out.step hb3)
      have B3 := Lib.hid (B.out.trans (hb3.mono B.out.size))
      obtain ⟨g, o, hag, hcell⟩ := CX.out T w3 hlt B3.out
      rw [EX.out] at hcell
      obtain rfl := hq' g o hag (by omega)
      clear hb3 hq' hag p0 p1 p2 K B
      obtain ⟨j1, j2⟩ := cj.out
      go_wp2_with fail
      refine (NR.out _).mono ?_
      rintro e w4 ⟨rfl, hb4⟩
      have K4 := Lib.hid (K3.out.step hb4)
      have B4 := Lib.hid (B3.out.trans (hb4.mono B3.out.size))
      clear hb4 K3 B3 hcell j1 j2
      cases nb with
      | false =>
        have LK := Lib.hid (LNo.out rfl)
        go_wp2_with fail
        go_roundw
        case rel => exact ⟨k + 1, by rw [LK.out], by rw [LK.out, EZ.out], by rw [← Nat.add_assoc, ET.out]; go_num, by have := ET.out; omega, K4.out, B4.out⟩
        case measure => simp [intOf]; have := ET.out; omega
      | true =>
        have LK := Lib.hid (LNe.out rfl)
        go_wp2_with fail
        go_roundw
        case rel => exact ⟨k + 1, by rw [LK.out.1], by rw [LK.out.1, LK.out.2], by rw [← Nat.add_assoc, ET.out]; go_num, by have := ET.out; omega, K4.out, B4.out⟩
        case measure => simp [intOf]; have := ET.out; omega
    · have e1 : Hid (R - t = k) := by show _ = _; omega
      go_wp2_with fail
      go_ret
      exact ⟨by rw [e1.out]; rfl, B.out⟩
end Go.Proofs.Ytpelnfenfeoeeaa
end

section
/-
  Plain mathematics of chapter 7: what a row is divided by in the program. Nothing of a program is used.
-/
namespace Go.Proofs.Ytpelnfenfeoeeaa
end Go.Proofs.Ytpelnfenfeoeeaa
end

section
/-
  Chapter 1, in the program: greatestDivisor.
-/
namespace Go.Proofs.Ytpelnfenfeoeeaa
open Go.RowKit
end Go.Proofs.Ytpelnfenfeoeeaa
end

section
/-
  Chapter 7, in the program: a row's first cell with something, and what the row is divided by.
-/
namespace Go.Proofs.Ytpelnfenfeoeeaa
set_option maxRecDepth 100000
open Go.RowKit
theorem iLead (c cap : Nat) (q : Option Addr) (v : Nat → Int) (w : World) (h : Rd w q (rwL c v)) (hc : c ≤ 24) :
    Calls Try.prog 82 #[.slice q c cap] w (fun e w' => e = .returned (.int .i64 (leadC c v : Int)) ∧ w' = w) := by
  have RX : Hid (∀ j, j < c → ∃ b o : Nat, q = some ⟨b, o, none⟩ ∧ w.cell? ⟨b, o + j, none⟩ = some (.int .i64 (v j))) := fun j hj => by
    have := h j (by rw [rwL_length]; exact hj)
    rw [rwL_at hj] at this
    exact this
  clear h
  go_enter Try.func82, Try.ntmps82
  go_wp2_with fail
  go_loopw [3, 4, 7] (fun _ _ v7 wr => ∃ j : Nat, v7 = .int .i64 j ∧ j ≤ c ∧ (∀ i, i < j → v i = 0) ∧ wr = w) (fun _ _ v7 _ => c - (intOf v7).toNat)
  case atStart => exact ⟨0, rfl, by omega, fun i hi => by omega, rfl⟩
  case round =>
    obtain ⟨j, rfl, hj, hz, rfl⟩ := hrel
    have Z := Lib.hid hz
    clear hz
    by_cases hlt : j < c
    · obtain ⟨b, o, rfl, hcell⟩ := RX.out j hlt
      obtain ⟨x, hx⟩ : ∃ x, v j = x := ⟨_, rfl⟩
      have X := Lib.hid hx
      rw [hx] at hcell
      clear hx
      by_cases h0 : x = 0
      · have n1 : (x != 0) = false := by simp [h0]
        have n2 : (x == 0) = true := by simp [h0]
        have Z1 : Hid (∀ i, i < j + 1 → v i = 0) := fun i hi => by
          rcases Nat.lt_or_ge i j with h1 | h1
          · exact Z.out i h1
          · obtain rfl : i = j := by omega
            rw [X.out, h0]
        clear h0
        go_wp2_with fail
        go_roundw
        case rel => exact ⟨j + 1, by go_num, by omega, Z1.out, trivial⟩
        case measure => simp [intOf]; omega
      · have n1 : (x != 0) = true := by simpa using h0
        have n2 : (x == 0) = false := by simpa using h0
        have L : Hid (leadC c v = j) := leadF_eq (Nat.zero_le _) (by omega) (fun i _ hi => Z.out i hi) (fun _ => by rw [X.out]; exact h0)
        clear h0
        go_wp2_with fail
        go_ret
        exact ⟨by rw [L.out]; rfl, rfl⟩
    · obtain rfl : c = j := by omega
      have L : Hid (leadC c v = c) := leadF_eq (Nat.zero_le _) (by omega) (fun i _ hi => Z.out i hi) (fun h => by omega)
      go_wp2_with fail
      go_ret
      exact ⟨by rw [L.out]; rfl, rfl⟩
end Go.Proofs.Ytpelnfenfeoeeaa
end

section
/-
  Chapter 7, in the program: whether a row alone has something in a column, of the rows from one on.
-/
namespace Go.Proofs.Ytpelnfenfeoeeaa
set_option maxRecDepth 100000
open Go.RowKit
set_option maxHeartbeats 1000000 in
theorem iAloneF (r c N t i l : Nat) (a : Option Addr) (m : Nat) (xs : List Int) (w : World) (h : Rd w a xs) (hx : xs.length = N) (hN : N = r * c) (hr : r ≤ 24) (hc : c ≤ 24) (hl : l < c) (ht : t ≤ r) (b : Bool) (hb : b = true ↔ ∀ k, t ≤ k → k < r → k ≠ i → mxC c xs k l = 0) :
    Calls Try.prog 152 #[.agg #[.int .i64 r, .int .i64 c, .slice a N m], .int .i64 t, .int .i64 i, .int .i64 l] w (Gives (.bool b) w) := by
  have hle : r * c ≤ 24 * 24 := Nat.mul_le_mul hr hc
  rw [← hN] at hle
  have IX : Hid (∀ k, k < r → ∃ P : Nat, k * c + l = P ∧ P < N ∧ IntKind.i64.wrap ((k : Int) * (c : Int)) = (k : Int) * (c : Int) ∧ IntKind.i64.wrap ((k : Int) * (c : Int) + (l : Int)) = (P : Int)) := fun k hk => by
    have h1 : k * c + l < r * c := idx_lt hk hl
    have c1 : (k : Int) * (c : Int) = ((k * c : Nat) : Int) := (Int.natCast_mul _ _).symm
    refine ⟨k * c + l, rfl, by omega, IntWalk.i64_in _ (by rw [c1]; omega), ?_⟩
    rw [show (k : Int) * (c : Int) + (l : Int) = ((k * c + l : Nat) : Int) by rw [c1]; omega]
    exact IntWalk.i64_in _ (by omega)
  have BW : Hid (Below w.heap.size w (w.alloc (.cells #[.int .i64 r, .int .i64 c, .slice a N m] 26))) := (Below.refl _ _).alloc (Nat.le_refl _) _
  have K0 : Hid (Blk3 (w.alloc (.cells #[.int .i64 r, .int .i64 c, .slice a N m] 26)) w.heap.size 26 (.int .i64 r) (.int .i64 c) (.slice a N m)) := Blk3.at_ _ _ _ _ rfl
  have CX : Hid (∀ k P, k < r → k * c + l = P → ∃ b o : Nat, a = some ⟨b, o, none⟩ ∧ (w.alloc (.cells #[.int .i64 r, .int .i64 c, .slice a N m] 26)).cell? ⟨b, o + P, none⟩ = some (.int .i64 (mxC c xs k l))) := fun k P hk hP => by
    subst hP
    exact h.below BW.out _ (by rw [hx, hN]; exact idx_lt hk hl)
  have HB := Lib.hid hb
  clear hN hx h hb
  go_enter Try.func152, Try.ntmps152
  go_wp2_with fail
  generalize w.alloc (.cells #[.int .i64 r, .int .i64 c, .slice a N m] 26) = W at BW K0 CX
  obtain ⟨p0, p1, p2, -, -, -⟩ := K0.out.all
  go_wp2_with fail
  go_loopw [8, 9] (fun _ v9 wq => ∃ k : Nat, v9 = .int .i64 k ∧ t ≤ k ∧ k ≤ r ∧ (∀ p, t ≤ p → p < k → p ≠ i → mxC c xs p l = 0) ∧ wq = W) (fun _ v9 _ => r - (intOf v9).toNat)
  case atStart => exact ⟨t, rfl, Nat.le_refl _, ht, fun p h1 h2 => by omega, rfl⟩
  case round =>
    obtain ⟨k, rfl, htk, hk, hz, rfl⟩ := hrel
    have Z := Lib.hid hz
    clear hz
    by_cases hkr : k < r
    · by_cases hki : k = i
      · have n1 : ((k : Int) != (i : Int)) = false := by simp [hki]
        have Z1 : Hid (∀ p, t ≤ p → p < k + 1 → p ≠ i → mxC c xs p l = 0) := fun p h0 h1 h2 => Z.out p h0 (by omega) h2
        clear hki
        go_wp2_with fail
        go_roundw
        case rel => exact ⟨k + 1, by go_num, by omega, by omega, Z1.out, trivial⟩
        case measure => simp [intOf]; omega
      · have n1 : ((k : Int) != (i : Int)) = true := by simp; omega
        obtain ⟨P, hP, hPN, u1, u2⟩ := IX.out k hkr
        have Pa : (0 : Int) ≤ (P : Int) := by omega
        have Pb : (P : Int) < (N : Int) := by omega
        obtain ⟨g, o, rfl, hcell⟩ := CX.out k P hkr hP
        obtain ⟨x, hxx⟩ : ∃ x, mxC c xs k l = x := ⟨_, rfl⟩
        have X := Lib.hid hxx
        rw [hxx] at hcell
        clear hxx hP
        by_cases h0 : x = 0
        · have n2 : (x != 0) = false := by simp [h0]
          have n3 : (x == 0) = true := by simp [h0]
          have Z1 : Hid (∀ p, t ≤ p → p < k + 1 → p ≠ i → mxC c xs p l = 0) := fun p h4 h1 h2 => by
            rcases Nat.lt_or_ge p k with h3 | h3
            · exact Z.out p h4 h3 h2
            · obtain rfl : p = k := by omega
              rw [X.out, h0]
          clear h0 hki
          go_wp2_with fail
          go_roundw
          case rel => exact ⟨k + 1, by go_num, by omega, by omega, Z1.out, trivial⟩
          case measure => simp [intOf]; omega
        · have n2 : (x != 0) = true := by simpa using h0
          have n3 : (x == 0) = false := by simpa using h0
          have FB : Hid (b = false) := by
            show b = false
            cases b with
            | false => rfl
            | true => exact absurd (HB.out.mp rfl k htk hkr hki) (by rw [X.out]; exact h0)
          clear h0 hki
          go_wp2_with fail
          go_ret
          exact ⟨by rw [FB.out]; rfl, BW.out⟩
    · obtain rfl : r = k := by omega
      clear hkr
      have TB : Hid (b = true) := HB.out.mpr fun p h0 h1 h2 => Z.out p h0 h1 h2
      go_wp2_with fail
      go_ret
      exact ⟨by rw [TB.out]; rfl, BW.out⟩
end Go.Proofs.Ytpelnfenfeoeeaa
end

section
/-
  Chapter 12, in the program: rows divided until one alone has something in a column (the method leave).
-/
namespace Go.Proofs.Ytpelnfenfeoeeaa
set_option maxRecDepth 100000
open Go.RowKit
theorem rnd_bad {R C p j t : Nat} {s : HSt} (h : Siz R C s) (hp : p < R) {n : Nat} (ho : okS (rndF R C p j t s n) = false) : ∀ m, t + n + m ≤ R → okS (rndF R C p j t s (n + m)) = false
  | 0, _ => ho
  | m + 1, hm => by
    cases hc : okS (rndF R C p j t s (n + (m + 1))) with
    | false => rfl
    | true =>
      have h1 : okS (rndF R C p j t s (n + m)) = true := rndF_back (n := n + m) h hp (by show t + (n + m) < R; omega) hc
      rw [rnd_bad h hp ho m (by omega)] at h1
      cases h1
theorem rnd_op {R C p j t n : Nat} {s : HSt} (h : Siz R C s) (hj : j < C) (hp : p < R) (hn : t + n < R) (h1 : t + n ≠ p) (ho : okS (rndF R C p j t s n) = true) :
    op2 R C 2 (t + n) p (-(celS C (rndF R C p j t s n) (t + n) j / celS C (rndF R C p j t s n) p j)) (rndF R C p j t s n) = rndF R C p j t s (n + 1) := by
  have e := (rndF_keep (p := p) (t := t) h hj n (by omega)).2 (t + n) hn (Nat.le_refl _)
  have e2 := (rndF_keep (p := p) (t := t) h hj n (by omega)).1 hp
  rw [e, e2]
  by_cases h2 : celS C s (t + n) j = 0
  · rw [rnd_skip h hj hn (.inr h2), h2, Int.zero_ediv]
    exact op2_none ho
  · exact (rnd_do h hj hp hn h1 h2).symm
theorem up_bad {R C j t : Nat} {s : HSt} (h : Siz R C s) (ht : t < R) {n : Nat} (ho : okS (upF R C j t s n) = false) : ∀ m, n + m ≤ R → okS (upF R C j t s (n + m)) = false
  | 0, _ => ho
  | m + 1, hm => by
    cases hc : okS (upF R C j t s (n + (m + 1))) with
    | false => rfl
    | true =>
      have h1 : okS (upF R C j t s (n + m)) = true := okS_back (I := n + m) (upF_siz h (n + m)) (by show n + m < R; omega) ht hc
      rw [up_bad h ht ho m (by omega)] at h1
      cases h1
structure LvM (R C na nu bf ba B : Nat) (w : World) (s : HSt) (wq : World) : Prop where
  ac : AcW R C na nu bf ba B s wq
  pt : Blk2 wq w.heap.size 93 (.pointer (some ⟨bf, 0, none⟩)) (.pointer (some ⟨ba, 0, none⟩))
  fr : FrS (fun b => b = bf ∨ b = ba) w wq
theorem LvM.step {R C na nu bf ba B : Nat} {w : World} {s : HSt} {wq w' : World} (h : LvM R C na nu bf ba B w s wq) (hb : Below wq.heap.size wq w') : LvM R C na nu bf ba B w s w' :=
  ⟨h.ac.step hb, h.pt.keep hb h.pt.lt, h.fr.trans (FrS.of_below hb)⟩
theorem LvM.next {R C na nu bf ba B : Nat} {k : Int} {I J : Nat} {z : Int} {w : World} {s : HSt} {wq w' : World} {e : Ending} (h : LvM R C na nu bf ba B w s wq) (hd : DoRes R C na nu bf ba B k I J z s wq e w') (l1 : bf < w.heap.size) (l2 : ba < w.heap.size) (ho : okS (op2 R C k I J z s) = true) : LvM R C na nu bf ba B w (op2 R C k I J z s) w' :=
  ⟨hd.2.2 ho, (hd.2.1.block _ h.pt.lt (by omega)).trans h.pt, h.fr.trans hd.2.1⟩
theorem LvM.start {R C na nu bf ba B : Nat} {w : World} {s : HSt} (h : AcW R C na nu bf ba B s w) : LvM R C na nu bf ba B w s (w.alloc (.cells #[.pointer (some ⟨bf, 0, none⟩), .pointer (some ⟨ba, 0, none⟩)] 93)) :=
  ⟨h.step ((Below.refl _ _).alloc (Nat.le_refl _) _), Blk2.at_ _ _ _ rfl, (FrS.refl _ _).alloc _⟩
def LvRes (R C na nu bf ba B : Nat) (o : Option (HSt × Nat)) (w : World) (e : Ending) (w' : World) : Prop :=
  FrS (fun b => b = bf ∨ b = ba) w w' ∧ ((∃ s1 p1, o = some (s1, p1) ∧ e = .returned (.tuple #[.int .i64 (p1 : Nat), .bool true]) ∧ AcW R C na nu bf ba B s1 w') ∨ (o = none ∧ e = .returned (.tuple #[.int .i64 0, .bool false])))
set_option maxHeartbeats 8000000 in
theorem iLeave (R C na nu bf ba B t j p : Nat) (s : HSt) (q : Nat → Nat) (M : Mx) (w : World) (h : AcW R C na nu bf ba B s w) (hR : R ≤ 24) (hC : C ≤ 24) (hna : na = R * C) (hnu : nu = R * R) (hB : B ≤ w.heap.size) (hF : Fin2 R C M s) (hIv : HInv R C (mxC C s.1) q t j) (ht : t < R) (hj : j < C) (hL : LeastP R C j t s p) :
    Calls Try.prog 140 #[.agg #[.pointer (some ⟨bf, 0, none⟩), .pointer (some ⟨ba, 0, none⟩)], .int .i64 t, .int .i64 j] w (LvRes R C na nu bf ba B (loopF R C j t ((celS C s p j).natAbs + 1) s p) w) := by
  have HL := Lib.hid h.lt
  have LE : Hid (∀ (s1 : HSt) wq qa qu ma mu, AcV R C na nu bf ba B s1 qa qu ma mu wq → okS s1 = true → Calls Try.prog 161 #[.agg #[.int .i64 R, .int .i64 C, .slice qa na ma], .int .i64 t, .int .i64 j] wq (Gives (.int .i64 (leastS R C j t s1)) wq)) := fun s1 wq qa qu ma mu h1 h2 => iLeast R C qa na ma j t s1 wq h1.rd h1.fA.celA h1.lf hna hR hC hj (by omega) (okS_and h2).1
  have AL : Hid (∀ (s1 : HSt) wq qa qu ma mu (p1 : Nat), AcV R C na nu bf ba B s1 qa qu ma mu wq → Calls Try.prog 152 #[.agg #[.int .i64 R, .int .i64 C, .slice qa na ma], .int .i64 t, .int .i64 p1, .int .i64 j] wq (Gives (.bool (aloneB R C p1 j t s1)) wq)) := fun s1 wq qa qu ma mu p1 h1 => iAloneF R C na t p1 j qa ma s1.1 wq h1.rd h1.lf hna hR hC hj (by omega) _ ⟨fun e k h2 h3 h4 => aloneB_says e h3 h2 h4, fun e => aloneB_true fun i h2 h3 h4 => e i h3 h2 h4⟩
  have DV : Hid (∀ (s1 : HSt) wq (i p1 : Nat), AcW R C na nu bf ba B s1 wq → w.heap.size ≤ wq.heap.size → Siz R C s1 → okS s1 = true → i < R → p1 < R → i ≠ p1 → celS C s1 p1 j ≠ 0 → Calls Try.prog 142 #[.agg #[.pointer (some ⟨bf, 0, none⟩), .pointer (some ⟨ba, 0, none⟩)], .int .i64 i, .int .i64 p1, .int .i64 j] wq (DoRes R C na nu bf ba B 2 i p1 (-(celS C s1 i j / celS C s1 p1 j)) s1 wq)) := fun s1 wq i p1 h1 h2 h3 h4 h5 h6 h7 h8 => iDivide R C na nu bf ba B i p1 j s1 wq h1 hR hC hna hnu (by omega) h3 h4 h5 h6 h7 hj h8
  have W0 := Lib.hid (LvM.start h)
  have FN := Lib.hid hF
  have IN := Lib.hid hIv
  have LP := Lib.hid hL
  have hl1 := hL.1
  obtain ⟨f0, hf0⟩ : ∃ f0, (celS C s p j).natAbs + 1 = f0 := ⟨_, rfl⟩
  have FU : Hid (Fuel R C j t f0 s p) := by rw [← hf0]; exact Fuel.start R C j t s p
  rw [hf0]
  obtain ⟨LF, hLF⟩ : ∃ LF, loopF R C j t f0 s p = LF := ⟨_, rfl⟩
  rw [hLF]
  have EL0 := Lib.hid hLF
  have EP := Lib.hid hl1
  clear h hF hIv hL hf0 hLF hl1 hna hnu hB
  go_enter Try.func140, Try.ntmps140
  go_upto_region 1 with fail
  generalize w.alloc (.cells #[.pointer (some ⟨bf, 0, none⟩), .pointer (some ⟨ba, 0, none⟩)] 93) = W1 at W0 ⊢
  obtain ⟨qa, qu, ma, mu, hV⟩ := W0.out.ac
  obtain ⟨a0, a1, -, -⟩ := W0.out.pt.all
  obtain ⟨b0, b1, b2, -, -, -⟩ := hV.kf.all
  have LE1 := Lib.hid (LE.out s W1 qa qu ma mu hV FN.out.ok)
  rw [EP.out] at LE1
  clear hV
  go_wp2_with fail
  refine LE1.out.mono ?_
  rintro e w2 ⟨rfl, hb⟩
  have W2 := Lib.hid (W0.out.step hb)
  clear hb LE1 a0 a1 b0 b1 b2 W0
  go_wp2_with fail
  go_loopg [6, 7, 8, 9] f0 (fun gk _ _ v8 _ wq => ∃ (s1 : HSt) (p1 : Nat), v8 = .int .i64 p1 ∧ Fuel R C j t gk s1 p1 ∧ loopF R C j t gk s1 p1 = LF ∧ Fin2 R C M s1 ∧ HInv R C (mxC C s1.1) q t j ∧ t ≤ p1 ∧ p1 < R ∧ celS C s1 p1 j ≠ 0 ∧ LvM R C na nu bf ba B w s1 wq)
  case atStart => exact ⟨s, p, rfl, FU.out, EL0.out, FN.out, IN.out, LP.out.2.1, LP.out.2.2.1, LP.out.2.2.2.1, W2.out⟩
  case round =>
    clear FU W2 EL0 EP LP FN IN
    obtain ⟨s1, p1, rfl, hfu, hlf, hF, hI, htp, hpR, hpz, hW⟩ := hrel
    have FU := Lib.hid hfu
    have EL := Lib.hid hlf
    have FN := Lib.hid hF
    have IN := Lib.hid hI
    have PZ := Lib.hid hpz
    have WS := Lib.hid hW
    clear hfu hlf hF hI hpz hW
    obtain ⟨qa, qu, ma, mu, hV⟩ := WS.out.ac
    obtain ⟨a0, a1, -, -⟩ := WS.out.pt.all
    obtain ⟨b0, b1, b2, -, -, -⟩ := hV.kf.all
    have AL1 := Lib.hid (AL.out s1 wr qa qu ma mu p1 hV)
    obtain ⟨al, hal⟩ : ∃ al, aloneB R C p1 j t s1 = al := ⟨_, rfl⟩
    rw [hal] at AL1
    have HAL := Lib.hid hal
    clear hal hV
    go_wp2_with fail
    refine AL1.out.mono ?_
    rintro e w4 ⟨rfl, hb⟩
    have W4 := Lib.hid (WS.out.step hb)
    clear hb AL1 WS a0 a1 b0 b1 b2
    cases al with
    | true =>
      have V : Hid (LF = some (s1, p1)) := by refine Lib.hid ?_; rw [← EL.out]; exact loopF_alone FU.out.1 HAL.out
      go_wp2_with fail
      go_ret2
      exact ⟨W4.out.fr, .inl ⟨s1, p1, V.out, rfl, W4.out.ac⟩⟩
    | false =>
      obtain ⟨f, rfl⟩ : ∃ f, gk = f + 1 := ⟨gk - 1, by have := FU.out.1; omega⟩
      have R0 : Hid (rndF R C p1 j t s1 0 = s1) := rfl
      have RA : Hid (rndF R C p1 j t s1 (R - t) = rndA R C p1 j t s1) := rfl
      go_wp2_with fail
      go_loopw [6, 7, 9] (fun _ _ v9 wq => ∃ n : Nat, v9 = .int .i64 ((t + n : Nat) : Int) ∧ t + n ≤ R ∧ okS (rndF R C p1 j t s1 n) = true ∧ LvM R C na nu bf ba B w (rndF R C p1 j t s1 n) wq) (fun _ _ v9 _ => R - (intOf v9).toNat)
      case atStart => exact ⟨0, rfl, by omega, FN.out.ok, W4.out⟩
      case round =>
        clear W4
        obtain ⟨n, rfl, hn, hok, hW⟩ := hrel
        have WR := Lib.hid hW
        have OK := Lib.hid hok
        clear hW hok
        obtain ⟨qa, qu, ma, mu, hV⟩ := WR.out.ac
        obtain ⟨a0, a1, -, -⟩ := WR.out.pt.all
        obtain ⟨b0, b1, b2, -, -, -⟩ := hV.kf.all
        clear hV
        by_cases hlt : t + n < R
        · by_cases hip : t + n = p1
          · have n1 : (((t + n : Nat) : Int) != (p1 : Int)) = false := by simp [hip]
            have ES := Lib.hid (rnd_skip (p := p1) FN.out.siz hj hlt (.inl hip))
            obtain ⟨T, hT⟩ : ∃ T, t + n = T := ⟨_, rfl⟩
            rw [hT] at n1 hlt ⊢
            have ET := Lib.hid hT
            clear hip hT
            go_wp2_with fail
            go_roundw
            case rel => exact ⟨n + 1, by rw [← ET.out]; go_num, by have := ET.out; omega, by rw [ES.out]; exact OK.out, by rw [ES.out]; exact WR.out⟩
            case measure => simp [intOf]; have := ET.out; omega
          · have n1 : (((t + n : Nat) : Int) != (p1 : Int)) = true := by simp; omega
            have SZ := rndF_siz (p := p1) (j := j) (t := t) FN.out.siz n
            have KP := (rndF_keep (p := p1) (t := t) FN.out.siz hj n (by omega)).1 hpR
            have DV1 := Lib.hid (DV.out (rndF R C p1 j t s1 n) wr (t + n) p1 WR.out.ac WR.out.fr.size SZ OK.out hlt hpR hip (by rw [KP]; exact PZ.out))
            have ES := Lib.hid (rnd_op FN.out.siz hj hpR hlt hip OK.out)
            have RB := Lib.hid (fun (h9 : okS (rndF R C p1 j t s1 (n + 1)) = false) => rnd_bad FN.out.siz hpR h9 (R - t - (n + 1)) (by omega))
            have NX : Hid (∀ e w5, DoRes R C na nu bf ba B 2 (t + n) p1 (-(celS C (rndF R C p1 j t s1 n) (t + n) j / celS C (rndF R C p1 j t s1 n) p1 j)) (rndF R C p1 j t s1 n) wr e w5 → e = .returned (.bool (okS (rndF R C p1 j t s1 (n + 1)))) ∧ FrS (fun b => b = bf ∨ b = ba) w w5 ∧ (okS (rndF R C p1 j t s1 (n + 1)) = true → LvM R C na nu bf ba B w (rndF R C p1 j t s1 (n + 1)) w5)) := fun e w5 hd => by
              have hd1 := hd.1
              rw [ES.out] at hd1
              refine ⟨hd1, WR.out.fr.trans hd.2.1, fun h9 => ?_⟩
              have := WR.out.next hd HL.out.1 HL.out.2 (by rw [ES.out]; exact h9)
              rw [ES.out] at this
              exact this
            have EN : n + 1 + (R - t - (n + 1)) = R - t := by omega
            rw [EN] at RB
            obtain ⟨T, hT⟩ : ∃ T, t + n = T := ⟨_, rfl⟩
            rw [hT] at n1 hlt DV1 NX ⊢
            have ET := Lib.hid hT
            clear hip hT SZ KP ES EN
            go_wp2_with fail
            refine DV1.out.mono ?_
            rintro e w5 hd
            obtain ⟨rfl, hf5, h5⟩ := NX.out e w5 hd
            have F5 := Lib.hid hf5
            have H5 := Lib.hid h5
            clear hd hf5 h5 DV1 NX a0 a1 b0 b1 b2
            cases ho : okS (rndF R C p1 j t s1 (n + 1)) with
            | true =>
              have O5 := Lib.hid ho
              have W5 := Lib.hid (H5.out ho)
              clear ho
              go_wp2_with fail
              go_roundw
              case rel => exact ⟨n + 1, by rw [← ET.out]; go_num, by have := ET.out; omega, O5.out, W5.out⟩
              case measure => simp [intOf]; have := ET.out; omega
            | false =>
              have V : Hid (LF = none) := by refine Lib.hid ?_; rw [← EL.out]; exact loopF_bad HAL.out (by rw [← RA.out]; exact RB.out ho)
              clear ho
              go_wp2_with fail
              go_ret2
              exact ⟨F5.out, .inr ⟨V.out, rfl⟩⟩
        · obtain rfl : n = R - t := by omega
          have OA := OK.out
          rw [RA.out] at OA
          have WA := WR.out
          rw [RA.out] at WA
          obtain ⟨g1, g2, p2, hL2, hF2⟩ := loop_next FN.out IN.out hj hpR htp PZ.out HAL.out FU.out OA
          have E2 := Lib.hid (loopF_step (f := f) HAL.out OA hL2.1)
          have W5 := Lib.hid WA
          have G1 := Lib.hid g1
          have G2 := Lib.hid g2
          have L2 := Lib.hid hL2
          have FU2 := Lib.hid hF2
          have PE := Lib.hid hL2.1
          clear OA WA g1 g2 hL2 hF2 OK WR a0 a1 b0 b1 b2 R0 RA
          generalize rndA R C p1 j t s1 = s2 at G1 G2 L2 FU2 PE E2 W5
          obtain ⟨qa, qu, ma, mu, hV⟩ := W5.out.ac
          obtain ⟨a0, a1, -, -⟩ := W5.out.pt.all
          obtain ⟨b0, b1, b2, -, -, -⟩ := hV.kf.all
          have LE1 := Lib.hid (LE.out s2 wr qa qu ma mu hV G1.out.ok)
          rw [PE.out] at LE1
          have nlt : Hid (¬ t + (R - t) < R) := hlt
          obtain ⟨T, hT⟩ : ∃ T, t + (R - t) = T := ⟨_, rfl⟩
          rw [hT] at hlt ⊢
          clear hV hT nlt
          go_wp2_with fail
          refine LE1.out.mono ?_
          rintro e w6 ⟨rfl, hb⟩
          have W6 := Lib.hid (W5.out.step hb)
          clear hb LE1 W5 a0 a1 b0 b1 b2
          go_wp2_with fail
          go_roundg f
          case rel => exact ⟨s2, p2, rfl, FU2.out, by rw [← E2.out]; exact EL.out, G1.out, G2.out, L2.out.2.1, L2.out.2.2.1, L2.out.2.2.2.1, W6.out⟩
          case measure => omega
end Go.Proofs.Ytpelnfenfeoeeaa
end

section
/-
  Chapter 12, in the program: a pivot is made (the method makePivot).
-/
namespace Go.Proofs.Ytpelnfenfeoeeaa
set_option maxRecDepth 100000
open Go.RowKit
def PvRes (R C na nu bf ba B t : Nat) (o : Option (HSt × Nat)) (w : World) (e : Ending) (w' : World) : Prop :=
  FrS (fun b => b = bf ∨ b = ba) w w' ∧ ((∃ s1, o = some (s1, t + 1) ∧ e = .returned (.bool true) ∧ AcW R C na nu bf ba B s1 w') ∨ (o = none ∧ e = .returned (.bool false)))
set_option maxHeartbeats 8000000 in
theorem iPivot (R C na nu bf ba B t j p : Nat) (s : HSt) (q : Nat → Nat) (M : Mx) (w : World) (h : AcW R C na nu bf ba B s w) (hR : R ≤ 24) (hC : C ≤ 24) (hna : na = R * C) (hnu : nu = R * R) (hB : B ≤ w.heap.size) (hF : Fin2 R C M s) (hIv : HInv R C (mxC C s.1) q t j) (ht : t < R) (hj : j < C) (hL : LeastP R C j t s p) :
    Calls Try.prog 90 #[.agg #[.pointer (some ⟨bf, 0, none⟩), .pointer (some ⟨ba, 0, none⟩)], .int .i64 t, .int .i64 j] w (PvRes R C na nu bf ba B t (colF R C j t s) w) := by
  have hle : R * C ≤ 24 * 24 := Nat.mul_le_mul hR hC
  have HL := Lib.hid h.lt
  have LV : Hid (∀ w', AcW R C na nu bf ba B s w' → w.heap.size ≤ w'.heap.size → Calls Try.prog 140 #[.agg #[.pointer (some ⟨bf, 0, none⟩), .pointer (some ⟨ba, 0, none⟩)], .int .i64 t, .int .i64 j] w' (LvRes R C na nu bf ba B (loopF R C j t ((celS C s p j).natAbs + 1) s p) w')) := fun w' h1 h2 => iLeave R C na nu bf ba B t j p s q M w' h1 hR hC hna hnu (by omega) hF hIv ht hj hL
  have DO : Hid (∀ (s1 : HSt) wq (k z : Int) (I J : Nat), AcW R C na nu bf ba B s1 wq → w.heap.size ≤ wq.heap.size → Siz R C s1 → okS s1 = true → isOp k I J z R = true → Calls Try.prog 141 #[.agg #[.pointer (some ⟨bf, 0, none⟩), .pointer (some ⟨ba, 0, none⟩)], .agg #[.int .i64 k, .int .i64 I, .int .i64 J, .int .i64 z]] wq (DoRes R C na nu bf ba B k I J z s1 wq)) := fun s1 wq k z I J h1 h2 h3 h4 h5 => iDo R C na nu bf ba B I J k z s1 wq h1 hR hC hna hnu (by omega) h3 h4 h5
  have DV : Hid (∀ (s1 : HSt) wq (i : Nat), AcW R C na nu bf ba B s1 wq → w.heap.size ≤ wq.heap.size → Siz R C s1 → okS s1 = true → i < t → celS C s1 t j ≠ 0 → Calls Try.prog 142 #[.agg #[.pointer (some ⟨bf, 0, none⟩), .pointer (some ⟨ba, 0, none⟩)], .int .i64 i, .int .i64 t, .int .i64 j] wq (DoRes R C na nu bf ba B 2 i t (-(celS C s1 i j / celS C s1 t j)) s1 wq)) := fun s1 wq i h1 h2 h3 h4 h5 h8 => iDivide R C na nu bf ba B i t j s1 wq h1 hR hC hna hnu (by omega) h3 h4 (by omega) ht (by omega) hj h8
  have RW : Hid (∀ (s1 : HSt) wq qa qu ma mu, AcV R C na nu bf ba B s1 qa qu ma mu wq → Calls Try.prog 83 #[.agg #[.int .i64 R, .int .i64 C, .slice qa na ma], .int .i64 t] wq (fun e w2 => ∃ g o m', e = .returned (.slice (some ⟨g, o, none⟩) C m') ∧ w2.cell? ⟨g, o + j, none⟩ = some (.int .i64 (celS C s1 t j)) ∧ Below wq.heap.size wq w2)) := fun s1 wq qa qu ma mu h1 => by
    refine (iRowIn R C t (t * C) na ma qa wq h1.fA.celA.spot rfl (by rw [hna, ← Nat.succ_mul]; exact Nat.mul_le_mul_right _ ht) h1.fA.celA.le h1.fA.celA.nil (by omega) (by omega)).mono ?_
    rintro e w2 ⟨q', m', rfl, -, h2, -, h3⟩
    obtain ⟨g, o, h4, h5⟩ := (h1.step h3).rd (t * C + j) (by rw [h1.lf, hna]; exact idx_lt ht hj)
    refine ⟨g, o + t * C, m', by rw [h2 g o h4 (by omega)], by rw [Nat.add_assoc]; exact h5, h3⟩
  have IS : Hid (∀ p1 : Nat, p1 < R → p1 ≠ t → isOp 0 p1 t 0 R = true) := fun p1 h1 h2 => isOp_swap hR h1 ht h2
  have IG := Lib.hid (isOp_neg hR ht)
  have W0 := Lib.hid (LvM.start h)
  have FN := Lib.hid hF
  have IN := Lib.hid hIv
  have LP := Lib.hid hL
  obtain ⟨LF, hLF⟩ : ∃ LF, loopF R C j t ((celS C s p j).natAbs + 1) s p = LF := ⟨_, rfl⟩
  have CN : Hid (LF = none → colF R C j t s = none) := fun h9 => col_none hL.1 (by rw [hLF, h9])
  have CB : Hid (∀ s1 p1, LF = some (s1, p1) → okS (pvS R C j t p1 s1) = false → colF R C j t s = none) := fun s1 p1 h9 ho => col_bad hL.1 (by rw [hLF, h9]) ho
  have CO : Hid (∀ s1 p1, LF = some (s1, p1) → okS (pvS R C j t p1 s1) = true → colF R C j t s = some (pvS R C j t p1 s1, t + 1)) := fun s1 p1 h9 ho => col_ok hL.1 (by rw [hLF, h9]) ho
  have CS : Hid (∀ s1 p1, LF = some (s1, p1) → Fin2 R C M s1 ∧ HInv R C (mxC C s1.1) q t j ∧ p1 < R ∧ t ≤ p1 ∧ celS C s1 p1 j ≠ 0 ∧ aloneB R C p1 j t s1 = true) := fun s1 p1 h9 => loopF_says hj _ s p hF hIv hL.2.2.1 hL.2.1 hL.2.2.2.1 (by rw [hLF, h9])
  rw [hLF] at LV
  have c1 : (0 : Int) ≤ (j : Int) := by omega
  have c2 : (j : Int) < (C : Int) := by omega
  obtain ⟨X, hX⟩ : ∃ X, colF R C j t s = X := ⟨_, rfl⟩
  rw [hX] at CN CB CO ⊢
  clear h hF hIv hL hLF hX hna hnu hB hle
  go_enter Try.func90, Try.ntmps90
  go_upto_region 1 with fail
  generalize w.alloc (.cells #[.pointer (some ⟨bf, 0, none⟩), .pointer (some ⟨ba, 0, none⟩)] 93) = W1 at W0 ⊢
  obtain ⟨a0, a1, -, -⟩ := W0.out.pt.all
  have LV1 := Lib.hid (LV.out W1 W0.out.ac W0.out.fr.size)
  go_wp2_with fail
  refine LV1.out.mono ?_
  rintro e w2 ⟨hf, hr⟩
  have F2 := Lib.hid (W0.out.fr.trans hf)
  have P2 : Hid (Blk2 w2 w.heap.size 93 (.pointer (some ⟨bf, 0, none⟩)) (.pointer (some ⟨ba, 0, none⟩))) := (hf.block _ W0.out.pt.lt (by have := HL.out.1; have := HL.out.2; omega)).trans W0.out.pt
  clear hf LV1 LV W0 a0 a1
  rcases hr with ⟨s1, p1, hs, rfl, hA⟩ | ⟨hs, rfl⟩
  rotate_left
  · have V := Lib.hid (CN.out hs)
    clear hs
    go_wp2_with fail
    go_ret
    exact ⟨F2.out, .inr ⟨V.out, rfl⟩⟩
  obtain ⟨g1, g2, hpR, htp, g5, g6⟩ := CS.out s1 p1 hs
  have W2 : Hid (LvM R C na nu bf ba B w s1 w2) := ⟨hA, P2.out, F2.out⟩
  have O0 := Lib.hid g1.ok
  have O1 := Lib.hid (ok_sw (C := C) (R := R) (p := p1) (t := t) g1.ok)
  obtain ⟨F1, I1, Z1, Y1⟩ := swS_says g1 g2 hj hpR htp g5 g6 O1.out
  have O2 := Lib.hid (ok_ng (R := R) (C := C) (j := j) (t := t) O1.out)
  obtain ⟨F2', I2, Z2, Y2⟩ := ngS_says F1 I1 hj ht Z1 Y1 O2.out
  have SZ0 := Lib.hid g1.siz
  have SZ1 := Lib.hid F1.siz
  have SZ2 := Lib.hid F2'.siz
  have SW1 : Hid (p1 ≠ t → op2 R C 0 p1 t 0 s1 = swS R C p1 t s1) := fun h => by unfold swS; rw [if_pos h]
  have SW2 : Hid (p1 = t → s1 = swS R C p1 t s1) := fun h => by unfold swS; rw [if_neg (fun h2 => h2 h)]
  have NG1 : Hid (celS C (swS R C p1 t s1) t j < 0 → op2 R C 1 t t 0 (swS R C p1 t s1) = ngS R C j t (swS R C p1 t s1)) := fun h => by unfold ngS; rw [if_pos h]
  have NG2 : Hid (¬ celS C (swS R C p1 t s1) t j < 0 → swS R C p1 t s1 = ngS R C j t (swS R C p1 t s1)) := fun h => by unfold ngS; rw [if_neg h]
  have ZG := Lib.hid Z2
  have PV : Hid (pvS R C j t p1 s1 = upF R C j t (ngS R C j t (swS R C p1 t s1)) t) := rfl
  have CB1 := Lib.hid (CB.out s1 p1 hs)
  have CO1 := Lib.hid (CO.out s1 p1 hs)
  rw [PV.out] at CB1 CO1
  clear F1 I1 Z1 Y1 F2' I2 Z2 Y2 PV CB CO CS CN g1 g2 g5 g6 hs hA F2 P2 LP FN IN
  generalize ngS R C j t (swS R C p1 t s1) = st2 at NG1 NG2 ZG CB1 CO1 SZ2 O2
  generalize swS R C p1 t s1 = st1 at SZ1 SW1 SW2 NG1 NG2 O1
  go_upto_region 4 with fail
  go_cut [29] from 19 to 28 (fun v29 wx => v29 = .bool false ∧ LvM R C na nu bf ba B w st1 wx)
  case first =>
    by_cases hpt : p1 = t
    · have n2 : ((p1 : Int) != (t : Int)) = false := by simp [hpt]
      have S2 : Hid (LvM R C na nu bf ba B w st1 w2) := by refine Lib.hid ?_; rw [← SW2.out hpt]; exact W2.out
      clear hpt
      go_wp2_with fail
      go_meet
      exact ⟨rfl, S2.out⟩
    · have n2 : ((p1 : Int) != (t : Int)) = true := by simp; omega
      have OPN := Lib.hid (DO.out s1 w2 0 0 p1 t W2.out.ac W2.out.fr.size SZ0.out O0.out (IS.out p1 hpR hpt))
      have NX := Lib.hid (fun e w5 (hd : DoRes R C na nu bf ba B 0 p1 t 0 s1 w2 e w5) => And.intro hd.1 (fun h9 => W2.out.next hd HL.out.1 HL.out.2 h9))
      rw [SW1.out hpt] at NX
      obtain ⟨a0, a1, -, -⟩ := W2.out.pt.all
      clear hpt
      go_wp2_with fail
      refine OPN.out.mono ?_
      rintro e w5 hd
      obtain ⟨rfl, h5⟩ := NX.out e w5 hd
      rw [O1.out]
      have W5 := Lib.hid (h5 O1.out)
      clear hd h5 a0 a1 NX OPN
      go_wp2_with fail
      go_meet
      exact ⟨rfl, W5.out⟩
  case rest =>
    obtain ⟨rfl, hW⟩ := hcut
    have WA := Lib.hid hW
    clear hW W2 SW1 SW2 SZ0 O0 IS
    rename World => wa
    go_upto_region 6 with fail
    go_cut [47] from 30 to 46 (fun v47 wx => v47 = .bool false ∧ LvM R C na nu bf ba B w st2 wx)
    case first =>
      obtain ⟨qa, qu, ma, mu, hV⟩ := WA.out.ac
      obtain ⟨a0, a1, -, -⟩ := WA.out.pt.all
      obtain ⟨b0, b1, b2, -, -, -⟩ := hV.kf.all
      have RW1 := Lib.hid (RW.out st1 wa qa qu ma mu hV)
      clear hV
      obtain ⟨x, hx⟩ : ∃ x, celS C st1 t j = x := ⟨_, rfl⟩
      rw [hx] at RW1 NG1 NG2
      clear hx
      by_cases hx0 : x < 0
      · have n2 : decide (x < 0) = true := decide_eq_true hx0
        have NG := NG1.out hx0
        clear hx0
        go_wp2_with fail
        refine RW1.out.mono ?_
        rintro e w5 ⟨g, o, m', rfl, hc, hb⟩
        have W5 := Lib.hid (WA.out.step hb)
        have OPN := Lib.hid (DO.out st1 w5 1 0 t t W5.out.ac W5.out.fr.size SZ1.out O1.out IG.out)
        have NX := Lib.hid (fun e w6 (hd : DoRes R C na nu bf ba B 1 t t 0 st1 w5 e w6) => And.intro hd.1 (fun h9 => W5.out.next hd HL.out.1 HL.out.2 h9))
        rw [NG] at NX
        clear hb RW1 a0 a1 b0 b1 b2 WA NG
        obtain ⟨a0, a1, -, -⟩ := W5.out.pt.all
        go_wp2_with fail
        refine OPN.out.mono ?_
        rintro e w6 hd
        obtain ⟨rfl, h6⟩ := NX.out e w6 hd
        rw [O2.out]
        have W6 := Lib.hid (h6 O2.out)
        clear hd h6 a0 a1 NX OPN hc
        go_wp2_with fail
        go_meet
        exact ⟨rfl, W6.out⟩
      · have n2 : decide (x < 0) = false := decide_eq_false hx0
        have S2 := NG2.out (by omega)
        clear hx0
        go_wp2_with fail
        refine RW1.out.mono ?_
        rintro e w5 ⟨g, o, m', rfl, hc, hb⟩
        have W5 : Hid (LvM R C na nu bf ba B w st2 w5) := by refine Lib.hid ?_; rw [← S2]; exact WA.out.step hb
        clear hb RW1 a0 a1 b0 b1 b2 S2
        go_wp2_with fail
        go_meet
        exact ⟨rfl, W5.out⟩
    case rest =>
      obtain ⟨rfl, hW⟩ := hcut
      have WB := Lib.hid hW
      clear hW WA NG1 NG2 SZ1 O1 IG RW DO
      go_wp2_with fail
      go_loopw [6, 9, 49] (fun _ _ v49 wq => ∃ n : Nat, v49 = .int .i64 n ∧ n ≤ t ∧ okS (upF R C j t st2 n) = true ∧ LvM R C na nu bf ba B w (upF R C j t st2 n) wq) (fun _ _ v49 _ => t - (intOf v49).toNat)
      case atStart => exact ⟨0, rfl, Nat.zero_le _, O2.out, WB.out⟩
      case round =>
        clear WB
        obtain ⟨n, rfl, hn, hok, hW⟩ := hrel
        have WR := Lib.hid hW
        have OK := Lib.hid hok
        clear hW hok
        by_cases hlt : n < t
        · have KP := (upF_keep SZ2.out hj ht n hn).1
          have SZ := upF_siz (j := j) (t := t) SZ2.out n
          have DV1 := Lib.hid (DV.out (upF R C j t st2 n) wr n WR.out.ac WR.out.fr.size SZ OK.out hlt (by rw [KP]; have := ZG.out; omega))
          have RB := Lib.hid (fun (h9 : okS (upF R C j t st2 (n + 1)) = false) => up_bad SZ2.out ht h9 (t - (n + 1)) (by omega))
          have NX : Hid (∀ e w5, DoRes R C na nu bf ba B 2 n t (-(celS C (upF R C j t st2 n) n j / celS C (upF R C j t st2 n) t j)) (upF R C j t st2 n) wr e w5 → e = .returned (.bool (okS (upF R C j t st2 (n + 1)))) ∧ FrS (fun b => b = bf ∨ b = ba) w w5 ∧ (okS (upF R C j t st2 (n + 1)) = true → LvM R C na nu bf ba B w (upF R C j t st2 (n + 1)) w5)) := fun e w5 hd => ⟨hd.1, WR.out.fr.trans hd.2.1, fun h9 => WR.out.next hd HL.out.1 HL.out.2 h9⟩
          have EN : n + 1 + (t - (n + 1)) = t := by omega
          rw [EN] at RB
          obtain ⟨a0, a1, -, -⟩ := WR.out.pt.all
          clear SZ KP EN
          go_wp2_with fail
          refine DV1.out.mono ?_
          rintro e w5 hd
          obtain ⟨rfl, hf5, h5⟩ := NX.out e w5 hd
          have F5 := Lib.hid hf5
          have H5 := Lib.hid h5
          clear hd hf5 h5 DV1 NX a0 a1
          cases ho : okS (upF R C j t st2 (n + 1)) with
          | true =>
            have O5 := Lib.hid ho
            have W5 := Lib.hid (H5.out ho)
            clear ho
            go_wp2_with fail
            go_roundw
            case rel => exact ⟨n + 1, by go_num, by omega, O5.out, W5.out⟩
            case measure => simp [intOf]; omega
          | false =>
            have V := Lib.hid (CB1.out (RB.out ho))
            clear ho
            go_wp2_with fail
            go_ret
            exact ⟨F5.out, .inr ⟨V.out, rfl⟩⟩
        · obtain rfl : n = t := by omega
          have V := Lib.hid (CO1.out OK.out)
          clear hlt
          go_wp2_with fail
          go_ret
          exact ⟨WR.out.fr, .inl ⟨_, V.out, rfl, WR.out.ac⟩⟩
end Go.Proofs.Ytpelnfenfeoeeaa
end

section
/-
  Chapter 7, in the program: a row made primitive (the closure of EchelonOf).
-/
namespace Go.Proofs.Ytpelnfenfeoeeaa
set_option maxRecDepth 100000
open Go.RowKit
def Cel (w : World) (q : Option Addr) (N cap g : Nat) (xs : List Int) : Prop := (q = none ∧ cap = 0 ∧ N = 0 ∧ xs = []) ∨ (q = some ⟨g, 0, none⟩ ∧ N ≤ cap ∧ xs.length = N ∧ Ints w g xs)
theorem Cel.len {w : World} {q : Option Addr} {N cap g : Nat} {xs : List Int} (h : Cel w q N cap g xs) : xs.length = N := by
  rcases h with ⟨-, -, h1, h2⟩ | ⟨-, -, h, -⟩
  · rw [h1, h2]; rfl
  · exact h
theorem Cel.rd {w : World} {q : Option Addr} {N cap g : Nat} {xs : List Int} (h : Cel w q N cap g xs) : Rd w q xs := by
  rcases h with ⟨-, -, -, rfl⟩ | ⟨rfl, -, -, h⟩
  · exact Rd.nil _ _
  · exact h.rd
end Go.Proofs.Ytpelnfenfeoeeaa
end

section
/-
  Chapter 7, in the program: the pivot's row of any matrix.
-/
namespace Go.Proofs.Ytpelnfenfeoeeaa
set_option maxRecDepth 100000
open Go.RowKit
def pvR (r c j t : Nat) (xs : List Int) : Int := if fstR c j xs (r - t) t = r then -1 else (fstR c j xs (r - t) t : Int)
set_option maxHeartbeats 1000000 in
theorem iPivR (r c t j N cap g : Nat) (q : Option Addr) (xs : List Int) (w : World) (hN : N = r * c) (hr : r ≤ 24) (hc : c ≤ 24) (ht : t ≤ r) (hj : j < c) (hg : Cel w q N cap g xs) :
    Calls Try.prog 89 #[.agg #[.int .i64 r, .int .i64 c, .slice q N cap], .int .i64 t, .int .i64 j] w (Gives (.int .i64 (pvR r c j t xs)) w) := by
  have hle : r * c ≤ 24 * 24 := Nat.mul_le_mul hr hc
  rw [← hN] at hle
  have hx := hg.len
  have hl : xs.length = r * c := by rw [hx, hN]
  have IX : Hid (∀ i, i < r → ∃ P : Nat, i * c + j = P ∧ P < N ∧ IntKind.i64.wrap ((i : Int) * (c : Int)) = (i : Int) * (c : Int) ∧ IntKind.i64.wrap ((i : Int) * (c : Int) + (j : Int)) = (P : Int)) := fun i hi => by
    have h1 : i * c + j < r * c := idx_lt hi hj
    have c1 : (i : Int) * (c : Int) = ((i * c : Nat) : Int) := (Int.natCast_mul _ _).symm
    refine ⟨i * c + j, rfl, by omega, IntWalk.i64_in _ (by rw [c1]; omega), ?_⟩
    rw [show (i : Int) * (c : Int) + (j : Int) = ((i * c + j : Nat) : Int) by rw [c1]; omega]
    exact IntWalk.i64_in _ (by omega)
  have BW : Hid (Below w.heap.size w (w.alloc (.cells #[.int .i64 r, .int .i64 c, .slice q N cap] 26))) := (Below.refl _ _).alloc (Nat.le_refl _) _
  have K0 : Hid (Blk3 (w.alloc (.cells #[.int .i64 r, .int .i64 c, .slice q N cap] 26)) w.heap.size 26 (.int .i64 r) (.int .i64 c) (.slice q N cap)) := Blk3.at_ _ _ _ _ rfl
  have CX : Hid (∀ i P, i < r → i * c + j = P → ∃ b o : Nat, q = some ⟨b, o, none⟩ ∧ (w.alloc (.cells #[.int .i64 r, .int .i64 c, .slice q N cap] 26)).cell? ⟨b, o + P, none⟩ = some (.int .i64 (mxC c xs i j))) := fun i P hi hP => by
    subst hP
    exact hg.rd.below BW.out _ (by rw [hl]; exact idx_lt hi hj)
  clear hN hx hl hg
  go_enter Try.func89, Try.ntmps89
  go_wp2_with fail
  generalize w.alloc (.cells #[.int .i64 r, .int .i64 c, .slice q N cap] 26) = W at BW K0 CX
  obtain ⟨p0, p1, p2, -, -, -⟩ := K0.out.all
  go_loopw [6, 7] (fun _ v7 wq => ∃ p : Nat, v7 = .int .i64 p ∧ t ≤ p ∧ p ≤ r ∧ (∀ i, t ≤ i → i < p → mxC c xs i j = 0) ∧ wq = W) (fun _ v7 _ => r - (intOf v7).toNat)
  case atStart => exact ⟨t, rfl, Nat.le_refl _, by omega, fun i h1 h2 => by omega, rfl⟩
  case round =>
    obtain ⟨p, rfl, hp1, hp2, hp0, rfl⟩ := hrel
    have P0 := Lib.hid hp0
    clear hp0
    by_cases hpn : p < r
    · obtain ⟨P, hP, hPN, u1, u2⟩ := IX.out p hpn
      have Pa : (0 : Int) ≤ (P : Int) := by omega
      have Pb : (P : Int) < (N : Int) := by omega
      obtain ⟨b, o, rfl, hcell⟩ := CX.out p P hpn hP
      obtain ⟨x, hxx⟩ : ∃ x, mxC c xs p j = x := ⟨_, rfl⟩
      have X := Lib.hid hxx
      rw [hxx] at hcell
      clear hxx hP
      by_cases h0 : x = 0
      · have n1 : (x != 0) = false := by simp [h0]
        have n2 : (x == 0) = true := by simp [h0]
        have P1 : Hid (∀ i, t ≤ i → i < p + 1 → mxC c xs i j = 0) := fun i h1 h2 => by
          rcases Nat.lt_or_ge i p with h3 | h3
          · exact P0.out i h1 h3
          · obtain rfl : i = p := by omega
            rw [X.out, h0]
        clear h0
        go_wp2_with fail
        go_roundw
        case rel => exact ⟨p + 1, by go_num, by omega, by omega, P1.out, trivial⟩
        case measure => simp [intOf]; omega
      · have n1 : (x != 0) = true := by simpa using h0
        have n2 : (x == 0) = false := by simpa using h0
        have PV : Hid (pvR r c j t xs = p) := by
          have e : fstR c j xs (r - t) t = p := fstR_eq hp1 (by omega) P0.out fun _ => by rw [X.out]; exact h0
          show pvR r c j t xs = p
          unfold pvR
          rw [e, if_neg (by omega)]
        clear h0
        go_wp2_with fail
        go_ret
        exact ⟨by rw [PV.out]; rfl, BW.out⟩
    · have hpe : p = r := by omega
      have PV : Hid (pvR r c j t xs = -1) := by
        show pvR r c j t xs = -1
        unfold pvR
        rw [if_pos ((fstR_eq hp1 (by omega) P0.out fun h => by omega).trans hpe)]
      clear hpe
      go_wp2_with fail
      go_ret
      exact ⟨by rw [PV.out]; rfl, BW.out⟩
end Go.Proofs.Ytpelnfenfeoeeaa
end

section
/-
  Chapter 3, in the program: IdentityMatrix.
-/
namespace Go.Proofs.Ytpelnfenfeoeeaa
open Go.RowKit
set_option maxHeartbeats 1000000 in
theorem iIdent_t (n : Nat) (w : World) (hn : n ≤ 24) :
    Calls Try.prog 59 #[.int .i64 n] w (MatRes ⟨true, n, n, idL n n⟩ w) := by
  have hle : n * n ≤ 24 * 24 := Nat.mul_le_mul hn hn
  have B0 : ∀ o1, Below w.heap.size w (w.alloc o1) := fun o1 => (Below.refl _ _).alloc (Nat.le_refl _) _
  have BH := Lib.hid B0
  clear B0
  go_enter Try.func59, Try.ntmps59
  go_wp2_with fail
  refine (iSize_t n _ (by omega) (by omega)).mono ?_
  rintro e w2 ⟨rfl, rfl⟩
  have hmk := makeProd n n (by omega)
  obtain ⟨N, hN⟩ : ∃ N, n * n = N := ⟨_, rfl⟩
  have HN := Lib.hid hN
  have hp1 : (0 : Int) ≤ (n : Int) * (n : Int) := by rw [← Int.natCast_mul]; omega
  have hp2 : (n : Int) * (n : Int) ≤ 16777216 := by rw [← Int.natCast_mul]; omega
  rw [hN] at hmk hle
  clear hN
  have B2 := Lib.hid (((BH.out (.cells #[.int .i64 0, .int .i64 0, .slice none 0 0] 26)).alloc (by simp) (.cells (madeCells #[.int .i64 0] N) 3)).alloc (by simp <;> omega) (.cells #[.int .i64 n, .int .i64 n, .slice (some ⟨w.heap.size + 1, 0, none⟩) N N] 26))
  have K2 : Hid (Blk3 (((w.alloc (.cells #[.int .i64 0, .int .i64 0, .slice none 0 0] 26)).alloc (.cells (madeCells #[.int .i64 0] N) 3)).alloc (.cells #[.int .i64 n, .int .i64 n, .slice (some ⟨w.heap.size + 1, 0, none⟩) N N] 26)) w.heap.size 26 (.int .i64 0) (.int .i64 0) (.slice none 0 0)) := ((Blk3.at_ _ _ _ _ rfl).old _).old _
  have K6 : Hid (Blk3 (((w.alloc (.cells #[.int .i64 0, .int .i64 0, .slice none 0 0] 26)).alloc (.cells (madeCells #[.int .i64 0] N) 3)).alloc (.cells #[.int .i64 n, .int .i64 n, .slice (some ⟨w.heap.size + 1, 0, none⟩) N N] 26)) (w.heap.size + 2) 26 (.int .i64 n) (.int .i64 n) (.slice (some ⟨w.heap.size + 1, 0, none⟩) N N)) := Blk3.at_ _ _ _ _ (by simp)
  have I : Hid (Ints (((w.alloc (.cells #[.int .i64 0, .int .i64 0, .slice none 0 0] 26)).alloc (.cells (madeCells #[.int .i64 0] N) 3)).alloc (.cells #[.int .i64 n, .int .i64 n, .slice (some ⟨w.heap.size + 1, 0, none⟩) N N] 26)) (w.heap.size + 1) (List.replicate N 0)) := (Ints.made N (by simp)).old _
  go_wp2_with fail
  go_wp2_with fail
  go_loopw [5, 18] (fun _ i wr => ∃ k : Nat, i = .int .i64 k ∧ k ≤ n ∧ Ints wr (w.heap.size + 1) (idL n k) ∧ (((w.alloc (.cells #[.int .i64 0, .int .i64 0, .slice none 0 0] 26)).alloc (.cells (madeCells #[.int .i64 0] N) 3)).alloc (.cells #[.int .i64 n, .int .i64 n, .slice (some ⟨w.heap.size + 1, 0, none⟩) N N] 26)).grownBy wr (some (w.heap.size + 1))) (fun _ i _ => n - (intOf i).toNat)
  case atStart => exact ⟨0, rfl, by omega, by rw [idL_zero, HN.out]; exact I.out, World.grownBy.refl _ _⟩
  case round =>
    obtain ⟨k, rfl, hk, hi, hgr⟩ := hrel
    have I := Lib.hid hi
    have G := Lib.hid hgr
    clear hi hgr
    have R2 := Lib.hid (K2.out.keepOne G.out (by omega))
    have R6 := Lib.hid (K6.out.keepOne G.out (by omega))
    obtain ⟨r0, r1, r2, -, -, -⟩ := R6.out.all
    by_cases hlt : k < n
    · have i1 : k * n + k < N := by rw [← HN.out]; exact idx_lt hlt hlt
      have hold := I.out.cell (i := k * n + k) (by rw [idL_length, HN.out]; exact i1)
      rw [idL_at] at hold
      have hfr := I.out.free (k * n + k)
      have c1 : (k : Int) * (n : Int) = ((k * n : Nat) : Int) := (Int.natCast_mul _ _).symm
      have d1 : 0 ≤ (k : Int) * (n : Int) ∧ (k : Int) * (n : Int) ≤ 600 := by rw [c1]; omega
      have e1 : 0 ≤ (k : Int) * (n : Int) + (k : Int) := by omega
      have e2 : (k : Int) * (n : Int) + (k : Int) < (N : Int) := by rw [c1]; omega
      have e3 : ((k : Int) * (n : Int) + (k : Int)).toNat = k * n + k := by rw [c1]; omega
      obtain ⟨d11, d12⟩ := d1
      have v1 : IntKind.i64.wrap ((k : Int) * (n : Int)) = (k : Int) * (n : Int) := IntWalk.i64_in _ (by omega)
      have v2 : IntKind.i64.wrap ((k : Int) * (n : Int) + (k : Int)) = (k : Int) * (n : Int) + (k : Int) := IntWalk.i64_in _ (by omega)
      clear c1
      go_wp2_with fail
      go_roundw
      case rel =>
        refine ⟨k + 1, by go_num, by omega, ?_, ?_⟩
        · rw [← idL_step]
          first | exact I.out.set (k * n + k) _ | exact I.out.drew.set (k * n + k) _
        · first | exact grown_set_one G.out rfl _ | exact grown_drew_one (grown_set_one G.out rfl _)
      case measure => simp [intOf]; omega
    · have hkn : k = n := by omega
      subst hkn
      have BW := Lib.hid (B2.out.trans (below_of_one G.out (by omega) B2.out.size))
      obtain ⟨s0, s1, s2, t0, t1, t2⟩ := R2.out.all
      go_wp2_with fail
      obtain ⟨E0, E1, E2, -, -, -⟩ := (((R2.out.set0 (.int .i64 k)).set1 (.int .i64 k)).set2 (.slice (some ⟨w.heap.size + 1, 0, none⟩) N N)).all
      refine bodyPost_ret (v := .tuple #[.agg #[.int .i64 k, .int .i64 k, .slice (some ⟨w.heap.size + 1, 0, none⟩) N N], .bool true]) (by simp [results, Try.results59, go_sem, E0, E1, E2]) rfl ⟨_, rfl, ?_, ?_⟩
      · refine .inr ⟨w.heap.size + 1, N, by rw [idL_length, HN.out], by omega, ?_, by simp [idL_length, HN.out], by simp [idL_length, HN.out]; omega⟩
        exact ((I.out.far (by show w.heap.size + 1 ≠ w.heap.size; omega) _).far (by show w.heap.size + 1 ≠ w.heap.size; omega) _).far (by show w.heap.size + 1 ≠ w.heap.size; omega) _
      · exact ((BW.out.setCell (Nat.le_refl _) _).setCell (Nat.le_refl _) _).setCell (Nat.le_refl _) _
end Go.Proofs.Ytpelnfenfeoeeaa
end
