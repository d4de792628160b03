/-
  Texts of this seat, joined: ZBTsD · ZBTsB · ZBTsQ · ZBLcI · ZBClO · ZBTsR · ZBUdI · ZBAnI
-/
import Derived.Deep.DeepCutAuto
import Derived.IntWalk
import Derived.Test.YtpelnfenfeoeeaaPk34
import Derived.Test.YtpelnfenfeoeeaaPk37
import Derived.Test.YtpelnfenfeoeeaaPk38
import Derived.Test.YtpelnfenfeoeeaaPk39
import Derived.Test.YtpelnfenfeoeeaaPk43

section
/-
  Chapter 13, in the program: an operation on the rows, an operation on the columns.
-/
namespace Go.Proofs.Ytpelnfenfeoeeaa
set_option maxRecDepth 100000
open Go.RowKit
def TsRes (R C px B : Nat) (s' : SSt) (w : World) (e : Ending) (w' : World) : Prop :=
  e = .returned (.bool (ok3 s')) ∧ FrS (fun b => b = px) w w' ∧ (ok3 s' = true → TsW R C px B s' w')
theorem le600 {R C : Nat} (hR : R ≤ 24) (hC : C ≤ 24) : R * C ≤ 600 := Nat.le_trans (Nat.mul_le_mul hR hC) (by decide)
def rwT (R C px B : Nat) (k : Int) (I J : Nat) (z : Int) (s : SSt) : Nat → World → Prop
  | 0 => TsW R C px B s
  | 1 => TsW R C px B (opL k I J z C s.1, s.2.1, s.2.2)
  | _ => TsW R C px B (row3 R C k I J z s)
theorem iDoR (R C px B I J : Nat) (k z : Int) (s : SSt) (w : World) (h : TsW R C px B s w) (hR : R ≤ 24) (hC : C ≤ 24) (ho : ok3 s = true) (hop : isOp k I J z R = true) :
    Calls Try.prog 141 #[.agg #[.pointer (some ⟨px, 0, none⟩), .pointer (some ⟨px, 3, none⟩)], .agg #[.int .i64 k, .int .i64 I, .int .i64 J, .int .i64 z]] w (TsRes R C px B (row3 R C k I J z s) w) := by
  obtain ⟨n1, n2, n3⟩ := ok3_and ho
  have hS := h.siz
  have S2 := hS.row k I J z
  have l1 : (opL k I J z C s.1).length = R * C := S2.l1
  have l2 : (opL k I J z R s.2.1).length = R * R := S2.l2
  have hc := iDoG R px 0 px 3 I J k z (rwT R C px B k I J z s) (fun i => if i = 0 then nums (opL k I J z C s.1) else nums (opL k I J z R s.2.1)) w (fun w' hb => h.step hb) h.lt h.lt (Lib.hid fun i wq hi hw hst h1 => by
    rcases i with _ | _ | i
    · obtain ⟨qa, qu, qv, ma, mu, mv, q⟩ := (show TsW R C px B s wq from hst)
      exact ⟨px, 0, C, R * C, qa, ma, s.1, opL k I J z C s.1, q.k.f, q.fA.rdS, hS.l1, l1, q.fA.celA.spot, opM_case (isMat_mk hR hC hS.l1 n1) hop l1, rfl, rfl, le600 hR hC, fun w1 qq m hb hw => q.putF hb hw ⟨l1, hS.l2, hS.l3, S2.m1, hS.m2, hS.m3⟩⟩
    · obtain ⟨qa, qu, qv, ma, mu, mv, q⟩ := (show TsW R C px B (opL k I J z C s.1, s.2.1, s.2.2) wq from hst)
      exact ⟨px, 3, R, R * R, qu, mu, s.2.1, opL k I J z R s.2.1, q.k.r, q.fU.rdS, hS.l2, l2, q.fU.celA.spot, opM_case (isMat_mk hR hR hS.l2 n2) hop l2, rfl, rfl, le600 hR hR, fun w1 qq m hb hw => q.putR hb hw S2⟩
    · omega)
  refine hc.mono ?_
  rintro e w' ⟨h1, h2, h3⟩
  have e1 : ((fun i => if i = 0 then nums (opL k I J z C s.1) else nums (opL k I J z R s.2.1)) 0 && (fun i => if i = 0 then nums (opL k I J z C s.1) else nums (opL k I J z R s.2.1)) 1) = ok3 (row3 R C k I J z s) := by
    show (nums (opL k I J z C s.1) && nums (opL k I J z R s.2.1)) = (nums (opL k I J z C s.1) && nums (opL k I J z R s.2.1) && nums s.2.2)
    rw [n3, Bool.and_true]
  rw [e1] at h1 h3
  exact ⟨h1, h2.mono fun b hb => by rcases hb with e | e <;> exact e, h3⟩
theorem d0F {W w' : World} {b : Nat} {t : TypeId} {p q r s : Value} (h : Blk4 W b t p q r s) (hb : Below W.heap.size W w') : w'.cell? ⟨b, 0, none⟩ = some p ∧ w'.cell? ⟨b, 1, none⟩ = some q ∧ w'.cell? ⟨b, 2, none⟩ = some r ∧ w'.cell? ⟨b, 3, none⟩ = some s := (h.keep hb h.lt).all
set_option maxHeartbeats 2000000 in
theorem iDoRow (R C px B I J : Nat) (k z : Int) (s : SSt) (w : World) (h : TsW R C px B s w) (hR : R ≤ 24) (hC : C ≤ 24) (ho : ok3 s = true) (hop : isOp k I J z R = true) :
    Calls Try.prog 120 #[.pointer (some ⟨px, 0, none⟩), .agg #[.int .i64 k, .int .i64 I, .int .i64 J, .int .i64 z]] w (TsRes R C px B (row3 R C k I J z s) w) := by
  have D : Hid (∀ w', Below w.heap.size w w' → Calls Try.prog 141 #[.agg #[.pointer (some ⟨px, 0, none⟩), .pointer (some ⟨px, 3, none⟩)], .agg #[.int .i64 k, .int .i64 I, .int .i64 J, .int .i64 z]] w' (TsRes R C px B (row3 R C k I J z s) w')) := fun w' hb => iDoR R C px B I J k z s w' (h.step hb) hR hC ho hop
  have B0 : Hid (Below w.heap.size w (w.alloc (.cells #[.int .i64 k, .int .i64 I, .int .i64 J, .int .i64 z] 97))) := (Below.refl _ _).alloc (Nat.le_refl _) _
  have K0 : Hid (Blk4 (w.alloc (.cells #[.int .i64 k, .int .i64 I, .int .i64 J, .int .i64 z] 97)) w.heap.size 97 (.int .i64 k) (.int .i64 I) (.int .i64 J) (.int .i64 z)) := Blk4.at_ _ _ _ _ _ rfl
  generalize row3 R C k I J z s = s' at D ⊢
  clear h hR hC ho hop
  go_enter Try.func120, Try.ntmps120
  go_upto_region 1 with fail
  generalize w.alloc (.cells #[.int .i64 k, .int .i64 I, .int .i64 J, .int .i64 z] 97) = W0 at B0 K0 ⊢
  refine wp_region_T (S := fun w' => Below W0.heap.size W0 w') (T := fun j => j == 8 || j == 9) (by kernel_rfl) (Below.refl _ _).drew (fun hH => ?_)
  refine wpAnyT_take (i := 0) (v := ?_) (by simp only [List.getElem?_toArray, List.getElem?_cons_zero]; rfl) (by kernel_rfl) (by kernel_rfl) (by kernel_rfl) (by kernel_rfl) (two_only 8 9 (by kernel_rfl) (by kernel_rfl)) (by exact fun _ _ _ h => h) (Or.inl ⟨by rfl, ?_⟩) hH ?_
  rotate_left
  · (intro wS hS; clear hS; go_simp; try rfl)
  try simp only [Act.put, List.setIfInBounds_toArray, List.set_cons_zero, List.set_cons_succ]
  refine wpAnyT_take (i := 1) (v := ?_) (by simp only [List.getElem?_toArray, List.getElem?_cons_succ, List.getElem?_cons_zero]; rfl) (by kernel_rfl) (by kernel_rfl) (by kernel_rfl) (by kernel_rfl) (two_only 8 9 (by kernel_rfl) (by kernel_rfl)) (by exact fun _ _ _ h => h) (Or.inl ⟨by rfl, ?_⟩) hH ?_
  rotate_left
  · (intro wS hS; clear hS; go_simp; try rfl)
  try simp only [Act.put, List.setIfInBounds_toArray, List.set_cons_zero, List.set_cons_succ]
  refine wpAnyT_take (i := 2) (v := ?_) (by simp only [List.getElem?_toArray, List.getElem?_cons_succ, List.getElem?_cons_zero]; rfl) (by kernel_rfl) (by kernel_rfl) (by kernel_rfl) (by kernel_rfl) (two_only 8 9 (by kernel_rfl) (by kernel_rfl)) (by exact fun _ _ _ h => h) (Or.inl ⟨by rfl, ?_⟩) hH ?_
  rotate_left
  · (intro wS hS; clear hS; go_simp; try rfl)
  try simp only [Act.put, List.setIfInBounds_toArray, List.set_cons_zero, List.set_cons_succ]
  refine wpAnyT_take (i := 3) (v := ?_) (by simp only [List.getElem?_toArray, List.getElem?_cons_succ, List.getElem?_cons_zero]; rfl) (by kernel_rfl) (by kernel_rfl) (by kernel_rfl) (by kernel_rfl) (two_only 8 9 (by kernel_rfl) (by kernel_rfl)) (by exact fun _ _ _ h => h) (Or.inl ⟨by rfl, ?_⟩) hH ?_
  rotate_left
  · (intro wS hS; clear hS; go_simp; try rfl)
  try simp only [Act.put, List.setIfInBounds_toArray, List.set_cons_zero, List.set_cons_succ]
  refine wpAnyT_take (i := 4) (v := ?_) (by simp only [List.getElem?_toArray, List.getElem?_cons_succ, List.getElem?_cons_zero]; rfl) (by kernel_rfl) (by kernel_rfl) (by kernel_rfl) (by kernel_rfl) (two_only 8 9 (by kernel_rfl) (by kernel_rfl)) (by exact fun _ _ _ h => h) (Or.inl ⟨by rfl, ?_⟩) hH ?_
  rotate_left
  · (intro wS hS; clear hS; go_simp; try rfl)
  try simp only [Act.put, List.setIfInBounds_toArray, List.set_cons_zero, List.set_cons_succ]
  refine wpAnyT_take (i := 5) (v := ?_) (by simp only [List.getElem?_toArray, List.getElem?_cons_succ, List.getElem?_cons_zero]; rfl) (by kernel_rfl) (by kernel_rfl) (by kernel_rfl) (by kernel_rfl) (two_only 8 9 (by kernel_rfl) (by kernel_rfl)) (by exact fun _ _ _ h => h) (Or.inl ⟨by rfl, ?_⟩) hH ?_
  rotate_left
  · (intro wS hS; clear hS; go_simp; try rfl)
  try simp only [Act.put, List.setIfInBounds_toArray, List.set_cons_zero, List.set_cons_succ]
  refine wpAnyT_take (i := 6) (v := ?_) (by simp only [List.getElem?_toArray, List.getElem?_cons_succ, List.getElem?_cons_zero]; rfl) (by kernel_rfl) (by kernel_rfl) (by kernel_rfl) (by kernel_rfl) (two_only 8 9 (by kernel_rfl) (by kernel_rfl)) (by exact fun _ _ _ h => h) (Or.inl ⟨by rfl, ?_⟩) hH ?_
  rotate_left
  · (intro wS hS; clear hS; go_simp; try rfl)
  try simp only [Act.put, List.setIfInBounds_toArray, List.set_cons_zero, List.set_cons_succ]
  refine wpAnyT_take (i := 7) (v := ?_) (by simp only [List.getElem?_toArray, List.getElem?_cons_succ, List.getElem?_cons_zero]; rfl) (by kernel_rfl) (by kernel_rfl) (by kernel_rfl) (by kernel_rfl) (two_only 8 9 (by kernel_rfl) (by kernel_rfl)) (by exact fun _ _ _ h => h) (Or.inl ⟨by rfl, ?_⟩) hH ?_
  rotate_left
  · (intro wS hS; (try dsimp only at hS); obtain ⟨k1, k2, k3, k4⟩ := d0F K0.out hS; go_simp; try rfl)
  try simp only [Act.put, List.setIfInBounds_toArray, List.set_cons_zero, List.set_cons_succ]
  refine wpAnyT_ready (rs := [8]) (by kernel_rfl) (by simp) ?_
  refine AllReadyT.cons (by simp only [List.getElem?_toArray, List.getElem?_cons_succ, List.getElem?_cons_zero]; rfl) (fun K hK => ?_) AllReadyT.nil
  go_simp
  (with_reducible refine (D.out _ (B0.out.trans (hH.mono B0.out.size))).mono ?_)
  rintro e v1 ⟨rfl, hf, hs⟩
  have hH := Lib.hid (B0.out.trans (hH.mono B0.out.size))
  try dsimp only
  refine hK.out _ _ (fun h => by cases h) ?_
  clear hK K
  try simp only [Act.put, List.setIfInBounds_toArray, List.set_cons_zero, List.set_cons_succ]
  refine wpAnyT_ready (rs := [9]) (by kernel_rfl) (by simp) ?_
  refine AllReadyT.cons (by simp only [List.getElem?_toArray, List.getElem?_cons_succ, List.getElem?_cons_zero]; rfl) (fun K hK => ?_) AllReadyT.nil
  go_simp
  try dsimp only
  refine hK.out _ _ (fun h => by cases h) ?_
  clear hK K
  try simp only [Act.put, List.setIfInBounds_toArray, List.set_cons_zero, List.set_cons_succ]
  refine wpAnyT_done (by kernel_rfl) ?_ _
  go_wp2_with fail
  go_ret
  exact ⟨rfl, (FrS.of_below hH.out).trans hf, hs⟩
structure ClT (R C px B bt : Nat) (s : SSt) (zs : List Int) (w : World) : Prop where
  t : ∃ q m, Blk3 w bt 26 (.int .i64 C) (.int .i64 R) (.slice q (C * R) m) ∧ Own B w (.slice q (C * R) m) (turnL R C zs)
  x : TsW R C px B s w
  ne : bt ≠ px
def clT (R C px B bt : Nat) (k : Int) (I J : Nat) (z : Int) (s : SSt) : Nat → World → Prop
  | 0 => ClT R C px B bt s s.1
  | 1 => ClT R C px B bt s (colL k I J z C s.1)
  | _ => ClT R C px B bt (s.1, s.2.1, colL k I J z C s.2.2) (colL k I J z C s.1)
theorem ClT.step {R C px B bt : Nat} {s : SSt} {zs : List Int} {w w' : World} (h : ClT R C px B bt s zs w) (hb : Below w.heap.size w w') : ClT R C px B bt s zs w' := by
  obtain ⟨⟨q, m, h1, h2⟩, h3, h4⟩ := h
  exact ⟨⟨q, m, h1.step hb, h2.keep hb⟩, h3.step hb, h4⟩
theorem iDoC (R C px B bt I J : Nat) (k z : Int) (s : SSt) (w : World) (h : ClT R C px B bt s s.1 w) (hR : R ≤ 24) (hC : C ≤ 24) (ho : ok3 s = true) (hop : isOp k I J z C = true) (hk : k = 0 ∨ k = 2) (hI : I < C) (hJ : J < C) :
    Calls Try.prog 141 #[.agg #[.pointer (some ⟨bt, 0, none⟩), .pointer (some ⟨px, 6, none⟩)], .agg #[.int .i64 k, .int .i64 I, .int .i64 J, .int .i64 z]] w (fun e w' => e = .returned (.bool (ok3 (col3 C k I J z s))) ∧ FrS (fun b => b = bt ∨ b = px) w w' ∧ (ok3 (col3 C k I J z s) = true → ClT R C px B bt (s.1, s.2.1, colL k I J z C s.2.2) (colL k I J z C s.1) w')) := by
  obtain ⟨n1, n2, n3⟩ := ok3_and ho
  have hS := h.x.siz
  have S2 := hS.col k I J z
  have c1 : (colL k I J z C s.1).length = R * C := S2.l1
  have c3 : (colL k I J z C s.2.2).length = C * C := S2.l3
  have t1 : opL k I J z R (turnL R C s.1) = turnL R C (colL k I J z C s.1) := turn_col hk hS.l1 hI hJ
  have t3 : opL k I J z C (turnL C C s.2.2) = turnL C C (colL k I J z C s.2.2) := turn_col hk hS.l3 hI hJ
  have l1 : (opL k I J z R (turnL R C s.1)).length = C * R := by rw [opL_length, turnL_length]
  have l3 : (opL k I J z C (turnL C C s.2.2)).length = C * C := by rw [opL_length, turnL_length]
  have e1 : nums (opL k I J z R (turnL R C s.1)) = nums (colL k I J z C s.1) := by rw [t1, nums_turn c1]
  have e3 : nums (opL k I J z C (turnL C C s.2.2)) = nums (colL k I J z C s.2.2) := by rw [t3, nums_turn c3]
  have lt2 : bt < w.heap.size := by obtain ⟨⟨q, m, h1, -⟩, -, -⟩ := h; exact h1.lt
  have hc := iDoG C bt 0 px 6 I J k z (clT R C px B bt k I J z s) (fun i => if i = 0 then nums (colL k I J z C s.1) else nums (colL k I J z C s.2.2)) w (fun w' hb => h.step hb) lt2 h.x.lt (Lib.hid fun i wq hi hw hst h1 => by
    rcases i with _ | _ | i
    · obtain ⟨⟨q, m, h1, h2⟩, h3, h4⟩ := (show ClT R C px B bt s s.1 wq from hst)
      refine ⟨bt, 0, R, C * R, q, m, turnL R C s.1, opL k I J z R (turnL R C s.1), h1.p3, h2.rdS, turnL_length _ _ _, l1, h2.celA.spot, by rw [opM_case (isMat_mk hC hR (turnL_length _ _ _) (by rw [nums_turn hS.l1]; exact n1)) hop l1, e1]; rfl, rfl, rfl, le600 hC hR, fun w1 qq mm hb ho => ?_⟩
      rw [t1] at ho
      obtain ⟨qa, qu, qv, ma, mu, mv, qx⟩ := h3
      have qx1 := qx.step hb
      have hf : ∀ k, k ≠ bt → (put3 w1 bt 0 (.int .i64 C) (.int .i64 R) (.slice qq (C * R) mm)).heap[k]? = w1.heap[k]? := fun k hk => put3_far hk
      have ob : (Value.slice qq (C * R) mm).ownBlock ≠ some bt := fun e => by have := ho.lt_of e; have := h1.lt; omega
      have nb : ∀ (u : Value) ys, Own B w1 u ys → u.ownBlock ≠ some bt := fun u ys hu => hu.ne_box (h1.step hb)
      exact ⟨⟨qq, mm, ((((h1.step hb).set0 _).set1 _).set2 _), (ho.put ob).le qx.bB⟩, ⟨qa, qu, qv, ma, mu, mv, qx1.k.move (hf px (Ne.symm h4)), qx1.fA.put (nb _ _ qx1.fA), qx1.fU.put (nb _ _ qx1.fU), qx1.fV.put (nb _ _ qx1.fV), qx1.df, qx1.siz, by rw [put3_size]; exact qx1.bB⟩, h4⟩
    · obtain ⟨⟨q, m, h1, h2⟩, h3, h4⟩ := (show ClT R C px B bt s (colL k I J z C s.1) wq from hst)
      obtain ⟨qa, qu, qv, ma, mu, mv, qx⟩ := h3
      refine ⟨px, 6, C, C * C, qv, mv, turnL C C s.2.2, opL k I J z C (turnL C C s.2.2), qx.k.c, qx.fV.rdS, turnL_length _ _ _, l3, qx.fV.celA.spot, by rw [opM_case (isMat_mk hC hC (turnL_length _ _ _) (by rw [nums_turn hS.l3]; exact n3)) hop l3, e3]; rfl, rfl, rfl, le600 hC hC, fun w1 qq mm hb ho => ?_⟩
      rw [t3] at ho
      have hx := qx.putC hb ho ⟨hS.l1, hS.l2, c3, hS.m1, hS.m2, S2.m3⟩
      have h2' := h2.keep hb
      exact ⟨⟨q, m, (put3_far h4).trans (h1.step hb), h2'.put (h2'.ne9 (qx.step hb).k)⟩, hx, h4⟩
    · omega)
  refine hc.mono ?_
  rintro e w' ⟨h1, h2, h3⟩
  have ee : ((fun i => if i = 0 then nums (colL k I J z C s.1) else nums (colL k I J z C s.2.2)) 0 && (fun i => if i = 0 then nums (colL k I J z C s.1) else nums (colL k I J z C s.2.2)) 1) = ok3 (col3 C k I J z s) := by
    show (nums (colL k I J z C s.1) && nums (colL k I J z C s.2.2)) = (nums (colL k I J z C s.1) && nums s.2.1 && nums (colL k I J z C s.2.2))
    rw [n2, Bool.and_true]
  rw [ee] at h1 h3
  exact ⟨h1, h2, h3⟩
set_option maxHeartbeats 4000000 in
theorem iDoCol (R C px B I J : Nat) (k z : Int) (s : SSt) (w : World) (h : TsW R C px B s w) (hR : R ≤ 24) (hC : C ≤ 24) (ho : ok3 s = true) (hop : isOp k I J z C = true) (hk : k = 0 ∨ k = 2) (hI : I < C) (hJ : J < C) :
    Calls Try.prog 148 #[.pointer (some ⟨px, 0, none⟩), .agg #[.int .i64 k, .int .i64 I, .int .i64 J, .int .i64 z]] w (TsRes R C px B (col3 C k I J z s) w) := by
  obtain ⟨n1, n2, n3⟩ := ok3_and ho
  have hS := h.siz
  have S2 := hS.col k I J z
  have hm := isMat_mk hR hC hS.l1 n1
  have TU : Hid (∀ (a : Option Addr) (m : Nat) w', Rd w' a s.1 → Calls Try.prog 35 #[.agg #[.int .i64 R, .int .i64 C, .slice a (R * C) m]] w' (MatRes ⟨true, C, R, turnL R C s.1⟩ w')) := fun a m w' hr => by
    have := iTurn_t R C a m s.1 w' hr (by rw [hS.l1]; have := le600 hR hC; omega) hm
    rwa [hS.l1] at this
  have DC : Hid (∀ bt w', ClT R C px B bt s s.1 w' → Calls Try.prog 141 #[.agg #[.pointer (some ⟨bt, 0, none⟩), .pointer (some ⟨px, 6, none⟩)], .agg #[.int .i64 k, .int .i64 I, .int .i64 J, .int .i64 z]] w' (fun e w2 => e = .returned (.bool (ok3 (col3 C k I J z s))) ∧ FrS (fun b => b = bt ∨ b = px) w' w2 ∧ (ok3 (col3 C k I J z s) = true → ClT R C px B bt (s.1, s.2.1, colL k I J z C s.2.2) (colL k I J z C s.1) w2))) := fun bt w' h9 => iDoC R C px B bt I J k z s w' h9 hR hC ho hop hk hI hJ
  have TB : Hid (ok3 (col3 C k I J z s) = true → ∀ (a : Option Addr) (m : Nat) w', Rd w' a (turnL R C (colL k I J z C s.1)) → Calls Try.prog 35 #[.agg #[.int .i64 C, .int .i64 R, .slice a (C * R) m]] w' (MatRes ⟨true, R, C, colL k I J z C s.1⟩ w')) := fun h9 a m w' hr => by
    have hl := turnL_length R C (colL k I J z C s.1)
    have hl1 : (colL k I J z C s.1).length = R * C := S2.l1
    have hn : nums (colL k I J z C s.1) = true := (ok3_and h9).1
    have := iTurn_t C R a m (turnL R C (colL k I J z C s.1)) w' hr (by rw [hl]; have := le600 hC hR; omega) (isMat_mk hC hR hl (by rw [nums_turn hl1]; exact hn))
    rw [hl, turn_turn R C _ hl1] at this
    exact this
  have PF : Hid (∀ (w1 w2 : World) (q : Option Addr) (m : Nat), TsW R C px B (s.1, s.2.1, colL k I J z C s.2.2) w1 → Below w1.heap.size w1 w2 → Own w1.heap.size w2 (.slice q (R * C) m) (colL k I J z C s.1) → TsW R C px B (col3 C k I J z s) (put3 w2 px 0 (.int .i64 R) (.int .i64 C) (.slice q (R * C) m))) := fun w1 w2 q m h1 hb h2 => by
    obtain ⟨qa, qu, qv, ma, mu, mv, qx⟩ := h1
    exact qx.putF hb h2 S2
  have ZL : Hid ((turnL R C s.1).length = C * R ∧ (colL k I J z C s.1).length = R * C) := ⟨turnL_length _ _ _, S2.l1⟩
  obtain ⟨s9, hs9⟩ : ∃ s9, col3 C k I J z s = s9 := ⟨_, rfl⟩
  rw [hs9] at DC TB PF ⊢
  obtain ⟨z1, hz1⟩ : ∃ z1, colL k I J z C s.1 = z1 := ⟨_, rfl⟩
  rw [hz1] at DC TB PF ZL
  have W0 := Lib.hid (h.step ((Below.refl _ _).alloc (Nat.le_refl _) (.cells #[.int .i64 k, .int .i64 I, .int .i64 J, .int .i64 z] 97)))
  have LP := Lib.hid h.lt
  have BB : B ≤ w.heap.size := by obtain ⟨qa, qu, qv, ma, mu, mv, qx⟩ := h; exact qx.bB
  have BB := Lib.hid BB
  have B0 : Hid (Below w.heap.size w (w.alloc (.cells #[.int .i64 k, .int .i64 I, .int .i64 J, .int .i64 z] 97))) := (Below.refl _ _).alloc (Nat.le_refl _) _
  have K0 : Hid (Blk4 (w.alloc (.cells #[.int .i64 k, .int .i64 I, .int .i64 J, .int .i64 z] 97)) w.heap.size 97 (.int .i64 k) (.int .i64 I) (.int .i64 J) (.int .i64 z)) := Blk4.at_ _ _ _ _ _ rfl
  clear h hR hC ho hop hS S2 hm n1 n2 n3 hs9 hz1
  go_enter Try.func148, Try.ntmps148
  go_upto_region 1 with fail
  have S0 : Hid ((w.alloc (.cells #[.int .i64 k, .int .i64 I, .int .i64 J, .int .i64 z] 97)).heap.size = w.heap.size + 1) := by show _ = _; simp
  generalize w.alloc (.cells #[.int .i64 k, .int .i64 I, .int .i64 J, .int .i64 z] 97) = W1 at W0 B0 K0 S0 ⊢
  obtain ⟨qa, qu, qv, ma, mu, mv, qx⟩ := W0.out
  have QX := Lib.hid qx
  obtain ⟨c0, c1, c2, -⟩ := qx.k.all
  clear qx
  go_wp2_with fail
  refine (TU.out qa ma _ QX.out.fA.rdS).mono ?_
  rintro e w2 ⟨v, rfl, ho1, hb⟩
  obtain ⟨q2, m2, rfl, -, -⟩ := ho1.form
  have ho1 : Own W1.heap.size w2 (.slice q2 (C * R) m2) (turnL R C s.1) := by rw [← ZL.out.1]; exact ho1
  have O1 := Lib.hid ho1
  have B1 := Lib.hid (B0.out.trans (hb.mono B0.out.size))
  have W2 := Lib.hid (W0.out.step hb)
  have K1 := Lib.hid (K0.out.keep hb K0.out.lt)
  have SB := hb.size
  clear hb c0 c1 c2 QX W0 B0 K0 TU ho1
  rw [show ((turnL R C s.1).length : Nat) = C * R from ZL.out.1]
  have CT : Hid (ClT R C px B w2.heap.size s s.1 (w2.alloc (.cells #[.int .i64 C, .int .i64 R, .slice q2 (C * R) m2] 26))) :=
    ⟨⟨q2, m2, Blk3.at_ _ _ _ _ rfl, (O1.out.le (by have := S0.out; have := BB.out; omega)).keep ((Below.refl _ _).alloc (Nat.le_refl _) _)⟩, W2.out.step ((Below.refl _ _).alloc (Nat.le_refl _) _), by have := LP.out; have := S0.out; omega⟩
  have B2 := Lib.hid (B1.out.alloc (by have := S0.out; omega) (.cells #[.int .i64 C, .int .i64 R, .slice q2 (C * R) m2] 26))
  have K2 := Lib.hid (K1.out.old (.cells #[.int .i64 C, .int .i64 R, .slice q2 (C * R) m2] 26))
  have BT : Hid (w.heap.size ≤ w2.heap.size) := by show _ ≤ _; have := S0.out; omega
  clear O1 B1 W2 K1 SB
  go_upto_region 2 with fail
  obtain ⟨bt, hbt⟩ : ∃ bt, w2.heap.size = bt := ⟨_, rfl⟩
  rw [hbt] at CT BT ⊢
  generalize w2.alloc (.cells #[.int .i64 C, .int .i64 R, .slice q2 (C * R) m2] 26) = W2 at CT B2 K2 ⊢
  clear hbt
  refine wp_region_T (S := fun w' => Below W2.heap.size W2 w') (T := fun j => j == 5 || j == 6) (by kernel_rfl) (Below.refl _ _).drew (fun hH => ?_)
  refine wpAnyT_take (i := 0) (v := ?_) (by simp only [List.getElem?_toArray, List.getElem?_cons_zero]; rfl) (by kernel_rfl) (by kernel_rfl) (by kernel_rfl) (by kernel_rfl) (two_only 5 6 (by kernel_rfl) (by kernel_rfl)) (by exact fun _ _ _ h => h) (Or.inl ⟨by rfl, ?_⟩) hH ?_
  rotate_left
  · (intro wS hS; clear hS; go_simp; try rfl)
  try simp only [Act.put, List.setIfInBounds_toArray, List.set_cons_zero, List.set_cons_succ]
  refine wpAnyT_take (i := 1) (v := ?_) (by simp only [List.getElem?_toArray, List.getElem?_cons_succ, List.getElem?_cons_zero]; rfl) (by kernel_rfl) (by kernel_rfl) (by kernel_rfl) (by kernel_rfl) (two_only 5 6 (by kernel_rfl) (by kernel_rfl)) (by exact fun _ _ _ h => h) (Or.inl ⟨by rfl, ?_⟩) hH ?_
  rotate_left
  · (intro wS hS; clear hS; go_simp; try rfl)
  try simp only [Act.put, List.setIfInBounds_toArray, List.set_cons_zero, List.set_cons_succ]
  refine wpAnyT_take (i := 2) (v := ?_) (by simp only [List.getElem?_toArray, List.getElem?_cons_succ, List.getElem?_cons_zero]; rfl) (by kernel_rfl) (by kernel_rfl) (by kernel_rfl) (by kernel_rfl) (two_only 5 6 (by kernel_rfl) (by kernel_rfl)) (by exact fun _ _ _ h => h) (Or.inl ⟨by rfl, ?_⟩) hH ?_
  rotate_left
  · (intro wS hS; clear hS; go_simp; try rfl)
  try simp only [Act.put, List.setIfInBounds_toArray, List.set_cons_zero, List.set_cons_succ]
  refine wpAnyT_take (i := 3) (v := ?_) (by simp only [List.getElem?_toArray, List.getElem?_cons_succ, List.getElem?_cons_zero]; rfl) (by kernel_rfl) (by kernel_rfl) (by kernel_rfl) (by kernel_rfl) (two_only 5 6 (by kernel_rfl) (by kernel_rfl)) (by exact fun _ _ _ h => h) (Or.inl ⟨by rfl, ?_⟩) hH ?_
  rotate_left
  · (intro wS hS; clear hS; go_simp; try rfl)
  try simp only [Act.put, List.setIfInBounds_toArray, List.set_cons_zero, List.set_cons_succ]
  refine wpAnyT_take (i := 4) (v := ?_) (by simp only [List.getElem?_toArray, List.getElem?_cons_succ, List.getElem?_cons_zero]; rfl) (by kernel_rfl) (by kernel_rfl) (by kernel_rfl) (by kernel_rfl) (two_only 5 6 (by kernel_rfl) (by kernel_rfl)) (by exact fun _ _ _ h => h) (Or.inl ⟨by rfl, ?_⟩) hH ?_
  rotate_left
  · (intro wS hS; (try dsimp only at hS); obtain ⟨k1, k2, k3, k4⟩ := d0F K2.out hS; go_simp; try rfl)
  try simp only [Act.put, List.setIfInBounds_toArray, List.set_cons_zero, List.set_cons_succ]
  refine wpAnyT_ready (rs := [5]) (by kernel_rfl) (by simp) ?_
  refine AllReadyT.cons (by simp only [List.getElem?_toArray, List.getElem?_cons_succ, List.getElem?_cons_zero]; rfl) (fun K hK => ?_) AllReadyT.nil
  go_simp
  (with_reducible refine (DC.out bt _ (CT.out.step hH)).mono ?_)
  rintro e v1 ⟨rfl, hf, hs⟩
  have hH := Lib.hid hH
  try dsimp only
  refine hK.out _ _ (fun h => by cases h) ?_
  clear hK K
  try simp only [Act.put, List.setIfInBounds_toArray, List.set_cons_zero, List.set_cons_succ]
  refine wpAnyT_ready (rs := [6]) (by kernel_rfl) (by simp) ?_
  refine AllReadyT.cons (by simp only [List.getElem?_toArray, List.getElem?_cons_succ, List.getElem?_cons_zero]; rfl) (fun K hK => ?_) AllReadyT.nil
  go_simp
  try dsimp only
  refine hK.out _ _ (fun h => by cases h) ?_
  clear hK K
  try simp only [Act.put, List.setIfInBounds_toArray, List.set_cons_zero, List.set_cons_succ]
  refine wpAnyT_done (by kernel_rfl) ?_ _
  have FE : Hid (FrS (fun b => b = px) w v1) := ((FrS.of_below (p := fun b => b = px) B2.out).trans ((FrS.of_below hH.out))).transR hf (fun k hk hb => by rcases hb with e | e; exact absurd hk (by have := BT.out; omega); exact e)
  have NB := Lib.hid CT.out.ne
  have HS := Lib.hid hs
  clear hf hs hH CT B2 K2 DC
  obtain ⟨ok, hok⟩ : ∃ ok, ok3 s9 = ok := ⟨_, rfl⟩
  rw [hok] at TB HS
  have HO := Lib.hid hok
  cases ok with
  | false =>
    rw [hok]
    clear hok
    go_wp2_with fail
    go_ret
    exact ⟨by rw [HO.out]; rfl, FE.out, fun h => by rw [HO.out] at h; cases h⟩
  | true =>
    have CT2 := Lib.hid (HS.out rfl)
    obtain ⟨⟨q3, m3, h1, h2⟩, h3, h4⟩ := CT2.out
    have RD := Lib.hid h2.rdS
    have X3 := Lib.hid h3
    obtain ⟨b0, b1, b2, -, -, -⟩ := h1.all
    rw [hok]
    clear hok h1 h2 h3 h4 CT2 HS
    go_wp2_with fail
    refine (TB.out (by trivial) q3 m3 _ RD.out).mono ?_
    rintro e w4 ⟨v, rfl, ho4, hb4⟩
    obtain ⟨q4, m4, rfl, -, -⟩ := ho4.form
    have X4 := Lib.hid (X3.out.step hb4)
    have ho4 : Own v1.heap.size w4 (.slice q4 (R * C) m4) z1 := by rw [← ZL.out.2]; exact ho4
    have PT := Lib.hid (PF.out v1 w4 q4 m4 X3.out hb4 ho4)
    have FF := Lib.hid (FE.out.trans (FrS.of_below hb4))
    obtain ⟨qa', qu', qv', ma', mu', mv', qx⟩ := X4.out
    have f0 := qx.k.free 0
    have f1 := qx.k.free 1
    have f2 := qx.k.free 2
    obtain ⟨c0, c1, c2, -⟩ := qx.k.all
    rw [show (z1.length : Nat) = R * C from ZL.out.2]
    clear qx b0 b1 b2 RD X3 X4 TB PF ho4 hb4 FE
    go_wp2_with fail
    go_ret
    exact ⟨by rw [HO.out]; rfl, ((FF.out.set (a := ⟨px, 0, none⟩) (.inl rfl) _).set (a := ⟨px, 1, none⟩) (.inl rfl) _).set (a := ⟨px, 2, none⟩) (.inl rfl) _, fun _ => PT.out⟩
end Go.Proofs.Ytpelnfenfeoeeaa
end

section
/-
  Chapter 13, in the program: a line is brought to its place.
-/
namespace Go.Proofs.Ytpelnfenfeoeeaa
set_option maxRecDepth 100000
open Go.RowKit
theorem colL_none {I J C : Nat} {xs : List Int} (h : nums xs = true) : colL 2 I J 0 C xs = xs := by
  refine list_getD (colL_length _ _ _ _ _ _) fun p hp => ?_
  rw [colL_length] at hp
  rw [colL_getD hp]
  unfold colAt
  rw [if_neg (by decide)]
  split
  · have a := nums_def h p
    have b := nums_def h (p / C * C + J)
    rw [mulB_num b (by decide), Int.mul_zero, fitB_num (by decide), addB_num a (by decide), Int.add_zero, fitB_num a]
  · rfl
theorem col3_none {C : Nat} {I J : Nat} {s : SSt} (h : ok3 s = true) : col3 C 2 I J 0 s = s := by
  obtain ⟨a, b, c⟩ := ok3_and h
  unfold col3
  rw [colL_none a, colL_none c]
set_option maxHeartbeats 2000000 in
theorem iBringR (R C px B l t : Nat) (s : SSt) (w : World) (h : TsW R C px B s w) (hR : R ≤ 24) (hC : C ≤ 24) (ho : ok3 s = true) (hl : l < R) (ht : t < R) :
    Calls Try.prog 149 #[.func (.func 120) #[.pointer (some ⟨px, 0, none⟩)] #[], .int .i64 l, .int .i64 t] w (TsRes R C px B (if l ≠ t then row3 R C 0 l t 0 s else s) w) := by
  have W := Lib.hid h
  by_cases hlt : l = t
  · have n1 : ((l : Int) == (t : Int)) = true := by simp [hlt]
    have HO := Lib.hid ho
    rw [if_neg (fun h => h hlt)]
    clear h ho hlt
    go_enter Try.func149, Try.ntmps149
    go_wp2_with fail
    go_ret
    exact ⟨by rw [HO.out]; rfl, FrS.refl _ _, fun _ => W.out⟩
  · have n1 : ((l : Int) == (t : Int)) = false := by simp; omega
    rw [if_pos hlt]
    have D : Hid (∀ w', TsW R C px B s w' → Calls Try.prog 120 #[.pointer (some ⟨px, 0, none⟩), .agg #[.int .i64 0, .int .i64 l, .int .i64 t, .int .i64 0]] w' (TsRes R C px B (row3 R C 0 l t 0 s) w')) := fun w' h9 => iDoRow R C px B l t 0 0 s w' h9 hR hC ho (isOp_swap hR hl ht hlt)
    generalize row3 R C 0 l t 0 s = s' at D ⊢
    clear h ho hlt
    go_enter Try.func149, Try.ntmps149
    go_wp2_with fail
    refine (D.out _ W.out).mono ?_
    rintro e w1 ⟨rfl, hf, hs⟩
    go_wp2_with fail
    go_ret
    exact ⟨rfl, hf, hs⟩
set_option maxHeartbeats 2000000 in
theorem iBringC (R C px B l t : Nat) (s : SSt) (w : World) (h : TsW R C px B s w) (hR : R ≤ 24) (hC : C ≤ 24) (ho : ok3 s = true) (hl : l < C) (ht : t < C) :
    Calls Try.prog 149 #[.func (.func 148) #[.pointer (some ⟨px, 0, none⟩)] #[], .int .i64 l, .int .i64 t] w (TsRes R C px B (if l ≠ t then col3 C 0 l t 0 s else s) w) := by
  have W := Lib.hid h
  by_cases hlt : l = t
  · have n1 : ((l : Int) == (t : Int)) = true := by simp [hlt]
    have HO := Lib.hid ho
    rw [if_neg (fun h => h hlt)]
    clear h ho hlt
    go_enter Try.func149, Try.ntmps149
    go_wp2_with fail
    go_ret
    exact ⟨by rw [HO.out]; rfl, FrS.refl _ _, fun _ => W.out⟩
  · have n1 : ((l : Int) == (t : Int)) = false := by simp; omega
    rw [if_pos hlt]
    have D : Hid (∀ w', TsW R C px B s w' → Calls Try.prog 148 #[.pointer (some ⟨px, 0, none⟩), .agg #[.int .i64 0, .int .i64 l, .int .i64 t, .int .i64 0]] w' (TsRes R C px B (col3 C 0 l t 0 s) w')) := fun w' h9 => iDoCol R C px B l t 0 0 s w' h9 hR hC ho (isOp_swap hC hl ht hlt) (.inl rfl) hl ht
    generalize col3 C 0 l t 0 s = s' at D ⊢
    clear h ho hlt
    go_enter Try.func149, Try.ntmps149
    go_wp2_with fail
    refine (D.out _ W.out).mono ?_
    rintro e w1 ⟨rfl, hf, hs⟩
    go_wp2_with fail
    go_ret
    exact ⟨rfl, hf, hs⟩
end Go.Proofs.Ytpelnfenfeoeeaa
end

section
/-
  Chapter 13, in the program: lines are divided by line t.
-/
namespace Go.Proofs.Ytpelnfenfeoeeaa
set_option maxRecDepth 100000
open Go.RowKit
theorem twoF {W w' : World} {g d1 d2 : Nat} {x y : Value} (hx : W.cell? ⟨g, d1, none⟩ = some x) (hy : W.cell? ⟨g, d2, none⟩ = some y) (hb : Below W.heap.size W w') : w'.cell? ⟨g, d1, none⟩ = some x ∧ w'.cell? ⟨g, d2, none⟩ = some y :=
  ⟨(hb.cell (World.block_lt_of_cell? W _ hx)).trans hx, (hb.cell (World.block_lt_of_cell? W _ hy)).trans hy⟩
set_option maxHeartbeats 4000000 in
theorem iDivR (R C px B t m : Nat) (a : Option Addr) (Y : List Int) (p : Int) (s : SSt) (w : World) (h : TsW R C px B s w) (hR : R ≤ 24) (hC : C ≤ 24) (ho : ok3 s = true) (hY : Rd w a Y) (hYl : Y.length = R) (ha : ∀ b o : Nat, a = some ⟨b, o, none⟩ → b ≠ px) (ht : t < R) (ht2 : t < C) (hX : ∀ i, i < R → Y.getD i 0 = cel3S C s i t) (hp : Y.getD t 0 = p) (hp0 : p ≠ 0) :
    Calls Try.prog 150 #[.func (.func 120) #[.pointer (some ⟨px, 0, none⟩)] #[], .slice a R m, .int .i64 t] w (TsRes R C px B (rowsF R C t p s (R - t - 1)) w) := by
  have hS := h.siz
  have YN : Hid (∀ i, i < R → NumP (Y.getD i 0)) := fun i hi => by rw [hX i hi]; exact nums_def (ok3_and ho).1 _
  have NPp := YN.out t ht
  rw [hp] at NPp
  obtain ⟨F, hF⟩ : ∃ F : Nat → SSt, rowsF R C t p s = F := ⟨_, rfl⟩
  have F0 : F 0 = s := by rw [← hF]; rfl
  have DO : Hid (∀ n, t + 1 + n < R → F (n + 1) = if Y.getD (t + 1 + n) 0 ≠ 0 then row3 R C 2 (t + 1 + n) t (-(Y.getD (t + 1 + n) 0 / p)) (F n) else F n) := fun n hn => by rw [hX _ hn, ← hF]; exact rowsF_do hS hn ht2
  have BAD : Hid (∀ n, t + 1 + n < R → ok3 (F (n + 1)) = false → ok3 (F (R - t - 1)) = false) := fun n hn h9 => by
    have := rowsF_bad hS ht (p := p) (n := n + 1) (by rw [hF]; exact h9) (R - t - 1 - (n + 1)) (by omega)
    rw [hF, show n + 1 + (R - t - 1 - (n + 1)) = R - t - 1 by omega] at this
    exact this
  have DD : Hid (∀ n (I : Nat) (z : Int) w', TsW R C px B (F n) w' → ok3 (F n) = true → I < R → I ≠ t → NumP z → Calls Try.prog 120 #[.pointer (some ⟨px, 0, none⟩), .agg #[.int .i64 2, .int .i64 I, .int .i64 t, .int .i64 z]] w' (TsRes R C px B (row3 R C 2 I t z (F n)) w')) := fun n I z w' q0 q2 q1 q3 q4 => iDoRow R C px B I t 2 z (F n) w' q0 hR hC q2 (isOp_add hR q1 ht q3 q4)
  have NON : Hid (∀ n (I : Nat), ok3 (F n) = true → row3 R C 2 I t 0 (F n) = F n) := fun n I h9 => row3_none h9
  have DV : Hid (∀ x w', NumP x → Calls Try.prog 163 #[.int .i64 x, .int .i64 p] w' (Gives (.tuple #[.int .i64 (x / p), .int .i64 (x % p), .bool true]) w')) := fun x w' hx => by
    refine (iDiv x p w' hx.1 hx.2 NPp.1 NPp.2 hp0).mono ?_
    rintro e w2 ⟨rfl, n, rfl⟩
    exact ⟨rfl, below_drewN (Below.refl _ _) n⟩
  have QN : Hid (∀ x, NumP x → NumP (-(x / p))) := fun x hx => quot_num hx hp0
  have RY := Lib.hid hY
  have HA := Lib.hid ha
  have YL := Lib.hid hYl
  have HP := Lib.hid hp
  have W0 : Hid (TsW R C px B (F 0) w) := by refine Lib.hid ?_; rw [F0]; exact h
  have O0 : Hid (ok3 (F 0) = true) := by refine Lib.hid ?_; rw [F0]; exact ho
  rw [hF]
  clear h ho hY hYl ha hX hp hp0 hF F0 hS NPp
  go_enter Try.func150, Try.ntmps150
  go_wp2_with fail
  go_loopw [7, 8, 9, 10] (fun v7 _ _ _ wq => ∃ n : Nat, v7 = .int .i64 ((t + 1 + n : Nat) : Int) ∧ t + 1 + n ≤ R ∧ ok3 (F n) = true ∧ TsW R C px B (F n) wq ∧ FrS (fun b => b = px) w wq) (fun v7 _ _ _ _ => R - (intOf v7).toNat)
  case atStart => exact ⟨0, by go_num, by omega, O0.out, W0.out, FrS.refl _ _⟩
  case round =>
    clear W0 O0
    obtain ⟨n, rfl, hn, hok, hW, hfr⟩ := hrel
    have WR := Lib.hid hW
    have OK := Lib.hid hok
    have FR := Lib.hid hfr
    clear hW hok hfr
    by_cases hlt : t + 1 + n < R
    rotate_left
    · have hnN : n = R - t - 1 := by omega
      have e9 : t + 1 + n = R := by omega
      have WF : Hid (TsW R C px B (F (R - t - 1)) wr) := by refine Lib.hid ?_; rw [← hnN]; exact WR.out
      have OF : Hid (ok3 (F (R - t - 1)) = true) := by refine Lib.hid ?_; rw [← hnN]; exact OK.out
      rw [e9]
      clear hnN e9 hlt hn
      go_wp2_with fail
      go_ret
      exact ⟨by rw [OF.out]; rfl, FR.out, fun _ => WF.out⟩
    have ES := Lib.hid (DO.out n hlt)
    have BD := Lib.hid (BAD.out n hlt)
    have NX := YN.out (t + 1 + n) hlt
    have R2 := RY.out.frs FR.out (fun b o e => HA.out b o e)
    obtain ⟨g, o, rfl, cx⟩ := R2 (t + 1 + n) (by rw [YL.out]; exact hlt)
    obtain ⟨g2, o2, hqb, cy⟩ := R2 t (by rw [YL.out]; exact ht)
    injection hqb with hqb
    injection hqb with e1 e2
    subst e1 e2
    rw [HP.out] at cy
    have DN := Lib.hid (DD.out n)
    have NN := Lib.hid (NON.out n)
    obtain ⟨T, hT⟩ : ∃ T, t + 1 + n = T := ⟨_, rfl⟩
    have ET := Lib.hid hT
    have hTt : T ≠ t := by omega
    rw [hT] at ES NX cx hlt ⊢
    obtain ⟨x, hx⟩ : ∃ x, Y.getD T 0 = x := ⟨_, rfl⟩
    rw [hx] at ES NX cx
    clear hx hT R2
    have DV1 := Lib.hid (fun w' => DV.out x w' NX)
    have NQ := QN.out x NX
    generalize x % p = rm at DV1
    obtain ⟨q, hq⟩ : ∃ q, x / p = q := ⟨_, rfl⟩
    rw [hq] at ES NQ DV1
    have i1 : (T : Int) < (R : Int) := by omega
    have i2 : (t : Int) < (R : Int) := by omega
    have XQ : Hid (x = 0 → q = 0) := fun h => by rw [← hq, h, Int.zero_ediv]
    clear hq NX
    go_wp2_with fail
    refine wp_region_T (S := fun w' => Below wr.heap.size wr w') (T := fun _ => false) (by kernel_rfl) (Below.refl _ _).drew (fun hH => ?_)
    refine wpAnyT_take (i := 0) (v := ?_) (by simp only [List.getElem?_toArray, List.getElem?_cons_zero]; rfl) (by kernel_rfl) (by kernel_rfl) (by kernel_rfl) (by kernel_rfl) (fun _ hj => by cases hj) (by exact fun _ _ _ h => h) (Or.inl ⟨by rfl, ?_⟩) hH ?_
    rotate_left
    · (intro wS hS; clear hS; go_simp; try rfl)
    try simp only [Act.put, List.setIfInBounds_toArray, List.set_cons_zero, List.set_cons_succ]
    refine wpAnyT_take (i := 1) (v := ?_) (by simp only [List.getElem?_toArray, List.getElem?_cons_succ, List.getElem?_cons_zero]; rfl) (by kernel_rfl) (by kernel_rfl) (by kernel_rfl) (by kernel_rfl) (fun _ hj => by cases hj) (by exact fun _ _ _ h => h) (Or.inl ⟨by rfl, ?_⟩) hH ?_
    rotate_left
    · (intro wS hS; clear hS; go_simp; try rfl)
    try simp only [Act.put, List.setIfInBounds_toArray, List.set_cons_zero, List.set_cons_succ]
    refine wpAnyT_take (i := 2) (v := ?_) (by simp only [List.getElem?_toArray, List.getElem?_cons_succ, List.getElem?_cons_zero]; rfl) (by kernel_rfl) (by kernel_rfl) (by kernel_rfl) (by kernel_rfl) (fun _ hj => by cases hj) (by exact fun _ _ _ h => h) (Or.inl ⟨by rfl, ?_⟩) hH ?_
    rotate_left
    · (intro wS hS; clear hS; go_simp; try rfl)
    try simp only [Act.put, List.setIfInBounds_toArray, List.set_cons_zero, List.set_cons_succ]
    refine wpAnyT_take (i := 3) (v := ?_) (by simp only [List.getElem?_toArray, List.getElem?_cons_succ, List.getElem?_cons_zero]; rfl) (by kernel_rfl) (by kernel_rfl) (by kernel_rfl) (by kernel_rfl) (fun _ hj => by cases hj) (by exact fun _ _ _ h => h) (Or.inl ⟨by rfl, ?_⟩) hH ?_
    rotate_left
    · (intro wS hS; (try dsimp only at hS); obtain ⟨k1, k2⟩ := twoF cx cy hS; go_simp; try rfl)
    try simp only [Act.put, List.setIfInBounds_toArray, List.set_cons_zero, List.set_cons_succ]
    refine wpAnyT_take (i := 4) (v := ?_) (by simp only [List.getElem?_toArray, List.getElem?_cons_succ, List.getElem?_cons_zero]; rfl) (by kernel_rfl) (by kernel_rfl) (by kernel_rfl) (by kernel_rfl) (fun _ hj => by cases hj) (by exact fun _ _ _ h => h) (Or.inl ⟨by rfl, ?_⟩) hH ?_
    rotate_left
    · (intro wS hS; clear hS; go_simp; try rfl)
    try simp only [Act.put, List.setIfInBounds_toArray, List.set_cons_zero, List.set_cons_succ]
    refine wpAnyT_take (i := 5) (v := ?_) (by simp only [List.getElem?_toArray, List.getElem?_cons_succ, List.getElem?_cons_zero]; rfl) (by kernel_rfl) (by kernel_rfl) (by kernel_rfl) (by kernel_rfl) (fun _ hj => by cases hj) (by exact fun _ _ _ h => h) (Or.inl ⟨by rfl, ?_⟩) hH ?_
    rotate_left
    · (intro wS hS; clear hS; go_simp; try rfl)
    try simp only [Act.put, List.setIfInBounds_toArray, List.set_cons_zero, List.set_cons_succ]
    refine wpAnyT_take (i := 6) (v := ?_) (by simp only [List.getElem?_toArray, List.getElem?_cons_succ, List.getElem?_cons_zero]; rfl) (by kernel_rfl) (by kernel_rfl) (by kernel_rfl) (by kernel_rfl) (fun _ hj => by cases hj) (by exact fun _ _ _ h => h) (Or.inl ⟨by rfl, ?_⟩) hH ?_
    rotate_left
    · (intro wS hS; clear hS; go_simp; try rfl)
    try simp only [Act.put, List.setIfInBounds_toArray, List.set_cons_zero, List.set_cons_succ]
    refine wpAnyT_take (i := 7) (v := ?_) (by simp only [List.getElem?_toArray, List.getElem?_cons_succ, List.getElem?_cons_zero]; rfl) (by kernel_rfl) (by kernel_rfl) (by kernel_rfl) (by kernel_rfl) (fun _ hj => by cases hj) (by exact fun _ _ _ h => h) (Or.inl ⟨by rfl, ?_⟩) hH ?_
    rotate_left
    · (intro wS hS; (try dsimp only at hS); obtain ⟨k1, k2⟩ := twoF cx cy hS; go_simp; try rfl)
    try simp only [Act.put, List.setIfInBounds_toArray, List.set_cons_zero, List.set_cons_succ]
    refine wpAnyT_ready (rs := [8]) (by kernel_rfl) (by simp) ?_
    refine AllReadyT.cons (by simp only [List.getElem?_toArray, List.getElem?_cons_succ, List.getElem?_cons_zero]; rfl) (fun K hK => ?_) AllReadyT.nil
    go_simp
    (with_reducible refine (DV1.out _).mono ?_)
    rintro e v1 ⟨rfl, hb1⟩
    try dsimp only
    refine hK.out _ _ (fun _ => hH.trans (hb1.mono hH.size)) ?_
    clear hK K
    have hH := hH.trans (hb1.mono hH.size)
    clear hb1
    try simp only [Act.put, List.setIfInBounds_toArray, List.set_cons_zero, List.set_cons_succ]
    refine wpAnyT_take (i := 9) (v := ?_) (by simp only [List.getElem?_toArray, List.getElem?_cons_succ, List.getElem?_cons_zero]; rfl) (by kernel_rfl) (by kernel_rfl) (by kernel_rfl) (by kernel_rfl) (fun _ hj => by cases hj) (by exact fun _ _ _ h => h) (Or.inl ⟨by rfl, ?_⟩) hH ?_
    rotate_left
    · (intro wS hS; clear hS; go_simp; try rfl)
    try simp only [Act.put, List.setIfInBounds_toArray, List.set_cons_zero, List.set_cons_succ]
    refine wpAnyT_take (i := 10) (v := ?_) (by simp only [List.getElem?_toArray, List.getElem?_cons_succ, List.getElem?_cons_zero]; rfl) (by kernel_rfl) (by kernel_rfl) (by kernel_rfl) (by kernel_rfl) (fun _ hj => by cases hj) (by exact fun _ _ _ h => h) (Or.inl ⟨by rfl, ?_⟩) hH ?_
    rotate_left
    · (intro wS hS; clear hS; go_simp; try rfl)
    try simp only [Act.put, List.setIfInBounds_toArray, List.set_cons_zero, List.set_cons_succ]
    refine wpAnyT_take (i := 11) (v := ?_) (by simp only [List.getElem?_toArray, List.getElem?_cons_succ, List.getElem?_cons_zero]; rfl) (by kernel_rfl) (by kernel_rfl) (by kernel_rfl) (by kernel_rfl) (fun _ hj => by cases hj) (by exact fun _ _ _ h => h) (Or.inl ⟨by rfl, ?_⟩) hH ?_
    rotate_left
    · (intro wS hS; clear hS; go_simp; try rfl)
    try simp only [Act.put, List.setIfInBounds_toArray, List.set_cons_zero, List.set_cons_succ]
    refine wpAnyT_take (i := 12) (v := ?_) (by simp only [List.getElem?_toArray, List.getElem?_cons_succ, List.getElem?_cons_zero]; rfl) (by kernel_rfl) (by kernel_rfl) (by kernel_rfl) (by kernel_rfl) (fun _ hj => by cases hj) (by exact fun _ _ _ h => h) (Or.inl ⟨by rfl, ?_⟩) hH ?_
    rotate_left
    · (intro wS hS; clear hS; go_simp; try rfl)
    try simp only [Act.put, List.setIfInBounds_toArray, List.set_cons_zero, List.set_cons_succ]
    refine wpAnyT_take (i := 13) (v := ?_) (by simp only [List.getElem?_toArray, List.getElem?_cons_succ, List.getElem?_cons_zero]; rfl) (by kernel_rfl) (by kernel_rfl) (by kernel_rfl) (by kernel_rfl) (fun _ hj => by cases hj) (by exact fun _ _ _ h => h) (Or.inl ⟨by rfl, ?_⟩) hH ?_
    rotate_left
    · (intro wS hS; clear hS; go_simp; try rfl)
    try simp only [Act.put, List.setIfInBounds_toArray, List.set_cons_zero, List.set_cons_succ]
    refine wpAnyT_take (i := 14) (v := ?_) (by simp only [List.getElem?_toArray, List.getElem?_cons_succ, List.getElem?_cons_zero]; rfl) (by kernel_rfl) (by kernel_rfl) (by kernel_rfl) (by kernel_rfl) (fun _ hj => by cases hj) (by exact fun _ _ _ h => h) (Or.inl ⟨by rfl, ?_⟩) hH ?_
    rotate_left
    · (intro wS hS; clear hS; go_simp; try rfl)
    try simp only [Act.put, List.setIfInBounds_toArray, List.set_cons_zero, List.set_cons_succ]
    refine wpAnyT_take (i := 15) (v := ?_) (by simp only [List.getElem?_toArray, List.getElem?_cons_succ, List.getElem?_cons_zero]; rfl) (by kernel_rfl) (by kernel_rfl) (by kernel_rfl) (by kernel_rfl) (fun _ hj => by cases hj) (by exact fun _ _ _ h => h) (Or.inl ⟨by rfl, ?_⟩) hH ?_
    rotate_left
    · (intro wS hS; clear hS; go_simp; try rfl)
    try simp only [Act.put, List.setIfInBounds_toArray, List.set_cons_zero, List.set_cons_succ]
    refine wpAnyT_done (by kernel_rfl) ?_ _
    have W5 := Lib.hid (WR.out.step hH)
    have F5 := Lib.hid (FR.out.trans (FrS.of_below hH))
    clear WR FR hH cx cy
    by_cases hq0 : q = 0
    · have n2 : (q != 0) = false := by simp [hq0]
      have EN : Hid (F (n + 1) = F n) := by
        refine Lib.hid ?_
        rw [ES.out, hq0]
        split
        · exact NN.out T OK.out
        · rfl
      clear hq0
      go_wp2_with fail
      go_roundw
      case rel => exact ⟨n + 1, by rw [← Nat.add_assoc, ET.out]; go_num, by have := ET.out; omega, by rw [EN.out]; exact OK.out, by rw [EN.out]; exact W5.out, F5.out⟩
      case measure => simp [intOf]; omega
    have n2 : (q != 0) = true := by simpa using hq0
    have EN : Hid (F (n + 1) = row3 R C 2 T t (-q) (F n)) := by refine Lib.hid ?_; rw [ES.out, if_pos (fun h => hq0 (XQ.out h))]
    have DC := Lib.hid (DN.out T (-q) _ W5.out OK.out hlt hTt NQ)
    rw [← EN.out] at DC
    obtain ⟨z1, z2⟩ := NQ
    have v1 : IntKind.i64.wrap (-q) = -q := IntWalk.i64_in _ (by omega)
    clear hq0 ES EN DN NN W5
    go_wp2_with fail
    refine DC.out.mono ?_
    rintro e w6 ⟨rfl, hf, hs⟩
    have F6 := Lib.hid (F5.out.trans hf)
    have HS := Lib.hid hs
    obtain ⟨ok, hok⟩ : ∃ ok, ok3 (F (n + 1)) = ok := ⟨_, rfl⟩
    rw [hok] at BD HS ⊢
    have HO := Lib.hid hok
    clear hf hs hok DC F5
    cases ok with
    | false =>
      have V := Lib.hid (BD.out (by trivial))
      go_wp2_with fail
      go_ret
      exact ⟨by rw [V.out]; rfl, F6.out, fun h => by rw [V.out] at h; cases h⟩
    | true =>
      have W6 := Lib.hid (HS.out (by trivial))
      go_wp2_with fail
      go_roundw
      case rel => exact ⟨n + 1, by rw [← Nat.add_assoc, ET.out]; go_num, by have := ET.out; omega, HO.out, W6.out, F6.out⟩
      case measure => simp [intOf]; omega
set_option maxHeartbeats 4000000 in
theorem iDivC (R C px B t m : Nat) (a : Option Addr) (Y : List Int) (p : Int) (s : SSt) (w : World) (h : TsW R C px B s w) (hR : R ≤ 24) (hC : C ≤ 24) (ho : ok3 s = true) (hY : Rd w a Y) (hYl : Y.length = C) (ha : ∀ b o : Nat, a = some ⟨b, o, none⟩ → b ≠ px) (ht : t < C) (ht2 : t < R) (hX : ∀ i, i < C → Y.getD i 0 = cel3S C s t i) (hp : Y.getD t 0 = p) (hp0 : p ≠ 0) :
    Calls Try.prog 150 #[.func (.func 148) #[.pointer (some ⟨px, 0, none⟩)] #[], .slice a C m, .int .i64 t] w (TsRes R C px B (colsF C t p s (C - t - 1)) w) := by
  have hS := h.siz
  have YN : Hid (∀ i, i < C → NumP (Y.getD i 0)) := fun i hi => by rw [hX i hi]; exact nums_def (ok3_and ho).1 _
  have NPp := YN.out t ht
  rw [hp] at NPp
  obtain ⟨F, hF⟩ : ∃ F : Nat → SSt, colsF C t p s = F := ⟨_, rfl⟩
  have F0 : F 0 = s := by rw [← hF]; rfl
  have DO : Hid (∀ n, t + 1 + n < C → F (n + 1) = if Y.getD (t + 1 + n) 0 ≠ 0 then col3 C 2 (t + 1 + n) t (-(Y.getD (t + 1 + n) 0 / p)) (F n) else F n) := fun n hn => by rw [hX _ hn, ← hF]; exact colsF_do hS hn ht2
  have BAD : Hid (∀ n, t + 1 + n < C → ok3 (F (n + 1)) = false → ok3 (F (C - t - 1)) = false) := fun n hn h9 => by
    have := colsF_bad hS ht (p := p) (n := n + 1) (by rw [hF]; exact h9) (C - t - 1 - (n + 1)) (by omega)
    rw [hF, show n + 1 + (C - t - 1 - (n + 1)) = C - t - 1 by omega] at this
    exact this
  have DD : Hid (∀ n (I : Nat) (z : Int) w', TsW R C px B (F n) w' → ok3 (F n) = true → I < C → I ≠ t → NumP z → Calls Try.prog 148 #[.pointer (some ⟨px, 0, none⟩), .agg #[.int .i64 2, .int .i64 I, .int .i64 t, .int .i64 z]] w' (TsRes R C px B (col3 C 2 I t z (F n)) w')) := fun n I z w' q0 q2 q1 q3 q4 => iDoCol R C px B I t 2 z (F n) w' q0 hR hC q2 (isOp_add hC q1 ht q3 q4) (.inr rfl) q1 ht
  have NON : Hid (∀ n (I : Nat), ok3 (F n) = true → col3 C 2 I t 0 (F n) = F n) := fun n I h9 => col3_none h9
  have DV : Hid (∀ x w', NumP x → Calls Try.prog 163 #[.int .i64 x, .int .i64 p] w' (Gives (.tuple #[.int .i64 (x / p), .int .i64 (x % p), .bool true]) w')) := fun x w' hx => by
    refine (iDiv x p w' hx.1 hx.2 NPp.1 NPp.2 hp0).mono ?_
    rintro e w2 ⟨rfl, n, rfl⟩
    exact ⟨rfl, below_drewN (Below.refl _ _) n⟩
  have QN : Hid (∀ x, NumP x → NumP (-(x / p))) := fun x hx => quot_num hx hp0
  have RY := Lib.hid hY
  have HA := Lib.hid ha
  have YL := Lib.hid hYl
  have HP := Lib.hid hp
  have W0 : Hid (TsW R C px B (F 0) w) := by refine Lib.hid ?_; rw [F0]; exact h
  have O0 : Hid (ok3 (F 0) = true) := by refine Lib.hid ?_; rw [F0]; exact ho
  rw [hF]
  clear h ho hY hYl ha hX hp hp0 hF F0 hS NPp
  go_enter Try.func150, Try.ntmps150
  go_wp2_with fail
  go_loopw [7, 8, 9, 10] (fun v7 _ _ _ wq => ∃ n : Nat, v7 = .int .i64 ((t + 1 + n : Nat) : Int) ∧ t + 1 + n ≤ C ∧ ok3 (F n) = true ∧ TsW R C px B (F n) wq ∧ FrS (fun b => b = px) w wq) (fun v7 _ _ _ _ => C - (intOf v7).toNat)
  case atStart => exact ⟨0, by go_num, by omega, O0.out, W0.out, FrS.refl _ _⟩
  case round =>
    clear W0 O0
    obtain ⟨n, rfl, hn, hok, hW, hfr⟩ := hrel
    have WR := Lib.hid hW
    have OK := Lib.hid hok
    have FR := Lib.hid hfr
    clear hW hok hfr
    by_cases hlt : t + 1 + n < C
    rotate_left
    · have hnN : n = C - t - 1 := by omega
      have e9 : t + 1 + n = C := by omega
      have WF : Hid (TsW R C px B (F (C - t - 1)) wr) := by refine Lib.hid ?_; rw [← hnN]; exact WR.out
      have OF : Hid (ok3 (F (C - t - 1)) = true) := by refine Lib.hid ?_; rw [← hnN]; exact OK.out
      rw [e9]
      clear hnN e9 hlt hn
      go_wp2_with fail
      go_ret
      exact ⟨by rw [OF.out]; rfl, FR.out, fun _ => WF.out⟩
    have ES := Lib.hid (DO.out n hlt)
    have BD := Lib.hid (BAD.out n hlt)
    have NX := YN.out (t + 1 + n) hlt
    have R2 := RY.out.frs FR.out (fun b o e => HA.out b o e)
    obtain ⟨g, o, rfl, cx⟩ := R2 (t + 1 + n) (by rw [YL.out]; exact hlt)
    obtain ⟨g2, o2, hqb, cy⟩ := R2 t (by rw [YL.out]; exact ht)
    injection hqb with hqb
    injection hqb with e1 e2
    subst e1 e2
    rw [HP.out] at cy
    have DN := Lib.hid (DD.out n)
    have NN := Lib.hid (NON.out n)
    obtain ⟨T, hT⟩ : ∃ T, t + 1 + n = T := ⟨_, rfl⟩
    have ET := Lib.hid hT
    have hTt : T ≠ t := by omega
    rw [hT] at ES NX cx hlt ⊢
    obtain ⟨x, hx⟩ : ∃ x, Y.getD T 0 = x := ⟨_, rfl⟩
    rw [hx] at ES NX cx
    clear hx hT R2
    have DV1 := Lib.hid (fun w' => DV.out x w' NX)
    have NQ := QN.out x NX
    generalize x % p = rm at DV1
    obtain ⟨q, hq⟩ : ∃ q, x / p = q := ⟨_, rfl⟩
    rw [hq] at ES NQ DV1
    have i1 : (T : Int) < (C : Int) := by omega
    have i2 : (t : Int) < (C : Int) := by omega
    have XQ : Hid (x = 0 → q = 0) := fun h => by rw [← hq, h, Int.zero_ediv]
    clear hq NX
    go_wp2_with fail
    refine wp_region_T (S := fun w' => Below wr.heap.size wr w') (T := fun _ => false) (by kernel_rfl) (Below.refl _ _).drew (fun hH => ?_)
    refine wpAnyT_take (i := 0) (v := ?_) (by simp only [List.getElem?_toArray, List.getElem?_cons_zero]; rfl) (by kernel_rfl) (by kernel_rfl) (by kernel_rfl) (by kernel_rfl) (fun _ hj => by cases hj) (by exact fun _ _ _ h => h) (Or.inl ⟨by rfl, ?_⟩) hH ?_
    rotate_left
    · (intro wS hS; clear hS; go_simp; try rfl)
    try simp only [Act.put, List.setIfInBounds_toArray, List.set_cons_zero, List.set_cons_succ]
    refine wpAnyT_take (i := 1) (v := ?_) (by simp only [List.getElem?_toArray, List.getElem?_cons_succ, List.getElem?_cons_zero]; rfl) (by kernel_rfl) (by kernel_rfl) (by kernel_rfl) (by kernel_rfl) (fun _ hj => by cases hj) (by exact fun _ _ _ h => h) (Or.inl ⟨by rfl, ?_⟩) hH ?_
    rotate_left
    · (intro wS hS; clear hS; go_simp; try rfl)
    try simp only [Act.put, List.setIfInBounds_toArray, List.set_cons_zero, List.set_cons_succ]
    refine wpAnyT_take (i := 2) (v := ?_) (by simp only [List.getElem?_toArray, List.getElem?_cons_succ, List.getElem?_cons_zero]; rfl) (by kernel_rfl) (by kernel_rfl) (by kernel_rfl) (by kernel_rfl) (fun _ hj => by cases hj) (by exact fun _ _ _ h => h) (Or.inl ⟨by rfl, ?_⟩) hH ?_
    rotate_left
    · (intro wS hS; clear hS; go_simp; try rfl)
    try simp only [Act.put, List.setIfInBounds_toArray, List.set_cons_zero, List.set_cons_succ]
    refine wpAnyT_take (i := 3) (v := ?_) (by simp only [List.getElem?_toArray, List.getElem?_cons_succ, List.getElem?_cons_zero]; rfl) (by kernel_rfl) (by kernel_rfl) (by kernel_rfl) (by kernel_rfl) (fun _ hj => by cases hj) (by exact fun _ _ _ h => h) (Or.inl ⟨by rfl, ?_⟩) hH ?_
    rotate_left
    · (intro wS hS; (try dsimp only at hS); obtain ⟨k1, k2⟩ := twoF cx cy hS; go_simp; try rfl)
    try simp only [Act.put, List.setIfInBounds_toArray, List.set_cons_zero, List.set_cons_succ]
    refine wpAnyT_take (i := 4) (v := ?_) (by simp only [List.getElem?_toArray, List.getElem?_cons_succ, List.getElem?_cons_zero]; rfl) (by kernel_rfl) (by kernel_rfl) (by kernel_rfl) (by kernel_rfl) (fun _ hj => by cases hj) (by exact fun _ _ _ h => h) (Or.inl ⟨by rfl, ?_⟩) hH ?_
    rotate_left
    · (intro wS hS; clear hS; go_simp; try rfl)
    try simp only [Act.put, List.setIfInBounds_toArray, List.set_cons_zero, List.set_cons_succ]
    refine wpAnyT_take (i := 5) (v := ?_) (by simp only [List.getElem?_toArray, List.getElem?_cons_succ, List.getElem?_cons_zero]; rfl) (by kernel_rfl) (by kernel_rfl) (by kernel_rfl) (by kernel_rfl) (fun _ hj => by cases hj) (by exact fun _ _ _ h => h) (Or.inl ⟨by rfl, ?_⟩) hH ?_
    rotate_left
    · (intro wS hS; clear hS; go_simp; try rfl)
    try simp only [Act.put, List.setIfInBounds_toArray, List.set_cons_zero, List.set_cons_succ]
    refine wpAnyT_take (i := 6) (v := ?_) (by simp only [List.getElem?_toArray, List.getElem?_cons_succ, List.getElem?_cons_zero]; rfl) (by kernel_rfl) (by kernel_rfl) (by kernel_rfl) (by kernel_rfl) (fun _ hj => by cases hj) (by exact fun _ _ _ h => h) (Or.inl ⟨by rfl, ?_⟩) hH ?_
    rotate_left
    · (intro wS hS; clear hS; go_simp; try rfl)
    try simp only [Act.put, List.setIfInBounds_toArray, List.set_cons_zero, List.set_cons_succ]
    refine wpAnyT_take (i := 7) (v := ?_) (by simp only [List.getElem?_toArray, List.getElem?_cons_succ, List.getElem?_cons_zero]; rfl) (by kernel_rfl) (by kernel_rfl) (by kernel_rfl) (by kernel_rfl) (fun _ hj => by cases hj) (by exact fun _ _ _ h => h) (Or.inl ⟨by rfl, ?_⟩) hH ?_
    rotate_left
    · (intro wS hS; (try dsimp only at hS); obtain ⟨k1, k2⟩ := twoF cx cy hS; go_simp; try rfl)
    try simp only [Act.put, List.setIfInBounds_toArray, List.set_cons_zero, List.set_cons_succ]
    refine wpAnyT_ready (rs := [8]) (by kernel_rfl) (by simp) ?_
    refine AllReadyT.cons (by simp only [List.getElem?_toArray, List.getElem?_cons_succ, List.getElem?_cons_zero]; rfl) (fun K hK => ?_) AllReadyT.nil
    go_simp
    (with_reducible refine (DV1.out _).mono ?_)
    rintro e v1 ⟨rfl, hb1⟩
    try dsimp only
    refine hK.out _ _ (fun _ => hH.trans (hb1.mono hH.size)) ?_
    clear hK K
    have hH := hH.trans (hb1.mono hH.size)
    clear hb1
    try simp only [Act.put, List.setIfInBounds_toArray, List.set_cons_zero, List.set_cons_succ]
    refine wpAnyT_take (i := 9) (v := ?_) (by simp only [List.getElem?_toArray, List.getElem?_cons_succ, List.getElem?_cons_zero]; rfl) (by kernel_rfl) (by kernel_rfl) (by kernel_rfl) (by kernel_rfl) (fun _ hj => by cases hj) (by exact fun _ _ _ h => h) (Or.inl ⟨by rfl, ?_⟩) hH ?_
    rotate_left
    · (intro wS hS; clear hS; go_simp; try rfl)
    try simp only [Act.put, List.setIfInBounds_toArray, List.set_cons_zero, List.set_cons_succ]
    refine wpAnyT_take (i := 10) (v := ?_) (by simp only [List.getElem?_toArray, List.getElem?_cons_succ, List.getElem?_cons_zero]; rfl) (by kernel_rfl) (by kernel_rfl) (by kernel_rfl) (by kernel_rfl) (fun _ hj => by cases hj) (by exact fun _ _ _ h => h) (Or.inl ⟨by rfl, ?_⟩) hH ?_
    rotate_left
    · (intro wS hS; clear hS; go_simp; try rfl)
    try simp only [Act.put, List.setIfInBounds_toArray, List.set_cons_zero, List.set_cons_succ]
    refine wpAnyT_take (i := 11) (v := ?_) (by simp only [List.getElem?_toArray, List.getElem?_cons_succ, List.getElem?_cons_zero]; rfl) (by kernel_rfl) (by kernel_rfl) (by kernel_rfl) (by kernel_rfl) (fun _ hj => by cases hj) (by exact fun _ _ _ h => h) (Or.inl ⟨by rfl, ?_⟩) hH ?_
    rotate_left
    · (intro wS hS; clear hS; go_simp; try rfl)
    try simp only [Act.put, List.setIfInBounds_toArray, List.set_cons_zero, List.set_cons_succ]
    refine wpAnyT_take (i := 12) (v := ?_) (by simp only [List.getElem?_toArray, List.getElem?_cons_succ, List.getElem?_cons_zero]; rfl) (by kernel_rfl) (by kernel_rfl) (by kernel_rfl) (by kernel_rfl) (fun _ hj => by cases hj) (by exact fun _ _ _ h => h) (Or.inl ⟨by rfl, ?_⟩) hH ?_
    rotate_left
    · (intro wS hS; clear hS; go_simp; try rfl)
    try simp only [Act.put, List.setIfInBounds_toArray, List.set_cons_zero, List.set_cons_succ]
    refine wpAnyT_take (i := 13) (v := ?_) (by simp only [List.getElem?_toArray, List.getElem?_cons_succ, List.getElem?_cons_zero]; rfl) (by kernel_rfl) (by kernel_rfl) (by kernel_rfl) (by kernel_rfl) (fun _ hj => by cases hj) (by exact fun _ _ _ h => h) (Or.inl ⟨by rfl, ?_⟩) hH ?_
    rotate_left
    · (intro wS hS; clear hS; go_simp; try rfl)
    try simp only [Act.put, List.setIfInBounds_toArray, List.set_cons_zero, List.set_cons_succ]
    refine wpAnyT_take (i := 14) (v := ?_) (by simp only [List.getElem?_toArray, List.getElem?_cons_succ, List.getElem?_cons_zero]; rfl) (by kernel_rfl) (by kernel_rfl) (by kernel_rfl) (by kernel_rfl) (fun _ hj => by cases hj) (by exact fun _ _ _ h => h) (Or.inl ⟨by rfl, ?_⟩) hH ?_
    rotate_left
    · (intro wS hS; clear hS; go_simp; try rfl)
    try simp only [Act.put, List.setIfInBounds_toArray, List.set_cons_zero, List.set_cons_succ]
    refine wpAnyT_take (i := 15) (v := ?_) (by simp only [List.getElem?_toArray, List.getElem?_cons_succ, List.getElem?_cons_zero]; rfl) (by kernel_rfl) (by kernel_rfl) (by kernel_rfl) (by kernel_rfl) (fun _ hj => by cases hj) (by exact fun _ _ _ h => h) (Or.inl ⟨by rfl, ?_⟩) hH ?_
    rotate_left
    · (intro wS hS; clear hS; go_simp; try rfl)
    try simp only [Act.put, List.setIfInBounds_toArray, List.set_cons_zero, List.set_cons_succ]
    refine wpAnyT_done (by kernel_rfl) ?_ _
    have W5 := Lib.hid (WR.out.step hH)
    have F5 := Lib.hid (FR.out.trans (FrS.of_below hH))
    clear WR FR hH cx cy
    by_cases hq0 : q = 0
    · have n2 : (q != 0) = false := by simp [hq0]
      have EN : Hid (F (n + 1) = F n) := by
        refine Lib.hid ?_
        rw [ES.out, hq0]
        split
        · exact NN.out T OK.out
        · rfl
      clear hq0
      go_wp2_with fail
      go_roundw
      case rel => exact ⟨n + 1, by rw [← Nat.add_assoc, ET.out]; go_num, by have := ET.out; omega, by rw [EN.out]; exact OK.out, by rw [EN.out]; exact W5.out, F5.out⟩
      case measure => simp [intOf]; omega
    have n2 : (q != 0) = true := by simpa using hq0
    have EN : Hid (F (n + 1) = col3 C 2 T t (-q) (F n)) := by refine Lib.hid ?_; rw [ES.out, if_pos (fun h => hq0 (XQ.out h))]
    have DC := Lib.hid (DN.out T (-q) _ W5.out OK.out hlt hTt NQ)
    rw [← EN.out] at DC
    obtain ⟨z1, z2⟩ := NQ
    have v1 : IntKind.i64.wrap (-q) = -q := IntWalk.i64_in _ (by omega)
    clear hq0 ES EN DN NN W5
    go_wp2_with fail
    refine DC.out.mono ?_
    rintro e w6 ⟨rfl, hf, hs⟩
    have F6 := Lib.hid (F5.out.trans hf)
    have HS := Lib.hid hs
    obtain ⟨ok, hok⟩ : ∃ ok, ok3 (F (n + 1)) = ok := ⟨_, rfl⟩
    rw [hok] at BD HS ⊢
    have HO := Lib.hid hok
    clear hf hs hok DC F5
    cases ok with
    | false =>
      have V := Lib.hid (BD.out (by trivial))
      go_wp2_with fail
      go_ret
      exact ⟨by rw [V.out]; rfl, F6.out, fun h => by rw [V.out] at h; cases h⟩
    | true =>
      have W6 := Lib.hid (HS.out (by trivial))
      go_wp2_with fail
      go_roundw
      case rel => exact ⟨n + 1, by rw [← Nat.add_assoc, ET.out]; go_num, by have := ET.out; omega, HO.out, W6.out, F6.out⟩
      case measure => simp [intOf]; omega
end Go.Proofs.Ytpelnfenfeoeeaa
end

section
/-
  Chapter 13, in the program: the place of the least cell.
-/
namespace Go.Proofs.Ytpelnfenfeoeeaa
set_option maxRecDepth 100000
open Go.RowKit
def lcR (C t : Nat) (L : Int) : Int := if L < 0 then 0 else plR C t L
def lcC (C t : Nat) (L : Int) : Int := if L < 0 then 0 else plC C t L
def lcZ (C t : Nat) (s : SSt) (L : Int) : Int := if L < 0 then 0 else plF C t s L.toNat
section
variable {R C t a b : Nat} {s : SSt}
theorem lc_nz {m : Nat} (h : ¬ plL C t s m < 0) : plF C t s (plL C t s m).toNat ≠ 0 := by
  rcases leastF_says (plF C t s) 0 m with ⟨h1, -⟩ | ⟨p, h1, -, -, h4, -⟩
  · have h1 : plL C t s m = -1 := h1
    omega
  · have h1 : plL C t s m = (p : Int) := h1
    rw [h1, Int.toNat_natCast]; exact h4
theorem lc_keep (hb : b < C - t) (h : nearB (cel3S C s (t + a) (t + b)) (lcZ C t s (plL C t s (a * (C - t) + b))) = false) : plL C t s (a * (C - t) + (b + 1)) = plL C t s (a * (C - t) + b) := by
  unfold nearB at h
  rw [decide_eq_false_iff_not] at h
  refine pl_keep hb ?_
  by_cases h0 : cel3S C s (t + a) (t + b) = 0
  · exact .inl h0
  · right
    unfold lcZ at h
    by_cases hl : plL C t s (a * (C - t) + b) < 0
    · rw [if_pos hl] at h; exact absurd ⟨h0, .inl rfl⟩ h
    · rw [if_neg hl] at h
      exact ⟨hl, fun h9 => h ⟨h0, .inr h9⟩⟩
theorem lc_new (hb : b < C - t) (h : nearB (cel3S C s (t + a) (t + b)) (lcZ C t s (plL C t s (a * (C - t) + b))) = true) : lcR C t (plL C t s (a * (C - t) + (b + 1))) = ((t + a : Nat) : Int) ∧ lcC C t (plL C t s (a * (C - t) + (b + 1))) = ((t + b : Nat) : Int) ∧ lcZ C t s (plL C t s (a * (C - t) + (b + 1))) = cel3S C s (t + a) (t + b) := by
  unfold nearB at h
  rw [decide_eq_true_iff] at h
  have h2 : plL C t s (a * (C - t) + b) < 0 ∨ (cel3S C s (t + a) (t + b)).natAbs < (plF C t s (plL C t s (a * (C - t) + b)).toNat).natAbs := by
    have h2 := h.2
    unfold lcZ at h2
    by_cases hl : plL C t s (a * (C - t) + b) < 0
    · exact .inl hl
    · rw [if_neg hl] at h2
      exact .inr (h2.resolve_left (lc_nz hl))
  obtain ⟨e1, e2, e3⟩ := pl_new hb h.1 h2
  rw [e1]
  unfold lcR lcC lcZ
  rw [if_neg (by omega), if_neg (by omega), if_neg (by omega), Int.toNat_natCast, pl_at hb]
  exact ⟨e2, e3, rfl⟩
theorem lc_ok {m : Nat} : (lcZ C t s (plL C t s m) != 0) = !decide (plL C t s m < 0) := by
  unfold lcZ
  by_cases hl : plL C t s m < 0
  · rw [if_pos hl, decide_eq_true hl]; rfl
  · rw [if_neg hl, decide_eq_false hl]
    simpa using lc_nz hl
theorem lc_none (h : plS R C t s = none) : lcR C t (plL C t s ((R - t) * (C - t))) = 0 ∧ lcC C t (plL C t s ((R - t) * (C - t))) = 0 ∧ decide (plL C t s ((R - t) * (C - t)) < 0) = true := by
  rw [pl_end] at h
  by_cases hl : plL C t s ((R - t) * (C - t)) < 0
  · unfold lcR lcC; rw [if_pos hl, if_pos hl]; exact ⟨rfl, rfl, decide_eq_true hl⟩
  · rw [if_neg hl] at h; cases h
theorem lc_some {i j : Nat} (h : plS R C t s = some (i, j)) : lcR C t (plL C t s ((R - t) * (C - t))) = i ∧ lcC C t (plL C t s ((R - t) * (C - t))) = j ∧ decide (plL C t s ((R - t) * (C - t)) < 0) = false := by
  rw [pl_end] at h
  by_cases hl : plL C t s ((R - t) * (C - t)) < 0
  · rw [if_pos hl] at h; cases h
  · rw [if_neg hl] at h
    have h := Option.some.inj h
    have h1 := congrArg Prod.fst h
    have h2 := congrArg Prod.snd h
    dsimp only at h1 h2
    unfold lcR lcC
    rw [if_neg hl, if_neg hl]
    unfold plR at h1 ⊢
    unfold plC at h2 ⊢
    rw [if_neg hl] at h1 h2 ⊢
    rw [if_neg hl]
    rw [Int.toNat_natCast] at h1 h2
    rw [h1, h2]
    exact ⟨rfl, rfl, decide_eq_false hl⟩
end
set_option maxHeartbeats 4000000 in
theorem iLeastCell (R C : Nat) (a : Option Addr) (n m t : Nat) (s : SSt) (w : World) (h : Rd w a s.1) (hA : CelA a n m) (hx : s.1.length = n) (hn : n = R * C) (hR : R ≤ 24) (hC : C ≤ 24) (htR : t < R) (htC : t < C) (ho : nums s.1 = true) :
    Calls Try.prog 61 #[.agg #[.int .i64 R, .int .i64 C, .slice a n m], .int .i64 t] w (Gives (.tuple #[.int .i64 (lcR C t (plL C t s ((R - t) * (C - t)))), .int .i64 (lcC C t (plL C t s ((R - t) * (C - t)))), .bool (!decide (plL C t s ((R - t) * (C - t)) < 0))]) w) := by
  have hle : R * C ≤ 24 * 24 := Nat.mul_le_mul hR hC
  have K0 : Hid (Blk3 (w.alloc (.cells #[.int .i64 R, .int .i64 C, .slice a n m] 26)) w.heap.size 26 (.int .i64 R) (.int .i64 C) (.slice a n m)) := Blk3.at_ _ _ _ _ rfl
  have B0 : Hid (Below w.heap.size w (w.alloc (.cells #[.int .i64 R, .int .i64 C, .slice a n m] 26))) := (Below.refl _ _).alloc (Nat.le_refl _) _
  have RW : Hid (∀ i w', i < R → Calls Try.prog 83 #[.agg #[.int .i64 R, .int .i64 C, .slice a n m], .int .i64 i] w' (RowAt a (i * C) C w')) := fun i w' hi => iRowIn R C i (i * C) n m a w' hA.spot rfl (by rw [hn, ← Nat.succ_mul]; exact Nat.mul_le_mul_right _ hi) hA.le hA.nil (by omega) (by omega)
  have CX : Hid (∀ i j w', i < R → j < C → Below w.heap.size w w' → ∃ g o : Nat, a = some ⟨g, o, none⟩ ∧ w'.cell? ⟨g, o + i * C + j, none⟩ = some (.int .i64 (cel3S C s i j))) := fun i j w' hi hj hb => by
    obtain ⟨g, o, h1, h2⟩ := h.below hb (i * C + j) (by rw [hx, hn]; exact idx_lt hi hj)
    exact ⟨g, o, h1, by rw [Nat.add_assoc]; exact h2⟩
  have NU : Hid (∀ i j, NumP (cel3S C s i j)) := fun i j => nums_def ho _
  have NZ : Hid (∀ L, NumP (lcZ C t s L)) := fun L => by
    unfold lcZ
    split
    · exact ⟨by decide, by decide⟩
    · exact nums_def ho _
  have KEEP : Hid (∀ a b, b < C - t → nearB (cel3S C s (t + a) (t + b)) (lcZ C t s (plL C t s (a * (C - t) + b))) = false → plL C t s (a * (C - t) + (b + 1)) = plL C t s (a * (C - t) + b)) := fun a b hb h => lc_keep hb h
  have NEW : Hid (∀ a b, b < C - t → nearB (cel3S C s (t + a) (t + b)) (lcZ C t s (plL C t s (a * (C - t) + b))) = true → lcR C t (plL C t s (a * (C - t) + (b + 1))) = ((t + a : Nat) : Int) ∧ lcC C t (plL C t s (a * (C - t) + (b + 1))) = ((t + b : Nat) : Int) ∧ lcZ C t s (plL C t s (a * (C - t) + (b + 1))) = cel3S C s (t + a) (t + b)) := fun a b hb h => lc_new hb h
  have OKZ : Hid ((lcZ C t s (plL C t s ((R - t) * (C - t))) != 0) = !decide (plL C t s ((R - t) * (C - t)) < 0)) := lc_ok
  have ZR : Hid (lcR C t (plL C t s (0 * (C - t))) = 0 ∧ lcC C t (plL C t s (0 * (C - t))) = 0 ∧ lcZ C t s (plL C t s (0 * (C - t))) = 0) := by rw [Nat.zero_mul]; exact ⟨rfl, rfl, rfl⟩
  obtain ⟨okb, hokb⟩ : ∃ okb, (!decide (plL C t s ((R - t) * (C - t)) < 0)) = okb := ⟨_, rfl⟩
  rw [hokb] at OKZ ⊢
  clear hokb
  obtain ⟨W, hW⟩ : ∃ W, C - t = W := ⟨_, rfl⟩
  obtain ⟨f, hf⟩ : ∃ f : Nat → Int, plL C t s = f := ⟨_, rfl⟩
  obtain ⟨r, hr⟩ : ∃ r : Int → Int, lcR C t = r := ⟨_, rfl⟩
  obtain ⟨c, hc⟩ : ∃ c : Int → Int, lcC C t = c := ⟨_, rfl⟩
  obtain ⟨y, hy⟩ : ∃ y : Int → Int, lcZ C t s = y := ⟨_, rfl⟩
  obtain ⟨g, hg⟩ : ∃ g : Nat → Nat → Int, cel3S C s = g := ⟨_, rfl⟩
  rw [hW, hf, hr, hc, hy] at ZR
  rw [hW, hf, hy] at OKZ
  rw [hW, hf, hr, hc]
  rw [hy] at NZ
  rw [hW, hf, hy, hg] at KEEP
  rw [hW, hf, hy, hr, hc, hg] at NEW
  rw [hg] at CX NU
  have WC := Lib.hid hW
  clear h hx hn ho hf hr hc hy hg hW hA hle
  go_enter Try.func61, Try.ntmps61
  go_wp2_with fail
  go_loopw [4, 5, 7, 8, 9, 10] (fun v4 v5 v7 v8 _ _ wr => ∃ a0 : Nat, v4 = .int .i64 (r (f (a0 * W))) ∧ v5 = .int .i64 (c (f (a0 * W))) ∧ v7 = .int .i64 (y (f (a0 * W))) ∧ v8 = .int .i64 ((t + a0 : Nat) : Int) ∧ t + a0 ≤ R ∧ Blk3 wr w.heap.size 26 (.int .i64 R) (.int .i64 C) (.slice a n m) ∧ Below w.heap.size w wr) (fun _ _ _ v8 _ _ _ => R - (intOf v8).toNat)
  case atStart => exact ⟨0, by rw [ZR.out.1], by rw [ZR.out.2.1], by rw [ZR.out.2.2], rfl, by omega, K0.out, B0.out⟩
  case round =>
    clear K0 B0 ZR
    obtain ⟨a', rfl, rfl, rfl, rfl, ha, hK, hB⟩ := hrel
    have K := Lib.hid hK
    have B := Lib.hid hB
    clear hK hB
    obtain ⟨p0, p1, p2, -, -, -⟩ := K.out.all
    by_cases hlt : t + a' < R
    · obtain ⟨T, hT⟩ : ∃ T, t + a' = T := ⟨_, rfl⟩
      have ET := Lib.hid hT
      rw [hT] at hlt ⊢
      clear hT
      go_wp2_with fail
      clear p0 p1 p2
      go_loopw [4, 5, 7, 9, 10] (fun v4 v5 v7 v9 _ wr => ∃ b : Nat, v4 = .int .i64 (r (f (a' * W + b))) ∧ v5 = .int .i64 (c (f (a' * W + b))) ∧ v7 = .int .i64 (y (f (a' * W + b))) ∧ v9 = .int .i64 ((t + b : Nat) : Int) ∧ t + b ≤ C ∧ Blk3 wr w.heap.size 26 (.int .i64 R) (.int .i64 C) (.slice a n m) ∧ Below w.heap.size w wr) (fun _ _ _ v9 _ _ => C - (intOf v9).toNat)
      case atStart => exact ⟨0, rfl, rfl, rfl, rfl, by omega, K.out, B.out⟩
      case round =>
        clear K B
        obtain ⟨b, rfl, rfl, rfl, rfl, hb, hK, hB⟩ := hrel
        have K := Lib.hid hK
        have B := Lib.hid hB
        clear hK hB
        obtain ⟨p0, p1, p2, -, -, -⟩ := K.out.all
        by_cases hltC : t + b < C
        · have hbW : b < W := by have := WC.out; omega
          have KE := Lib.hid (KEEP.out a' b hbW)
          have NE := Lib.hid (NEW.out a' b hbW)
          rw [ET.out] at KE NE
          have NX := Lib.hid (NU.out T (t + b))
          have CXX := Lib.hid (fun w' h9 => CX.out T (t + b) w' hlt hltC h9)
          obtain ⟨U, hU⟩ : ∃ U, t + b = U := ⟨_, rfl⟩
          have EU := Lib.hid hU
          rw [hU] at KE NE NX CXX hltC ⊢
          obtain ⟨L, hL⟩ : ∃ L, f (a' * W + b) = L := ⟨_, rfl⟩
          rw [hL] at KE NE ⊢
          obtain ⟨x, hx⟩ : ∃ x, g T U = x := ⟨_, rfl⟩
          rw [hx] at KE NE NX CXX
          have ZI := Lib.hid (NZ.out L)
          obtain ⟨Z, hZ⟩ : ∃ Z, y L = Z := ⟨_, rfl⟩
          rw [hZ] at KE NE ZI ⊢
          have EZ := Lib.hid hZ
          have NR := Lib.hid (fun w' => iNear x Z w' NX.out ZI.out)
          obtain ⟨nb, hnb⟩ : ∃ nb, nearB x Z = nb := ⟨_, rfl⟩
          rw [hnb] at NR KE NE
          clear hL hx hU hbW hZ hnb
          have u0 : (0 : Int) ≤ (U : Int) := by omega
          have u1 : (U : Int) < (C : Int) := by omega
          go_wp2_with fail
          refine (RW.out T _ hlt).mono ?_
          rintro e w3 ⟨q', m', rfl, -, hq', -, hb3⟩
          have K3 := Lib.hid (K.out.step hb3)
          have B3 := Lib.hid (B.out.trans (hb3.mono B.out.size))
          obtain ⟨g9, o9, hag, hcell⟩ := CXX.out w3 B3.out
          obtain rfl := hq' g9 o9 hag (by omega)
          clear hb3 hq' hag p0 p1 p2 K B
          go_wp2_with fail
          refine (NR.out _).mono ?_
          rintro e w4 ⟨rfl, hb4⟩
          have K4 := Lib.hid (K3.out.step hb4)
          have B4 := Lib.hid (B3.out.trans (hb4.mono B3.out.size))
          clear hb4 K3 B3 hcell u0 u1
          cases nb with
          | false =>
            have LE := Lib.hid (KE.out rfl)
            go_wp2_with fail
            go_roundw
            case rel => exact ⟨b + 1, by rw [LE.out], by rw [LE.out], by rw [LE.out, EZ.out], by rw [← Nat.add_assoc, EU.out]; go_num, by have := EU.out; omega, K4.out, B4.out⟩
            case measure => simp [intOf]; omega
          | true =>
            have LE := Lib.hid (NE.out rfl)
            go_wp2_with fail
            go_roundw
            case rel => exact ⟨b + 1, by rw [LE.out.1], by rw [LE.out.2.1], by rw [LE.out.2.2], by rw [← Nat.add_assoc, EU.out]; go_num, by have := EU.out; omega, K4.out, B4.out⟩
            case measure => simp [intOf]; omega
        · have hbe : b = W := by have := WC.out; omega
          have SE : Hid (a' * W + b = (a' + 1) * W) := by refine Lib.hid ?_; rw [hbe, Nat.succ_mul]
          clear hbe
          go_wp2_with fail
          go_roundw
          case rel => exact ⟨a' + 1, by rw [SE.out], by rw [SE.out], by rw [SE.out], by rw [← Nat.add_assoc, ET.out]; go_num, by have := ET.out; omega, K.out, B.out⟩
          case measure => simp [intOf]; omega
    · have SE : Hid (a' = R - t) := by show _ = _; omega
      rw [SE.out]
      obtain ⟨zz, hzz⟩ : ∃ zz, y (f ((R - t) * W)) = zz := ⟨_, rfl⟩
      have OK := OKZ.out
      rw [hzz] at OK ⊢
      have e9 : ¬ t + (R - t) < R := by omega
      clear hzz SE hlt ha
      go_wp2_with fail
      exact bodyPost_ret (v := .tuple #[.int .i64 (r (f ((R - t) * W))), .int .i64 (c (f ((R - t) * W))), .bool okb]) (by simp [results, Try.results61, go_sem]) rfl ⟨rfl, B.out⟩
end Go.Proofs.Ytpelnfenfeoeeaa
end

section
/-
  Chapter 13, in the program: a column, a diagonal, in memory of their own.
-/
namespace Go.Proofs.Ytpelnfenfeoeeaa
set_option maxRecDepth 100000
open Go.RowKit
def upV (v : Nat → Int) (N k : Nat) : List Int := (List.range N).map fun i => if i < k then v i else 0
theorem upV_length (v : Nat → Int) (N k : Nat) : (upV v N k).length = N := by simp [upV]
theorem upV_at {v : Nat → Int} {N k i : Nat} (hi : i < N) : (upV v N k).getD i 0 = if i < k then v i else 0 := by simp [upV, List.getD, hi]
theorem upV_zero (v : Nat → Int) (N : Nat) : upV v N 0 = List.replicate N 0 := by
  refine list_getD (by rw [upV_length, List.length_replicate]) fun p hp => ?_
  rw [upV_length] at hp
  rw [upV_at hp, if_neg (Nat.not_lt_zero _)]
  simp [List.getD, hp]
theorem upV_all (v : Nat → Int) (N : Nat) : upV v N N = rwL N v := by
  refine list_getD (by rw [upV_length, rwL_length]) fun p hp => ?_
  rw [upV_length] at hp
  rw [upV_at hp, if_pos hp, rwL_at hp]
theorem upV_set {v : Nat → Int} {N k : Nat} (hk : k < N) : (upV v N k).set k (v k) = upV v N (k + 1) := by
  refine list_getD (by rw [List.length_set, upV_length, upV_length]) fun p hp => ?_
  rw [List.length_set, upV_length] at hp
  rw [getD_set _ _ _ _ (by rw [upV_length]; exact hk), upV_at hp, upV_at hp]
  by_cases e : p = k
  · rw [if_pos e, e, if_pos (Nat.lt_succ_self _)]
  · rw [if_neg e]
    by_cases h : p < k
    · rw [if_pos h, if_pos (by omega)]
    · rw [if_neg h, if_neg (by omega)]
def LineRes (N : Nat) (v : Nat → Int) (w : World) (e : Ending) (w' : World) : Prop := ∃ g : Nat, e = .returned (.slice (some ⟨g, 0, none⟩) N N) ∧ w.heap.size ≤ g ∧ Ints w' g (rwL N v) ∧ Below w.heap.size w w'
set_option maxHeartbeats 2000000 in
theorem iColOf (R C : Nat) (a : Option Addr) (n m j : Nat) (xs : List Int) (w : World) (h : Rd w a xs) (hA : CelA a n m) (hx : xs.length = n) (hn : n = R * C) (hR : R ≤ 24) (hC : C ≤ 24) (hj : j < C) :
    Calls Try.prog 151 #[.agg #[.int .i64 R, .int .i64 C, .slice a n m], .int .i64 j] w (LineRes R (fun i => mxC C xs i j) w) := by
  have hle : R * C ≤ 24 * 24 := Nat.mul_le_mul hR hC
  have RW : Hid (∀ i w', i < R → Calls Try.prog 83 #[.agg #[.int .i64 R, .int .i64 C, .slice a n m], .int .i64 i] w' (RowAt a (i * C) C w')) := fun i w' hi => iRowIn R C i (i * C) n m a w' hA.spot rfl (by rw [hn, ← Nat.succ_mul]; exact Nat.mul_le_mul_right _ hi) hA.le hA.nil (by omega) (by omega)
  have CX : Hid (∀ i w', i < R → Below w.heap.size w w' → ∃ g o : Nat, a = some ⟨g, o, none⟩ ∧ w'.cell? ⟨g, o + i * C + j, none⟩ = some (.int .i64 (mxC C xs i j))) := fun i w' hi hb => by
    obtain ⟨g, o, h1, h2⟩ := h.below hb (i * C + j) (by rw [hx, hn]; exact idx_lt hi hj)
    exact ⟨g, o, h1, by rw [Nat.add_assoc]; exact h2⟩
  obtain ⟨v, hv⟩ : ∃ v : Nat → Int, (fun i => mxC C xs i j) = v := ⟨_, rfl⟩
  have CX : Hid (∀ i w', i < R → Below w.heap.size w w' → ∃ g o : Nat, a = some ⟨g, o, none⟩ ∧ w'.cell? ⟨g, o + i * C + j, none⟩ = some (.int .i64 (v i))) := by rw [← hv]; exact CX
  rw [hv]
  clear h hA hx hn hv hle
  go_enter Try.func151, Try.ntmps151
  have hmk := makeInts R (by omega)
  have I0 : Hid (Ints ((w.alloc (.cells #[.int .i64 R, .int .i64 C, .slice a n m] 26)).alloc (.cells (madeCells #[.int .i64 0] R) 3)) (w.heap.size + 1) (upV v R 0)) := by
    refine Lib.hid ?_
    rw [upV_zero]
    exact Ints.made R (by simp)
  have K0 : Hid (Blk3 ((w.alloc (.cells #[.int .i64 R, .int .i64 C, .slice a n m] 26)).alloc (.cells (madeCells #[.int .i64 0] R) 3)) w.heap.size 26 (.int .i64 R) (.int .i64 C) (.slice a n m)) := (Blk3.at_ _ _ _ _ rfl).old _
  have B0 : Hid (Below w.heap.size w ((w.alloc (.cells #[.int .i64 R, .int .i64 C, .slice a n m] 26)).alloc (.cells (madeCells #[.int .i64 0] R) 3))) := ((Below.refl _ _).alloc (Nat.le_refl _) _).alloc (by simp) _
  have S0 : Hid (((w.alloc (.cells #[.int .i64 R, .int .i64 C, .slice a n m] 26)).alloc (.cells (madeCells #[.int .i64 0] R) 3)).heap.size = w.heap.size + 2) := by show _ = _; simp
  go_wp2_with fail
  generalize (w.alloc (.cells #[.int .i64 R, .int .i64 C, .slice a n m] 26)).alloc (.cells (madeCells #[.int .i64 0] R) 3) = W0 at I0 K0 B0 S0 ⊢
  clear hmk
  go_loopw [6, 12] (fun _ v9 wq => ∃ k : Nat, v9 = .int .i64 k ∧ k ≤ R ∧ Ints wq (w.heap.size + 1) (upV v R k) ∧ FrS (fun b => b = w.heap.size + 1) W0 wq) (fun _ v9 _ => R - (intOf v9).toNat)
  case atStart => exact ⟨0, rfl, by omega, I0.out, FrS.refl _ _⟩
  case round =>
    clear I0
    obtain ⟨k, rfl, hk, hi, hfr⟩ := hrel
    have I := Lib.hid hi
    have F := Lib.hid hfr
    clear hi hfr
    have K := Lib.hid (K0.out.frs F.out (by omega))
    have B := Lib.hid (B0.out.trans (F.out.below (B := w.heap.size) (fun k hk => by omega) B0.out.size))
    obtain ⟨p0, p1, p2, -, -, -⟩ := K.out.all
    by_cases hlt : k < R
    · have CXX := Lib.hid (fun w' h9 => CX.out k w' hlt h9)
      have US := Lib.hid (upV_set (v := v) hlt)
      obtain ⟨x, hx⟩ : ∃ x, v k = x := ⟨_, rfl⟩
      rw [hx] at CXX US
      clear hx
      go_wp2_with fail
      refine (RW.out k _ hlt).mono ?_
      rintro e w3 ⟨q', m', rfl, -, hq', -, hb3⟩
      have B3 := Lib.hid (B.out.trans (hb3.mono B.out.size))
      obtain ⟨g9, o9, hag, hcell⟩ := CXX.out w3 B3.out
      obtain rfl := hq' g9 o9 hag (by omega)
      have I3 := Lib.hid (I.out.keep hb3 I.out.lt)
      have F3 := Lib.hid (F.out.trans (FrS.of_below hb3))
      have hold := I3.out.cell (i := k) (by rw [upV_length]; exact hlt)
      have hfree := I3.out.free k
      have u1 : (k : Int) < (R : Int) := by omega
      have u2 : (j : Int) < (C : Int) := by omega
      clear hb3 hq' hag p0 p1 p2
      go_wp2_with fail
      go_roundw
      case rel => exact ⟨k + 1, by go_num, by omega, by rw [← US.out]; exact I3.out.set k x, F3.out.set (a := ⟨w.heap.size + 1, k, none⟩) (.inl rfl) _⟩
      case measure => simp [intOf]; omega
    · have hkN : k = R := by omega
      have II : Hid (Ints wr (w.heap.size + 1) (rwL R v)) := by refine Lib.hid ?_; rw [← upV_all, ← hkN]; rw [← hkN] at I; exact I.out
      clear hkN
      go_wp2_with fail
      go_ret
      exact ⟨_, rfl, by omega, II.out, B.out⟩
set_option maxHeartbeats 4000000 in
theorem iDiagOf (R C : Nat) (a : Option Addr) (n m : Nat) (xs : List Int) (w : World) (h : Rd w a xs) (hA : CelA a n m) (hx : xs.length = n) (hn : n = R * C) (hR : R ≤ 24) (hC : C ≤ 24) :
    Calls Try.prog 64 #[.agg #[.int .i64 R, .int .i64 C, .slice a n m]] w (LineRes (min R C) (fun i => mxC C xs i i) w) := by
  have hle : R * C ≤ 24 * 24 := Nat.mul_le_mul hR hC
  have RW : Hid (∀ i w', i < R → Calls Try.prog 83 #[.agg #[.int .i64 R, .int .i64 C, .slice a n m], .int .i64 i] w' (RowAt a (i * C) C w')) := fun i w' hi => iRowIn R C i (i * C) n m a w' hA.spot rfl (by rw [hn, ← Nat.succ_mul]; exact Nat.mul_le_mul_right _ hi) hA.le hA.nil (by omega) (by omega)
  have CX : Hid (∀ i w', i < R → i < C → Below w.heap.size w w' → ∃ g o : Nat, a = some ⟨g, o, none⟩ ∧ w'.cell? ⟨g, o + i * C + i, none⟩ = some (.int .i64 (mxC C xs i i))) := fun i w' hi hj hb => by
    obtain ⟨g, o, h1, h2⟩ := h.below hb (i * C + i) (by rw [hx, hn]; exact idx_lt hi hj)
    exact ⟨g, o, h1, by rw [Nat.add_assoc]; exact h2⟩
  obtain ⟨v, hv⟩ : ∃ v : Nat → Int, (fun i => mxC C xs i i) = v := ⟨_, rfl⟩
  have CX : Hid (∀ i w', i < R → i < C → Below w.heap.size w w' → ∃ g o : Nat, a = some ⟨g, o, none⟩ ∧ w'.cell? ⟨g, o + i * C + i, none⟩ = some (.int .i64 (v i))) := by rw [← hv]; exact CX
  rw [hv]
  clear h hA hx hn hv hle
  rcases Nat.lt_or_ge C R with hCR | hCR
  · have CX : Hid (∀ i w', i < C → Below w.heap.size w w' → ∃ g o : Nat, a = some ⟨g, o, none⟩ ∧ w'.cell? ⟨g, o + i * C + i, none⟩ = some (.int .i64 (v i))) := fun i w' h1 h2 => CX.out i w' (by omega) h1 h2
    have RW : Hid (∀ i w', i < C → Calls Try.prog 83 #[.agg #[.int .i64 R, .int .i64 C, .slice a n m], .int .i64 i] w' (RowAt a (i * C) C w')) := fun i w' h1 => RW.out i w' (by omega)
    rw [Nat.min_eq_right (Nat.le_of_lt hCR)]
    have vm4 : min (R : Int) (C : Int) = (C : Int) := by omega
    go_enter Try.func64, Try.ntmps64
    have hmk := makeInts C (by omega)
    have I0 : Hid (Ints ((w.alloc (.cells #[.int .i64 R, .int .i64 C, .slice a n m] 26)).alloc (.cells (madeCells #[.int .i64 0] C) 3)) (w.heap.size + 1) (upV v C 0)) := by
      refine Lib.hid ?_
      rw [upV_zero]
      exact Ints.made C (by simp)
    have K0 : Hid (Blk3 ((w.alloc (.cells #[.int .i64 R, .int .i64 C, .slice a n m] 26)).alloc (.cells (madeCells #[.int .i64 0] C) 3)) w.heap.size 26 (.int .i64 R) (.int .i64 C) (.slice a n m)) := (Blk3.at_ _ _ _ _ rfl).old _
    have B0 : Hid (Below w.heap.size w ((w.alloc (.cells #[.int .i64 R, .int .i64 C, .slice a n m] 26)).alloc (.cells (madeCells #[.int .i64 0] C) 3))) := ((Below.refl _ _).alloc (Nat.le_refl _) _).alloc (by simp) _
    have S0 : Hid (((w.alloc (.cells #[.int .i64 R, .int .i64 C, .slice a n m] 26)).alloc (.cells (madeCells #[.int .i64 0] C) 3)).heap.size = w.heap.size + 2) := by show _ = _; simp
    go_wp2_with fail
    generalize (w.alloc (.cells #[.int .i64 R, .int .i64 C, .slice a n m] 26)).alloc (.cells (madeCells #[.int .i64 0] C) 3) = W0 at I0 K0 B0 S0 ⊢
    clear hmk
    go_loopw [4, 13] (fun _ v9 wq => ∃ k : Nat, v9 = .int .i64 k ∧ k ≤ C ∧ Ints wq (w.heap.size + 1) (upV v C k) ∧ FrS (fun b => b = w.heap.size + 1) W0 wq) (fun _ v9 _ => C - (intOf v9).toNat)
    case atStart => exact ⟨0, rfl, by omega, I0.out, FrS.refl _ _⟩
    case round =>
      clear I0
      obtain ⟨k, rfl, hk, hi, hfr⟩ := hrel
      have I := Lib.hid hi
      have F := Lib.hid hfr
      clear hi hfr
      have K := Lib.hid (K0.out.frs F.out (by omega))
      have B := Lib.hid (B0.out.trans (F.out.below (B := w.heap.size) (fun k hk => by omega) B0.out.size))
      obtain ⟨p0, p1, p2, -, -, -⟩ := K.out.all
      by_cases hlt : k < C
      · have CXX := Lib.hid (fun w' h9 => CX.out k w' hlt h9)
        have US := Lib.hid (upV_set (v := v) hlt)
        obtain ⟨x, hx⟩ : ∃ x, v k = x := ⟨_, rfl⟩
        rw [hx] at CXX US
        clear hx
        go_wp2_with fail
        refine (RW.out k _ hlt).mono ?_
        rintro e w3 ⟨q', m', rfl, -, hq', -, hb3⟩
        have B3 := Lib.hid (B.out.trans (hb3.mono B.out.size))
        obtain ⟨g9, o9, hag, hcell⟩ := CXX.out w3 B3.out
        obtain rfl := hq' g9 o9 hag (by omega)
        have I3 := Lib.hid (I.out.keep hb3 I.out.lt)
        have F3 := Lib.hid (F.out.trans (FrS.of_below hb3))
        have hold := I3.out.cell (i := k) (by rw [upV_length]; exact hlt)
        have hfree := I3.out.free k
        have u1 : (k : Int) < (C : Int) := by omega
        have u2 : (k : Int) < (C : Int) := by omega
        clear hb3 hq' hag p0 p1 p2
        go_wp2_with fail
        go_roundw
        case rel => exact ⟨k + 1, by go_num, by omega, by rw [← US.out]; exact I3.out.set k x, F3.out.set (a := ⟨w.heap.size + 1, k, none⟩) (.inl rfl) _⟩
        case measure => simp [intOf]; omega
      · have hkN : k = C := by omega
        have II : Hid (Ints wr (w.heap.size + 1) (rwL C v)) := by refine Lib.hid ?_; rw [← upV_all, ← hkN]; rw [← hkN] at I; exact I.out
        clear hkN
        go_wp2_with fail
        go_ret
        exact ⟨_, rfl, by omega, II.out, B.out⟩
  · have CX : Hid (∀ i w', i < R → Below w.heap.size w w' → ∃ g o : Nat, a = some ⟨g, o, none⟩ ∧ w'.cell? ⟨g, o + i * C + i, none⟩ = some (.int .i64 (v i))) := fun i w' h1 h2 => CX.out i w' h1 (by omega) h2
    have hCR2 : ¬ C < R := by omega
    rw [Nat.min_eq_left hCR]
    have vm4 : min (R : Int) (C : Int) = (R : Int) := by omega
    go_enter Try.func64, Try.ntmps64
    have hmk := makeInts R (by omega)
    have I0 : Hid (Ints ((w.alloc (.cells #[.int .i64 R, .int .i64 C, .slice a n m] 26)).alloc (.cells (madeCells #[.int .i64 0] R) 3)) (w.heap.size + 1) (upV v R 0)) := by
      refine Lib.hid ?_
      rw [upV_zero]
      exact Ints.made R (by simp)
    have K0 : Hid (Blk3 ((w.alloc (.cells #[.int .i64 R, .int .i64 C, .slice a n m] 26)).alloc (.cells (madeCells #[.int .i64 0] R) 3)) w.heap.size 26 (.int .i64 R) (.int .i64 C) (.slice a n m)) := (Blk3.at_ _ _ _ _ rfl).old _
    have B0 : Hid (Below w.heap.size w ((w.alloc (.cells #[.int .i64 R, .int .i64 C, .slice a n m] 26)).alloc (.cells (madeCells #[.int .i64 0] R) 3))) := ((Below.refl _ _).alloc (Nat.le_refl _) _).alloc (by simp) _
    have S0 : Hid (((w.alloc (.cells #[.int .i64 R, .int .i64 C, .slice a n m] 26)).alloc (.cells (madeCells #[.int .i64 0] R) 3)).heap.size = w.heap.size + 2) := by show _ = _; simp
    go_wp2_with fail
    generalize (w.alloc (.cells #[.int .i64 R, .int .i64 C, .slice a n m] 26)).alloc (.cells (madeCells #[.int .i64 0] R) 3) = W0 at I0 K0 B0 S0 ⊢
    clear hmk
    go_loopw [4, 13] (fun _ v9 wq => ∃ k : Nat, v9 = .int .i64 k ∧ k ≤ R ∧ Ints wq (w.heap.size + 1) (upV v R k) ∧ FrS (fun b => b = w.heap.size + 1) W0 wq) (fun _ v9 _ => R - (intOf v9).toNat)
    case atStart => exact ⟨0, rfl, by omega, I0.out, FrS.refl _ _⟩
    case round =>
      clear I0
      obtain ⟨k, rfl, hk, hi, hfr⟩ := hrel
      have I := Lib.hid hi
      have F := Lib.hid hfr
      clear hi hfr
      have K := Lib.hid (K0.out.frs F.out (by omega))
      have B := Lib.hid (B0.out.trans (F.out.below (B := w.heap.size) (fun k hk => by omega) B0.out.size))
      obtain ⟨p0, p1, p2, -, -, -⟩ := K.out.all
      by_cases hlt : k < R
      · have CXX := Lib.hid (fun w' h9 => CX.out k w' hlt h9)
        have US := Lib.hid (upV_set (v := v) hlt)
        obtain ⟨x, hx⟩ : ∃ x, v k = x := ⟨_, rfl⟩
        rw [hx] at CXX US
        clear hx
        go_wp2_with fail
        refine (RW.out k _ hlt).mono ?_
        rintro e w3 ⟨q', m', rfl, -, hq', -, hb3⟩
        have B3 := Lib.hid (B.out.trans (hb3.mono B.out.size))
        obtain ⟨g9, o9, hag, hcell⟩ := CXX.out w3 B3.out
        obtain rfl := hq' g9 o9 hag (by omega)
        have I3 := Lib.hid (I.out.keep hb3 I.out.lt)
        have F3 := Lib.hid (F.out.trans (FrS.of_below hb3))
        have hold := I3.out.cell (i := k) (by rw [upV_length]; exact hlt)
        have hfree := I3.out.free k
        have u1 : (k : Int) < (R : Int) := by omega
        have u2 : (k : Int) < (C : Int) := by omega
        clear hb3 hq' hag p0 p1 p2
        go_wp2_with fail
        go_roundw
        case rel => exact ⟨k + 1, by go_num, by omega, by rw [← US.out]; exact I3.out.set k x, F3.out.set (a := ⟨w.heap.size + 1, k, none⟩) (.inl rfl) _⟩
        case measure => simp [intOf]; omega
      · have hkN : k = R := by omega
        have II : Hid (Ints wr (w.heap.size + 1) (rwL R v)) := by refine Lib.hid ?_; rw [← upV_all, ← hkN]; rw [← hkN] at I; exact I.out
        clear hkN
        go_wp2_with fail
        go_ret
        exact ⟨_, rfl, by omega, II.out, B.out⟩
end Go.Proofs.Ytpelnfenfeoeeaa
end

section
/-
  Chapter 13, in the program: a round.
-/
namespace Go.Proofs.Ytpelnfenfeoeeaa
set_option maxRecDepth 100000
open Go.RowKit
theorem Own.blk_ne {B g o n m px : Nat} {w : World} {zs : List Int} (h : Own B w (.slice (some ⟨g, o, none⟩) n m) zs) (hb : (Value.slice (some ⟨g, o, none⟩) n m).ownBlock ≠ some px) : g ≠ px := fun e => by
  apply hb
  rcases h with ⟨h, -⟩ | ⟨g2, c, h, -⟩
  · cases h
  · injection h with h1 _ _
    injection h1 with h1
    injection h1 with h1 h2
    rw [h2, e]
    rfl
set_option maxHeartbeats 4000000 in
theorem iRound (R C px B t i j : Nat) (s : SSt) (w : World) (h : TsW R C px B s w) (hR : R ≤ 24) (hC : C ≤ 24) (ho : ok3 s = true) (htR : t < R) (htC : t < C) (hiR : i < R) (hjC : j < C) (hP : plS R C t s = some (i, j)) (hz : cel3S C (sw3 R C t i j s) t t ≠ 0) :
    Calls Try.prog 117 #[.pointer (some ⟨px, 0, none⟩), .int .i64 t] w (TsRes R C px B (rdF R C t (sw3 R C t i j s)) w) := by
  have hle := le600 hR hC
  obtain ⟨e1, e2, e3⟩ := lc_some hP
  have LC : Hid (∀ (qa : Option Addr) (ma : Nat) w', Own B w' (.slice qa (R * C) ma) s.1 → Calls Try.prog 61 #[.agg #[.int .i64 R, .int .i64 C, .slice qa (R * C) ma], .int .i64 t] w' (Gives (.tuple #[.int .i64 i, .int .i64 j, .bool true]) w')) := fun qa ma w' hw => by
    have := iLeastCell R C qa (R * C) ma t s w' hw.rdS hw.celA h.siz.l1 rfl hR hC htR htC (ok3_and ho).1
    rw [e1, e2, e3] at this
    exact this
  obtain ⟨st1, hst1⟩ : ∃ st1, (if i ≠ t then row3 R C 0 i t 0 s else s) = st1 := ⟨_, rfl⟩
  have o1 : ok3 st1 = true := by
    rw [← hst1]; split
    · exact ok3_swapR ho
    · exact ho
  have BR : Hid (∀ w', TsW R C px B s w' → Calls Try.prog 149 #[.func (.func 120) #[.pointer (some ⟨px, 0, none⟩)] #[], .int .i64 i, .int .i64 t] w' (fun e w2 => e = .returned (.bool true) ∧ FrS (fun b => b = px) w' w2 ∧ TsW R C px B st1 w2)) := fun w' hw => by
    have := iBringR R C px B i t s w' hw hR hC ho hiR htR
    rw [hst1] at this
    refine this.mono ?_
    rintro e w2 ⟨q1, q2, q3⟩
    exact ⟨by rw [q1, o1], q2, q3 o1⟩
  have es : (if j ≠ t then col3 C 0 j t 0 st1 else st1) = sw3 R C t i j s := by unfold sw3; rw [hst1]
  have o2 := ok3_sw (R := R) (C := C) (t := t) (i := i) (j := j) ho
  obtain ⟨st2, hst2⟩ : ∃ st2, sw3 R C t i j s = st2 := ⟨_, rfl⟩
  rw [hst2] at es o2 hz ⊢
  have BC : Hid (∀ w', TsW R C px B st1 w' → Calls Try.prog 149 #[.func (.func 148) #[.pointer (some ⟨px, 0, none⟩)] #[], .int .i64 j, .int .i64 t] w' (fun e w2 => e = .returned (.bool true) ∧ FrS (fun b => b = px) w' w2 ∧ TsW R C px B st2 w2)) := fun w' hw => by
    have := iBringC R C px B j t st1 w' hw hR hC o1 hjC htC
    rw [es] at this
    refine this.mono ?_
    rintro e w2 ⟨q1, q2, q3⟩
    exact ⟨by rw [q1, o2], q2, q3 o2⟩
  have CO : Hid (∀ (qa : Option Addr) (ma : Nat) w', Siz3 R C st2 → Own B w' (.slice qa (R * C) ma) st2.1 → Calls Try.prog 151 #[.agg #[.int .i64 R, .int .i64 C, .slice qa (R * C) ma], .int .i64 t] w' (LineRes R (fun i => mxC C st2.1 i t) w')) := fun qa ma w' hs hw => iColOf R C qa (R * C) ma t st2.1 w' hw.rdS hw.celA hs.l1 rfl hR hC htC
  obtain ⟨p, hp⟩ : ∃ p, cel3S C st2 t t = p := ⟨_, rfl⟩
  rw [hp] at hz
  obtain ⟨s3, hs3⟩ : ∃ s3, rowsF R C t p st2 (R - t - 1) = s3 := ⟨_, rfl⟩
  have DR : Hid (∀ g w', TsW R C px B st2 w' → Ints w' g (rwL R (fun i => mxC C st2.1 i t)) → g ≠ px → Calls Try.prog 150 #[.func (.func 120) #[.pointer (some ⟨px, 0, none⟩)] #[], .slice (some ⟨g, 0, none⟩) R R, .int .i64 t] w' (TsRes R C px B s3 w')) := fun g w' hw hi hg => by
    rw [← hs3]
    exact iDivR R C px B t R _ _ p st2 w' hw hR hC o2 hi.rd (rwL_length _ _) (fun b o e => by injection e with e; injection e with e1 _; rw [← e1]; exact hg) htR htC (fun i hi => by rw [rwL_at hi]; rfl) (by rw [rwL_at htR]; exact hp) hz
  have RB : Hid (Siz3 R C st2 → ok3 s3 = false → ok3 (rdF R C t st2) = false) := fun hs h9 => rd_bad_rows hs htR htC (n := R - t - 1) (by omega) (by rw [hp, hs3]; exact h9)
  have KP : Hid (Siz3 R C st2 → cel3S C s3 t t = p) := fun hs => by rw [← hs3, ← hp]; exact rowsF_keep hs _ (by omega) t t htR htC (.inl (Nat.le_refl _))
  have RI : Hid (∀ (g o ma : Nat) w', Own B w' (.slice (some ⟨g, o, none⟩) (R * C) ma) s3.1 → Calls Try.prog 83 #[.agg #[.int .i64 R, .int .i64 C, .slice (some ⟨g, o, none⟩) (R * C) ma], .int .i64 t] w' (fun e w2 => ∃ m', e = .returned (.slice (some ⟨g, o + t * C, none⟩) C m') ∧ Below w'.heap.size w' w2)) := fun g o ma w' hw => (iRowIn R C t (t * C) (R * C) ma _ w' hw.celA.spot rfl (by rw [← Nat.succ_mul]; exact Nat.mul_le_mul_right _ htR) hw.celA.le hw.celA.nil (by omega) (by omega)).mono fun e w2 ⟨q', m', h1, _, h2, _, h3⟩ => ⟨m', by rw [h1, h2 g o rfl (by omega)], h3⟩
  have DC : Hid (∀ (g o m' : Nat) w', Siz3 R C st2 → ok3 s3 = true → TsW R C px B s3 w' → Rd w' (some ⟨g, o, none⟩) (rwL C (mxC C s3.1 t)) → g ≠ px → Calls Try.prog 150 #[.func (.func 148) #[.pointer (some ⟨px, 0, none⟩)] #[], .slice (some ⟨g, o, none⟩) C m', .int .i64 t] w' (TsRes R C px B (rdF R C t st2) w')) := fun g o m' w' hs h9 hw hi hg => by
    have := iDivC R C px B t m' _ _ p s3 w' hw hR hC h9 hi (rwL_length _ _) (fun b o e => by injection e with e; injection e with e1 _; rw [← e1]; exact hg) htC htR (fun i hi => by rw [rwL_at hi]; rfl) (by rw [rwL_at htC]; exact KP.out hs) hz
    rw [← hs3, ← hp] at this
    exact this
  have RDR : Hid (∀ (g o : Nat) w', Siz3 R C s3 → Rd w' (some ⟨g, o, none⟩) s3.1 → Rd w' (some ⟨g, o + t * C, none⟩) (rwL C (mxC C s3.1 t))) := fun g o w' hs hw => hw.row (r := R) hs.l1 htR (fun g' o' e _ => by injection e with e; injection e with e1 e2; rw [e1, e2])
  have HA : Hid (∀ (qa : Option Addr) w', Siz3 R C s3 → Rd w' qa s3.1 → ∃ g o : Nat, qa = some ⟨g, o, none⟩) := fun qa w' hs hw => by
    obtain ⟨g, o, e, -⟩ := hw (t * C + t) (by rw [hs.l1]; exact idx_lt htR htC)
    exact ⟨g, o, e⟩
  have W0 := Lib.hid h
  generalize rdF R C t st2 = s9 at RB DC ⊢
  clear h hR hC ho hP hz hp hs3 hst1 hst2 es o1 o2 e1 e2 e3 hiR hjC KP
  obtain ⟨qa, qu, qv, ma, mu, mv, q⟩ := W0.out
  have QX := Lib.hid q
  obtain ⟨c0, c1, c2, -⟩ := q.k.all
  clear q
  go_enter Try.func117, Try.ntmps117
  go_wp2_with fail
  refine (LC.out qa ma _ QX.out.fA).mono ?_
  rintro e w1 ⟨rfl, hb⟩
  have W1 := Lib.hid (W0.out.step hb)
  have F1 : Hid (FrS (fun b => b = px) w w1) := FrS.of_below hb
  clear hb LC W0 QX c0 c1 c2
  go_wp2_with fail
  refine (BR.out _ W1.out).mono ?_
  rintro e w2 ⟨rfl, hf, hw⟩
  have W2 := Lib.hid hw
  have F2 := Lib.hid (F1.out.trans hf)
  clear hf hw BR W1 F1
  go_wp2_with fail
  refine (BC.out _ W2.out).mono ?_
  rintro e w3 ⟨rfl, hf, hw⟩
  have W3 := Lib.hid hw
  have F3 := Lib.hid (F2.out.trans hf)
  clear hf hw BC W2 F2
  obtain ⟨qa, qu, qv, ma, mu, mv, q⟩ := W3.out
  have QX := Lib.hid q
  obtain ⟨c0, c1, c2, -⟩ := q.k.all
  have SZ2 := Lib.hid q.siz
  clear q
  go_wp2_with fail
  refine (CO.out qa ma _ SZ2.out QX.out.fA).mono ?_
  rintro e w4 ⟨g, rfl, hg, hi, hb⟩
  have W4 := Lib.hid (W3.out.step hb)
  have F4 := Lib.hid (F3.out.trans (FrS.of_below hb))
  have IG := Lib.hid hi
  have GP : g ≠ px := by have := W3.out.lt; omega
  clear hb hi hg CO W3 F3 QX c0 c1 c2
  go_wp2_with fail
  refine (DR.out g _ W4.out IG.out GP).mono ?_
  rintro e w5 ⟨rfl, hf, hw⟩
  have F5 := Lib.hid (F4.out.trans hf)
  have HW := Lib.hid hw
  obtain ⟨ok, hok⟩ : ∃ ok, ok3 s3 = ok := ⟨_, rfl⟩
  rw [hok] at RB DC HW ⊢
  clear hf hw DR W4 F4 IG GP hok
  cases ok with
  | false =>
    have V := Lib.hid (RB.out SZ2.out (by trivial))
    go_wp2_with fail
    go_ret
    exact ⟨by rw [V.out]; rfl, F5.out, fun h => by rw [V.out] at h; cases h⟩
  | true =>
    have W5 := Lib.hid (HW.out (by trivial))
    obtain ⟨qa, qu, qv, ma, mu, mv, q⟩ := W5.out
    obtain ⟨c0, c1, c2, -⟩ := q.k.all
    obtain ⟨g, o, rfl⟩ := HA.out qa _ q.siz q.fA.rdS
    have GP := q.fA.blk_ne (q.fA.ne9 q.k)
    have QX := Lib.hid q
    have RR := Lib.hid (RDR.out g o _ q.siz q.fA.rdS)
    clear q HW HA RDR
    go_wp2_with fail
    refine (RI.out g o ma _ QX.out.fA).mono ?_
    rintro e w6 ⟨m', rfl, hb⟩
    have W6 := Lib.hid (W5.out.step hb)
    have F6 := Lib.hid (F5.out.trans (FrS.of_below hb))
    have R6 := Lib.hid (RR.out.below hb)
    clear hb RI W5 F5 QX c0 c1 c2 RR
    go_wp2_with fail
    refine (DC.out g _ m' _ SZ2.out (by trivial) W6.out R6.out GP).mono ?_
    rintro e w7 ⟨rfl, hf, hw⟩
    have F7 := Lib.hid (F6.out.trans hf)
    have HW := Lib.hid hw
    clear hf hw DC W6 F6 R6 GP
    go_wp2_with fail
    go_ret
    exact ⟨rfl, F7.out, HW.out⟩
end Go.Proofs.Ytpelnfenfeoeeaa
end

section
/-
  Chapter 13, in the program: is a number a multiple; the first row with a cell that the pivot does not divide.
-/
namespace Go.Proofs.Ytpelnfenfeoeeaa
set_option maxRecDepth 100000
open Go.RowKit
theorem iMult (n d : Int) (w : World) (hn : NumP n) (hd : NumP d) : Calls Try.prog 65 #[.int .i64 n, .int .i64 d] w (Gives (.bool (decide (d ∣ n))) w) := by
  obtain ⟨n1, n2⟩ := hn
  obtain ⟨d1, d2⟩ := hd
  by_cases hd0 : d = 0
  · have e1 : (d == 0) = true := by simp [hd0]
    by_cases hn0 : n = 0
    · have V : Hid (decide (d ∣ n) = true) := decide_eq_true (by rw [hn0]; exact Int.dvd_zero d)
      have e2 : (n == 0) = true := by simp [hn0]
      rw [V.out]
      clear hd0 hn0
      go_enter Try.func65, Try.ntmps65
      go_wp2_with fail
      go_ret
      exact ⟨rfl, Below.refl _ _⟩
    · have V : Hid (decide (d ∣ n) = false) := decide_eq_false (by rw [hd0, Int.zero_dvd]; exact hn0)
      have e2 : (n == 0) = false := by simpa using hn0
      rw [V.out]
      clear hd0 hn0
      go_enter Try.func65, Try.ntmps65
      go_wp2_with fail
      go_ret
      exact ⟨rfl, Below.refl _ _⟩
  · have e1 : (d == 0) = false := by simpa using hd0
    have t1 := tmod_small n d hd0
    obtain ⟨tm, htm⟩ : ∃ tm, n.tmod d = tm := ⟨_, rfl⟩
    have TD : Hid (tm = 0 ↔ d ∣ n) := by refine Lib.hid ?_; rw [← htm, ← Int.dvd_iff_tmod_eq_zero]
    rw [htm] at t1
    have vm : IntKind.i64.wrap (n.tmod d) = tm := by rw [htm]; exact IntWalk.i64_in _ (by omega)
    by_cases h0 : tm = 0
    · have V : Hid (decide (d ∣ n) = true) := decide_eq_true (TD.out.1 h0)
      have e2 : (tm == 0) = true := by simp [h0]
      rw [V.out]
      clear hd0 h0
      go_enter Try.func65, Try.ntmps65
      go_wp2_with fail
      go_ret
      exact ⟨rfl, Below.refl _ _⟩
    · have V : Hid (decide (d ∣ n) = false) := decide_eq_false (fun h => h0 (TD.out.2 h))
      have e2 : (tm == 0) = false := by simpa using h0
      rw [V.out]
      clear hd0 h0
      go_enter Try.func65, Try.ntmps65
      go_wp2_with fail
      go_ret
      exact ⟨rfl, Below.refl _ _⟩
theorem one0F {W w' : World} {b : Nat} {p : Value} (h : W.cell? ⟨b, 0, none⟩ = some p) (hb : Below W.heap.size W w') : w'.cell? ⟨b, 0, none⟩ = some p := (hb.cell (World.block_lt_of_cell? W _ h)).trans h
theorem iUnd (x p : Int) (b : Nat) (w : World) (hb : w.cell? ⟨b, 0, none⟩ = some (.int .i64 p)) (hx : NumP x) (hp : NumP p) :
    Calls Try.prog 154 #[.int .i64 x, .pointer (some ⟨b, 0, none⟩)] w (Gives (.bool (!decide (p ∣ x))) w) := by
  have IM := Lib.hid (fun w' => iMult x p w' hx hp)
  generalize decide (p ∣ x) = d at IM ⊢
  go_enter Try.func154, Try.ntmps154
  go_wp2_with fail
  refine (IM.out _).mono ?_
  rintro e w1 ⟨rfl, hb1⟩
  go_wp2_with fail
  go_ret
  exact ⟨rfl, hb1⟩
set_option maxHeartbeats 1000000 in
theorem iIdxU (p : Int) (b m L : Nat) (q : Option Addr) (v : Nat → Int) (w : World) (h : Rd w q (rwL L v)) (hb : w.cell? ⟨b, 0, none⟩ = some (.int .i64 p)) (hp : NumP p) (hv : ∀ k, k < L → NumP (v k)) (hl : L ≤ 16777216) :
    Calls Try.prog 121 #[.slice q L m, .func (.func 154) #[] #[.pointer (some ⟨b, 0, none⟩)]] w fun e w' => ((∃ k : Nat, e = .returned (.int .i64 k) ∧ k < L ∧ ¬ p ∣ v k) ∨ (e = .returned (.int .i64 (-1)) ∧ ∀ k, k < L → p ∣ v k)) ∧ Below w.heap.size w w' := by
  have H := Lib.hid h
  have HV := Lib.hid hv
  have HB := Lib.hid hb
  clear h hv hb
  go_enter Try.func121, Try.ntmps121
  go_wp2_with fail
  go_loopw [5, 8] (fun _ v8 wr => ∃ k : Nat, v8 = .int .i64 k ∧ k ≤ L ∧ (∀ i, i < k → p ∣ v i) ∧ Below w.heap.size w wr) (fun _ v8 _ => L - (intOf v8).toNat)
  case atStart => exact ⟨0, rfl, by omega, fun i hi => by omega, Below.refl _ _⟩
  case round =>
    obtain ⟨k, rfl, hk, hi, hB⟩ := hrel
    have HI := Lib.hid hi
    have B := Lib.hid hB
    clear hi hB
    by_cases hlt : k < L
    · obtain ⟨g, o, rfl, hc⟩ := H.out.below B.out k (by rw [rwL_length]; exact hlt)
      rw [rwL_at hlt] at hc
      have hx := HV.out k hlt
      have hcall := iUnd (v k) p b wr (one0F HB.out B.out) hx hp
      obtain ⟨d, hd⟩ : ∃ d, decide (p ∣ v k) = d := ⟨_, rfl⟩
      rw [hd] at hcall
      have D := Lib.hid hd
      obtain ⟨x, hxx⟩ : ∃ x, v k = x := ⟨_, rfl⟩
      rw [hxx] at hc hcall
      have k0 : (k : Int) < (L : Int) := by omega
      clear hd hx hxx
      go_wp2_with fail
      refine hcall.mono ?_
      rintro e w' ⟨rfl, hb1⟩
      have B1 := Lib.hid (B.out.trans (hb1.mono B.out.size))
      clear hb1 hcall
      cases d with
      | false =>
        go_wp2_with fail
        go_ret
        exact ⟨.inl ⟨k, rfl, hlt, of_decide_eq_false D.out⟩, B1.out⟩
      | true =>
        go_wp2_with fail
        go_roundw
        case rel => exact ⟨k + 1, by go_num, by omega, fun i hi2 => by
          rcases Nat.lt_or_ge i k with h3 | h3
          · exact HI.out i h3
          · obtain rfl : i = k := by omega
            exact of_decide_eq_true D.out, B1.out⟩
        case measure => simp [intOf]; omega
    · obtain rfl : L = k := by omega
      go_wp2_with fail
      go_ret
      exact ⟨.inr ⟨rfl, HI.out⟩, B.out⟩
theorem iContU (p : Int) (b m L : Nat) (q : Option Addr) (v : Nat → Int) (w : World) (h : Rd w q (rwL L v)) (hb : w.cell? ⟨b, 0, none⟩ = some (.int .i64 p)) (hp : NumP p) (hv : ∀ k, k < L → NumP (v k)) (hl : L ≤ 16777216) :
    Calls Try.prog 153 #[.slice q L m, .func (.func 154) #[] #[.pointer (some ⟨b, 0, none⟩)]] w fun e w' => ((e = .returned (.bool true) ∧ ∃ k, k < L ∧ ¬ p ∣ v k) ∨ (e = .returned (.bool false) ∧ ∀ k, k < L → p ∣ v k)) ∧ Below w.heap.size w w' := by
  have hi := Lib.hid (iIdxU p b m L q v w h hb hp hv hl)
  clear h hb hv
  go_enter Try.func153, Try.ntmps153
  go_wp2_with fail
  refine hi.out.mono ?_
  rintro e w' ⟨⟨k, rfl, h1, h2⟩ | ⟨rfl, h1⟩, hb⟩
  · have H1 := Lib.hid h1
    have H2 := Lib.hid h2
    have HB := Lib.hid hb
    clear h1 h2 hb hi
    go_wp2_with fail
    go_ret
    exact ⟨.inl ⟨rfl, k, H1.out, H2.out⟩, HB.out⟩
  · have H1 := Lib.hid h1
    have HB := Lib.hid hb
    clear h1 hb hi
    go_wp2_with fail
    go_ret
    exact ⟨.inr ⟨rfl, H1.out⟩, HB.out⟩
def UdRes (R C t : Nat) (p : Int) (xs : List Int) (w : World) (e : Ending) (w' : World) : Prop :=
  ((∃ k : Nat, e = .returned (.int .i64 k) ∧ t < k ∧ k < R ∧ (∃ j, j < C ∧ ¬ p ∣ mxC C xs k j) ∧ ∀ i, t < i → i < k → ∀ j, j < C → p ∣ mxC C xs i j) ∨ (e = .returned (.int .i64 (-1)) ∧ ∀ i, t < i → i < R → ∀ j, j < C → p ∣ mxC C xs i j)) ∧ Below w.heap.size w w'
set_option maxHeartbeats 2000000 in
theorem iUndiv (R C : Nat) (a : Option Addr) (n m t : Nat) (xs : List Int) (p : Int) (w : World) (h : Rd w a xs) (hA : CelA a n m) (hx : xs.length = n) (hn : n = R * C) (hR : R ≤ 24) (hC : C ≤ 24) (htR : t < R) (htC : t < C) (ho : nums xs = true) (hp : mxC C xs t t = p) :
    Calls Try.prog 119 #[.agg #[.int .i64 R, .int .i64 C, .slice a n m], .int .i64 t] w (UdRes R C t p xs w) := by
  have hle : R * C ≤ 24 * 24 := Nat.mul_le_mul hR hC
  have K0 : Hid (Blk3 (w.alloc (.cells #[.int .i64 R, .int .i64 C, .slice a n m] 26)) w.heap.size 26 (.int .i64 R) (.int .i64 C) (.slice a n m)) := Blk3.at_ _ _ _ _ rfl
  have B0 : Hid (Below w.heap.size w (w.alloc (.cells #[.int .i64 R, .int .i64 C, .slice a n m] 26))) := (Below.refl _ _).alloc (Nat.le_refl _) _
  have RW : Hid (∀ i w', i < R → Calls Try.prog 83 #[.agg #[.int .i64 R, .int .i64 C, .slice a n m], .int .i64 i] w' (RowAt a (i * C) C w')) := fun i w' hi => iRowIn R C i (i * C) n m a w' hA.spot rfl (by rw [hn, ← Nat.succ_mul]; exact Nat.mul_le_mul_right _ hi) hA.le hA.nil (by omega) (by omega)
  have RD : Hid (∀ i w' q', i < R → Below w.heap.size w w' → (∀ g o : Nat, a = some ⟨g, o, none⟩ → 0 < C → q' = some ⟨g, o + i * C, none⟩) → Rd w' q' (rwL C (mxC C xs i))) := fun i w' q' hi hb hq => (h.below hb).row (by rw [hx, hn]) hi hq
  have NU : Hid (∀ i j, NumP (mxC C xs i j)) := fun i j => nums_def ho _
  have CN : Hid (∀ (b m' L : Nat) (q : Option Addr) (v : Nat → Int) w', Rd w' q (rwL L v) → w'.cell? ⟨b, 0, none⟩ = some (.int .i64 p) → (∀ k, k < L → NumP (v k)) → L ≤ 16777216 → Calls Try.prog 153 #[.slice q L m', .func (.func 154) #[] #[.pointer (some ⟨b, 0, none⟩)]] w' fun e w2 => ((e = .returned (.bool true) ∧ ∃ k, k < L ∧ ¬ p ∣ v k) ∨ (e = .returned (.bool false) ∧ ∀ k, k < L → p ∣ v k)) ∧ Below w'.heap.size w' w2) := fun b m' L q v w' q1 q2 q3 q4 => iContU p b m' L q v w' q1 q2 (by rw [← hp]; exact nums_def ho _) q3 q4
  have HP := Lib.hid hp
  clear h hA hx hn ho hp hle
  go_enter Try.func119, Try.ntmps119
  go_upto_region 1 with fail
  have S0 : Hid ((w.alloc (.cells #[.int .i64 R, .int .i64 C, .slice a n m] 26)).heap.size = w.heap.size + 1) := by show _ = _; simp
  generalize w.alloc (.cells #[.int .i64 R, .int .i64 C, .slice a n m] 26) = W0 at K0 B0 S0 ⊢
  obtain ⟨p0, p1, p2, -, -, -⟩ := K0.out.all
  go_wp2_with fail
  refine (RW.out t _ htR).mono ?_
  rintro e w3 ⟨q', m', rfl, -, hq', -, hb3⟩
  have K3 := Lib.hid (K0.out.step hb3)
  have B3 := Lib.hid (B0.out.trans (hb3.mono B0.out.size))
  have SB := hb3.size
  have RT := RD.out t w3 q' htR B3.out hq'
  obtain ⟨g9, o9, rfl, hcell⟩ := RT t (by rw [rwL_length]; exact htC)
  rw [rwL_at htC, HP.out] at hcell
  have u0 : (t : Int) < (C : Int) := by omega
  have Pb : Hid ((w3.alloc (.cells #[.int .i64 p] 3)).cell? ⟨w3.heap.size, 0, none⟩ = some (.int .i64 p)) := by
    show _ = _
    have := cell_one_new w3 (.int .i64 p) 3 0 _ rfl
    exact this
  have K4 := Lib.hid (K3.out.old (.cells #[.int .i64 p] 3))
  have B4 := Lib.hid (B3.out.alloc (by have := S0.out; omega) (.cells #[.int .i64 p] 3))
  clear hb3 hq' p0 p1 p2 K0 B0 K3 B3 RT
  go_upto_region 2 with fail
  clear hcell u0
  obtain ⟨b5, hb5⟩ : ∃ b, w3.heap.size = b := ⟨_, rfl⟩
  rw [hb5] at Pb ⊢
  generalize w3.alloc (.cells #[.int .i64 p] 3) = W4 at Pb K4 B4 ⊢
  clear hb5 SB S0
  go_wp2_with fail
  go_loopw [6] (fun v6 wr => ∃ i : Nat, v6 = .int .i64 i ∧ t + 1 ≤ i ∧ i ≤ R ∧ (∀ k, t < k → k < i → ∀ j, j < C → p ∣ mxC C xs k j) ∧ Blk3 wr w.heap.size 26 (.int .i64 R) (.int .i64 C) (.slice a n m) ∧ wr.cell? ⟨b5, 0, none⟩ = some (.int .i64 p) ∧ Below w.heap.size w wr) (fun v6 _ => R - (intOf v6).toNat)
  case atStart => exact ⟨t + 1, by go_num, Nat.le_refl _, htR, fun k h1 h2 => by omega, K4.out, Pb.out, B4.out⟩
  case round =>
    clear K4 Pb B4
    obtain ⟨i, rfl, hi1, hi2, hd, hK, hP, hB⟩ := hrel
    have D := Lib.hid hd
    have K := Lib.hid hK
    have PB := Lib.hid hP
    have B := Lib.hid hB
    clear hd hK hP hB
    obtain ⟨p0, p1, p2, -, -, -⟩ := K.out.all
    by_cases hlt : i < R
    · go_wp2_with fail
      refine (RW.out i _ hlt).mono ?_
      rintro e w5 ⟨q', m', rfl, -, hq', -, hb3⟩
      have K5 := Lib.hid (K.out.step hb3)
      have B5 := Lib.hid (B.out.trans (hb3.mono B.out.size))
      have P5 := Lib.hid (one0F PB.out hb3)
      have RT := Lib.hid (RD.out i w5 q' hlt B5.out hq')
      clear hb3 hq' p0 p1 p2 K PB B
      go_wp2_with fail
      refine (CN.out b5 m' C q' _ _ RT.out P5.out (fun k _ => NU.out i k) (by omega)).mono ?_
      rintro e w6 ⟨⟨rfl, hx⟩ | ⟨rfl, hx⟩, hb6⟩
      · have HX := Lib.hid hx
        have B6 := Lib.hid (B5.out.trans (hb6.mono B5.out.size))
        clear hx hb6
        go_wp2_with fail
        go_ret
        exact ⟨.inl ⟨i, rfl, by omega, hlt, HX.out, D.out⟩, B6.out⟩
      · have HX := Lib.hid hx
        have B6 := Lib.hid (B5.out.trans (hb6.mono B5.out.size))
        have K6 := Lib.hid (K5.out.step hb6)
        have P6 := Lib.hid (one0F P5.out hb6)
        clear hx hb6 K5 B5 P5
        go_wp2_with fail
        go_roundw
        case rel => exact ⟨i + 1, by go_num, by omega, by omega, fun k h1 h2 => by
          rcases Nat.lt_or_ge k i with h3 | h3
          · exact D.out k h1 h3
          · obtain rfl : k = i := by omega
            exact HX.out, K6.out, P6.out, B6.out⟩
        case measure => simp [intOf]; omega
    · obtain rfl : R = i := by omega
      go_wp2_with fail
      go_ret
      exact ⟨.inr ⟨rfl, D.out⟩, B.out⟩
end Go.Proofs.Ytpelnfenfeoeeaa
end

section
/-
  Chapter 13, in the program: is the pivot alone in its row and its column.
-/
namespace Go.Proofs.Ytpelnfenfeoeeaa
set_option maxRecDepth 100000
open Go.RowKit
theorem al_col {R C t : Nat} {s : SSt} : clI t (fun i => cel3S C s i t) R ↔ ∀ k, t ≤ k → k < R → k ≠ t → mxC C s.1 k t = 0 :=
  ⟨fun h k h1 h2 h3 => h k (by omega) h2, fun h i h1 h2 => h i (by omega) h2 (by omega)⟩
theorem al_row {C t : Nat} {s : SSt} (ht : t < C) : clI t (fun j => cel3S C s t j) C ↔ ∀ j, j < C - (t + 1) → mxC C s.1 t (t + 1 + j) = 0 :=
  ⟨fun h j hj => h (t + 1 + j) (by omega) (by omega), fun h i h1 h2 => by
    have := h (i - (t + 1)) (by omega)
    rw [show t + 1 + (i - (t + 1)) = i by omega] at this
    exact this⟩
theorem lead_all {c : Nat} {v : Nat → Int} : leadC c v = c ↔ ∀ j, j < c → v j = 0 := by
  obtain ⟨h1, h2, h3⟩ := leadC_says c v
  constructor
  · intro h j hj
    exact h2 j (by omega)
  · intro h
    refine Classical.byContradiction fun hn => ?_
    exact h3 (by omega) (h _ (by omega))
set_option maxHeartbeats 2000000 in
theorem iAlone2 (R C px B t : Nat) (s : SSt) (w : World) (h : TsW R C px B s w) (hR : R ≤ 24) (hC : C ≤ 24) (htR : t < R) (htC : t < C) :
    Calls Try.prog 118 #[.pointer (some ⟨px, 0, none⟩), .int .i64 t] w (Gives (.bool (clB R C t s)) w) := by
  have hS := h.siz
  obtain ⟨qa, qu, qv, ma, mu, mv, q⟩ := h
  obtain ⟨g, o, hqa, -⟩ := q.fA.rdS (t * C + t) (by rw [hS.l1]; exact idx_lt htR htC)
  subst hqa
  have hle : R * C ≤ 600 := Nat.le_trans (Nat.mul_le_mul hR hC) (by decide)
  have RW : Hid (∀ w', Calls Try.prog 83 #[.agg #[.int .i64 R, .int .i64 C, .slice (some ⟨g, o, none⟩) (R * C) ma], .int .i64 t] w' (fun e w2 => ∃ m', e = .returned (.slice (some ⟨g, o + t * C, none⟩) C m') ∧ C ≤ m' ∧ Below w'.heap.size w' w2)) := fun w' => (iRowIn R C t (t * C) (R * C) ma _ w' q.fA.celA.spot rfl (by rw [← Nat.succ_mul]; exact Nat.mul_le_mul_right _ htR) q.fA.celA.le q.fA.celA.nil (by omega) (by omega)).mono fun e w2 ⟨q', m', h1, h0, h2, _, h3⟩ => ⟨m', by rw [h1, h2 g o rfl (by omega)], h0, h3⟩
  have AL : Hid (∀ (b : Bool) w', Below w.heap.size w w' → (b = true ↔ clI t (fun i => cel3S C s i t) R) → Calls Try.prog 152 #[.agg #[.int .i64 R, .int .i64 C, .slice (some ⟨g, o, none⟩) (R * C) ma], .int .i64 t, .int .i64 t, .int .i64 t] w' (Gives (.bool b) w')) := fun b w' hb h9 => iAloneF R C (R * C) t t t _ ma s.1 w' (q.fA.rdS.below hb) hS.l1 rfl hR hC htC (by omega) b (h9.trans al_col)
  have LD : Hid (∀ (D L : Nat) (q' : Option Addr) (m' : Nat) w', D = t + 1 → L = C - D → Below w.heap.size w w' → (q' = some ⟨g, o + t * C + D, none⟩ ∨ C = D) → Calls Try.prog 82 #[.slice q' L m'] w' (fun e w2 => e = .returned (.int .i64 (leadC (C - (t + 1)) (fun j => mxC C s.1 t (t + 1 + j)) : Int)) ∧ w2 = w')) := fun D L q' m' w' hD hL hb hq => by
    subst hD hL
    refine iLead (C - (t + 1)) m' _ _ w' (fun j hj => ?_) (by omega)
    rw [rwL_length] at hj
    rcases hq with rfl | hq
    · obtain ⟨g2, o2, e, hc⟩ := q.fA.rdS.below hb (t * C + (t + 1 + j)) (by rw [hS.l1]; exact idx_lt htR (by omega))
      injection e with e
      injection e with e1 e2
      subst e1 e2
      refine ⟨_, _, rfl, ?_⟩
      rw [rwL_at hj, show o + t * C + (t + 1) + j = o + (t * C + (t + 1 + j)) by omega]
      exact hc
    · omega
  have LE : Hid (leadC (C - (t + 1)) (fun j => mxC C s.1 t (t + 1 + j)) = C - (t + 1) ↔ clI t (fun j => cel3S C s t j) C) := by
    refine Lib.hid ?_
    rw [al_row htC]
    exact lead_all
  have CB : Hid (clB R C t s = true ↔ (clI t (fun i => cel3S C s i t) R ∧ clI t (fun j => cel3S C s t j) C)) := clB_iff
  obtain ⟨c0, c1, c2, -⟩ := q.k.all
  have K := Lib.hid q.k
  obtain ⟨ld, hld⟩ : ∃ ld, leadC (C - (t + 1)) (fun j => mxC C s.1 t (t + 1 + j)) = ld := ⟨_, rfl⟩
  rw [hld] at LD LE
  obtain ⟨cb, hcb⟩ : ∃ cb, clB R C t s = cb := ⟨_, rfl⟩
  rw [hcb] at CB ⊢
  obtain ⟨D, hD⟩ : ∃ D, t + 1 = D := ⟨_, rfl⟩
  have v0 : IntKind.i64.wrap ((t : Int) + 1) = (D : Int) := by rw [← hD]; exact IntWalk.i64_in _ (by omega)
  have DC : D ≤ C := by omega
  rw [hD] at LE
  have ED := Lib.hid hD.symm
  clear q hS hle hld hcb hD
  go_enter Try.func118, Try.ntmps118
  go_wp2_with fail
  refine (RW.out _).mono ?_
  rintro e w2 ⟨m', rfl, hm', hb⟩
  have B2 := Lib.hid hb
  obtain ⟨c0', c1', c2', -⟩ := (K.out.step hb).all
  clear hb c0 c1 c2
  have K2 := Lib.hid (K.out.step B2.out)
  obtain ⟨c0, c1, c2, -⟩ := K2.out.all
  clear c0' c1' c2'
  rcases Nat.lt_or_ge D m' with hlt | hge
  · go_upto_region 2 with fail
    by_cases hcl : clI t (fun i => cel3S C s i t) R
    · have A1 := Lib.hid (AL.out true w2 B2.out ⟨fun _ => hcl, fun _ => rfl⟩)
      have L1 := Lib.hid (fun m9 w' hb => LD.out D (C - D) (some ⟨g, o + t * C + D, none⟩) m9 w' ED.out rfl hb (.inl rfl))
      go_wp2_with fail
      refine A1.out.mono ?_
      rintro e w3 ⟨rfl, hb⟩
      have B3 := Lib.hid (B2.out.trans (hb.mono B2.out.size))
      clear hb A1 B2 K2 c0 c1 c2
      go_wp2_with fail
      refine (L1.out _ _ B3.out).mono ?_
      rintro e w4 ⟨rfl, hw4⟩
      rw [hw4]
      clear hw4 L1
      by_cases hl : ld = C - D
      · have V : Hid (cb = true) := CB.out.2 ⟨hcl, LE.out.1 hl⟩
        have n1 : ((ld : Int) == ((C - D : Nat) : Int)) = true := by simp; omega
        clear hl
        go_wp2_with fail
        go_ret
        exact ⟨by rw [V.out]; rfl, B3.out⟩
      · have V : Hid (cb = false) := by
          refine Lib.hid ?_
          cases hq : cb with
          | false => rfl
          | true => exact absurd (LE.out.2 (CB.out.1 hq).2) hl
        have n1 : ((ld : Int) == ((C - D : Nat) : Int)) = false := by simp; omega
        clear hl
        go_wp2_with fail
        go_ret
        exact ⟨by rw [V.out]; rfl, B3.out⟩
    · have A1 := Lib.hid (AL.out false w2 B2.out ⟨fun h => (by cases h), fun h => absurd h hcl⟩)
      have V : Hid (cb = false) := by
        refine Lib.hid ?_
        cases hq : cb with
        | false => rfl
        | true => exact absurd (CB.out.1 hq).1 hcl
      go_wp2_with fail
      refine A1.out.mono ?_
      rintro e w3 ⟨rfl, hb⟩
      have B3 := Lib.hid (B2.out.trans (hb.mono B2.out.size))
      clear hb A1 B2 c0 c1 c2
      go_wp2_with fail
      go_ret
      exact ⟨by rw [V.out]; rfl, B3.out⟩
  · obtain rfl : m' = C := by omega
    have hCD : m' = D := by omega
    subst hCD
    go_upto_region 2 with fail
    by_cases hcl : clI t (fun i => cel3S m' s i t) R
    · have A1 := Lib.hid (AL.out true w2 B2.out ⟨fun _ => hcl, fun _ => rfl⟩)
      have L1 := Lib.hid (fun m9 w' hb => LD.out m' 0 (some ⟨g, o + t * m', none⟩) m9 w' ED.out (by omega) hb (.inr rfl))
      go_wp2_with fail
      refine A1.out.mono ?_
      rintro e w3 ⟨rfl, hb⟩
      have B3 := Lib.hid (B2.out.trans (hb.mono B2.out.size))
      clear hb A1 B2 K2 c0 c1 c2
      go_wp2_with fail
      refine (L1.out _ _ B3.out).mono ?_
      rintro e w4 ⟨rfl, hw4⟩
      rw [hw4]
      clear hw4 L1
      by_cases hl : ld = m' - m'
      · have V : Hid (cb = true) := CB.out.2 ⟨hcl, LE.out.1 hl⟩
        have n1 : ((ld : Int) == (0 : Int)) = true := by simp; omega
        clear hl
        go_wp2_with fail
        go_ret
        exact ⟨by rw [V.out]; rfl, B3.out⟩
      · have V : Hid (cb = false) := by
          refine Lib.hid ?_
          cases hq : cb with
          | false => rfl
          | true => exact absurd (LE.out.2 (CB.out.1 hq).2) hl
        have n1 : ((ld : Int) == (0 : Int)) = false := by simp; omega
        clear hl
        go_wp2_with fail
        go_ret
        exact ⟨by rw [V.out]; rfl, B3.out⟩
    · have A1 := Lib.hid (AL.out false w2 B2.out ⟨fun h => (by cases h), fun h => absurd h hcl⟩)
      have V : Hid (cb = false) := by
        refine Lib.hid ?_
        cases hq : cb with
        | false => rfl
        | true => exact absurd (CB.out.1 hq).1 hcl
      go_wp2_with fail
      refine A1.out.mono ?_
      rintro e w3 ⟨rfl, hb⟩
      have B3 := Lib.hid (B2.out.trans (hb.mono B2.out.size))
      clear hb A1 B2 c0 c1 c2
      go_wp2_with fail
      go_ret
      exact ⟨by rw [V.out]; rfl, B3.out⟩
end Go.Proofs.Ytpelnfenfeoeeaa
end
