/-
  Proved: for every code, the law FnRowOps returns true: operations on rows are undone one by one from the last to the first, and are what a product with a unimodular matrix does.
  Conditions: none beyond the row's own (the argument reads as data).
-/
import Derived.Test.YtdnajkoeojlnbaaRows
import Derived.ChangeOld
import Derived.Below
import Derived.Deep.RegionHeld3
import Derived.Deep.DeepCutAuto
import Derived.WalkKit
import Derived.ProofKit
import Derived.OpenShut
import Derived.ShutString
import Derived.Carry
import Derived.Lib.SmallJoins
import Derived.Test.YtdnajkoeojlnbaaPk6
import Derived.Test.YtdnajkoeojlnbaaPk7
import Derived.Test.YtdnajkoeojlnbaaPk8
import Derived.Test.YtdnajkoeojlnbaaPk9
import Derived.Test.YtdnajkoeojlnbaaPk13
import Derived.Test.YtdnajkoeojlnbaaPk15
import Derived.Test.YtdnajkoeojlnbaaPk17

namespace Go.Proofs.Ytdnajkoeojlnbaa.fnRowOps
open Go.ChangeShapes Go.WideShapes Go.ChangeAt Go.RowKit
open Go.ChangeMaps (open_string shut_string)
set_option linter.unusedVariables false

theorem own : ownKnob Try.prog.godebug = none := by kernel_rfl
theorem laidOut : laidOutB Try.prog = true := by kernel_rfl

/-- What the walk is told of a slice of integers that came in: it is nil; or it leads to a row of 'cap' cells, the numbers 'zs' (the first 'len' are its elements), each fitting its kind. -/
def IsRow (k : IntKind) (w : World) (a : Option Addr) (len cap : Nat) (zs : List Int) : Prop :=
  (a = none ∧ len = 0 ∧ cap = 0 ∧ zs = []) ∨
  ∃ x, a = some x ∧ len ≤ cap ∧ cap ≤ maxLen ∧ zs.length = cap ∧ (∀ i, i < zs.length → w.cell? (x.add i) = some (.int k (zs.getD i 0))) ∧ ∀ n ∈ zs, (Lit.int k n).wf = true
theorem isRow_of {H : Type} {enc : TypeId × Value → H} {P : Program} {W : World} {base : Nat} {held : Bool} {t e : TypeId} {k : IntKind} {a : Option Addr} {len cap fuel : Nat} {x : DataW H × List MemPlace}
    (ht : P.underlying t = some (.slice e)) (he : P.underlying e = some (.int k)) (hc : P.cellsOf e = 1) (hf : DataW.trod enc P W base (fun _ => true) held fuel t [.slice a len cap] = some x) : ∃ zs, IsRow k W a len cap zs := by
  rcases open_ints ht he hc hf with ⟨hcs, _⟩ | ⟨x, l, c, zs, hcs, _, hl, hm, hz, _, hcell, hwz⟩
  · simp at hcs
    obtain ⟨rfl, rfl, rfl⟩ := hcs
    exact ⟨[], .inl ⟨rfl, rfl, rfl, rfl⟩⟩
  · simp at hcs
    obtain ⟨rfl, rfl, rfl⟩ := hcs
    exact ⟨zs, .inr ⟨_, rfl, hl, hm, by simpa using hz, hcell, hwz⟩⟩
theorem _root_.Go.Proofs.Ytdnajkoeojlnbaa.Own.rd {B : Nat} {w : World} {a : Option Addr} {n cap : Nat} {zs : List Int} (h : Own B w (.slice a n cap) zs) : Rd w a zs := by
  obtain ⟨a', c', e, hr, -⟩ := h.form
  injection e with e1 e2 e3
  rw [e1]; exact hr
theorem sSameE (x y : MR) (a b : Option Addr) (m n : Nat) (w : World) (e : x = y) (h : Rd w a x.zs) (h' : Rd w b y.zs) (hn : x.zs.length ≤ 16777216) :
    Calls Try.prog 43 #[.agg #[.int .i64 x.r, .int .i64 x.c, .slice a x.zs.length m], .agg #[.int .i64 y.r, .int .i64 y.c, .slice b y.zs.length n]] w (Gives (.bool true) w) := by
  subst e
  have := sSame x.r x.c x.r x.c a b m n x.zs x.zs w h h' hn
  rw [sameM_self] at this
  exact this
theorem iSameE (x y : MR) (a b : Option Addr) (m n : Nat) (w : World) (e : x = y) (h : Rd w a x.zs) (h' : Rd w b y.zs) (hn : x.zs.length ≤ 16777216) (hn' : y.zs.length ≤ 16777216) :
    Calls Try.prog 37 #[.agg #[.int .i64 x.r, .int .i64 x.c, .slice a x.zs.length m], .agg #[.int .i64 y.r, .int .i64 y.c, .slice b y.zs.length n]] w (Gives (.bool true) w) := by
  subst e
  have := iSame x.r x.c x.r x.c a b m n x.zs x.zs w h h' hn hn'
  rw [sameM_self] at this
  exact this
theorem sixF {W w' : World} {a b : Nat} {t t2 : TypeId} {p q r p2 q2 r2 : Value} (h0 : Blk3 W a t p q r) (h1 : Blk3 W b t2 p2 q2 r2) (hb : Below W.heap.size W w') :
    w'.cell? ⟨a, 0, none⟩ = some p ∧ w'.cell? ⟨a, 1, none⟩ = some q ∧ w'.cell? ⟨a, 2, none⟩ = some r ∧ w'.cell? ⟨b, 0, none⟩ = some p2 ∧ w'.cell? ⟨b, 1, none⟩ = some q2 ∧ w'.cell? ⟨b, 2, none⟩ = some r2 := by
  obtain ⟨a1, a2, a3, -, -, -⟩ := (h0.step hb).all
  obtain ⟨b1, b2, b3, -, -, -⟩ := (h1.step hb).all
  exact ⟨a1, a2, a3, b1, b2, b3⟩
theorem iOpsN (r c : Int) (a al : Option Addr) (m ml n : Nat) (xs : List Int) (l : List Ro) (w : World) (h : Rd w a xs) (hs : Spot a) (hl : RdO w al l) (hn : xs.length ≤ 16777216) (hL : n ≤ 16777216) (e : l.length = n) :
    Calls Try.prog 36 #[.agg #[.int .i64 r, .int .i64 c, .slice a xs.length m], .slice al n ml] w (MatRes (opsR r c xs l) w) := by subst e; exact iOps r c a al m ml xs l w h hs hl hn hL
theorem rows_len {w : World} {B n : Nat} {e : TypeId} {size : Nat} {v : Value} {xs : List Value} {m : Nat} (h : m = n) (o : w.ownsRow B e size v n xs) : w.ownsRow B e size v m xs := by subst h; exact o
theorem lUnitN (R : Nat) (w : World) (hR : R ≤ 24) : Calls Try.prog 39 #[.int .i64 R] w (fun e w' => ∃ (q : Option Addr) (qc : Nat), e = .returned (.agg #[.int .i64 R, .int .i64 R, .slice q (idL R R).length qc]) ∧ Own w.heap.size w' (.slice q (idL R R).length qc) (idL R R) ∧ Below w.heap.size w w') := by
  have := lUnitX R w
  rw [idM_nat hR] at this
  exact this
theorem codeIn_of_row {w : World} {a : Option Addr} {len cap : Nat} {zs : List Int} (h : IsRow .u8 w a len cap zs) : CodeIn w a len := by
  rcases h with ⟨rfl, rfl, rfl, rfl⟩ | ⟨x, rfl, hl, hm, hz, hcell, hwf⟩
  · exact codeIn_none w
  · exact codeIn_some hl hm hz hcell hwf
set_option maxRecDepth 100000 in
set_option maxHeartbeats 1000000 in
theorem lUnim (r c : Int) (a : Option Addr) (m : Nat) (xs : List Int) (w : World) (h : Rd w a xs) (hn : xs.length ≤ 16777216) (hd : (detOf r c xs).2 = true → (detOf r c xs).1 = 1 ∨ (detOf r c xs).1 = -1) :
    Calls Try.prog 42 #[.agg #[.int .i64 r, .int .i64 c, .slice a xs.length m]] w (Gives (.bool true) w) := by
  have H := Lib.hid h
  have HN := Lib.hid hn
  have B0 : Hid (∀ o1, Below w.heap.size w (w.alloc o1)) := fun o1 => (Below.refl _ _).alloc (Nat.le_refl _) _
  have DT : Hid (∀ w', Below w.heap.size w w' → Calls Try.prog 24 #[.agg #[.int .i64 r, .int .i64 c, .slice a xs.length m]] w' (Gives (.tuple #[.int .i64 (detOf r c xs).1, .bool (detOf r c xs).2]) w')) := fun w' hb => sDetOf r c a m xs w' (H.out.below hb) HN.out
  have UN : Hid (∀ w', Below w.heap.size w w' → Calls Try.prog 31 #[.agg #[.int .i64 r, .int .i64 c, .slice a xs.length m]] w' (Gives (.bool (uniB r c xs)) w')) := fun w' hb => iUni r c a m xs w' (H.out.below hb) HN.out
  have UT : (detOf r c xs).2 = true → uniB r c xs = true := fun hk => by unfold uniB; rw [hk, decide_eq_true (hd hk)]; rfl
  obtain ⟨d, e1⟩ : ∃ d, (detOf r c xs).1 = d := ⟨_, rfl⟩
  obtain ⟨b, e2⟩ : ∃ b, (detOf r c xs).2 = b := ⟨_, rfl⟩
  rw [e1] at DT hd
  rw [e2] at DT hd UT
  clear e1 e2 h hn
  generalize xs.length = l at DT UN ⊢
  cases b with
  | false =>
    go_enter Try.func42, Try.ntmps42
    go_wp2_with (fail)
    refine (DT.out _ (B0.out _)).mono ?_
    rintro e w1 ⟨rfl, hb⟩
    have B : Hid (Below w.heap.size w w1) := (B0.out _).trans (hb.mono (by simp))
    clear hb
    go_wp2_with (fail)
    go_ret
    exact ⟨rfl, B.out⟩
  | true =>
    rw [UT rfl] at UN
    rcases hd rfl with rfl | rfl
    all_goals
      go_enter Try.func42, Try.ntmps42
      go_wp2_with (fail)
      refine (DT.out _ (B0.out _)).mono ?_
      rintro e w1 ⟨rfl, hb⟩
      have K0 : Hid (Blk3 w1 w.heap.size 27 (.int .i64 r) (.int .i64 c) (.slice a l m)) := (Blk3.at_ _ _ _ _ rfl).keep hb (by simp)
      have B : Hid (Below w.heap.size w w1) := (B0.out _).trans (hb.mono (by simp))
      clear hb
      obtain ⟨a0, a1, a2, -, -, -⟩ := K0.out.all
      go_wp2_with (fail)
      refine (UN.out _ B.out).mono ?_
      rintro e w2 ⟨rfl, hb⟩
      have B2 := Lib.hid (stepB B.out hb)
      clear hb
      go_wp2_with (fail)
      go_ret
      exact ⟨rfl, B2.out⟩
set_option maxRecDepth 100000 in
set_option maxHeartbeats 16000000 in

theorem walk (a0 : Option Addr) (len0 cap0 : Nat) (z0 : List Int) (w : World) (w0 : IsRow .u8 w a0 len0 cap0 z0) :
    Calls Try.prog 10 #[.slice a0 len0 cap0] w fun e w' => e = .returned (.bool true) ∧ Below w.heap.size w w' := by
  have hc : CodeIn w a0 len0 := codeIn_of_row w0
  have hl := hc.1
  have HC := Lib.hid hc
  clear w0 hc
  unfold maxLen at hl
  by_cases hbig : len0 ≤ 1048576
  · go_enter Try.func10, Try.ntmps10
    go_wp2_with (fail)
    refine (big_no w a0 len0 cap0 hbig).mono ?_
    rintro e w1 ⟨rfl, rfl⟩
    go_wp2_with (fail)
    refine (drawOps w a0 len0 cap0 HC.out).mono ?_
    rintro e w1 ⟨r, c, q1, qc1, xs, v1, l, rfl, o1, l1, rows1, l2, hb⟩
    have B := Lib.hid hb
    have SP := Lib.hid o1.spot2
    obtain ⟨al, ml, rfl, hro⟩ := rows_rdo rows1
    have HO := Lib.hid hro
    have ll : l.length ≤ 40 := by omega
    have lu : (undoL l l.length).length = l.length := undoL_length _ _ (Nat.le_refl _)
    clear rows1 hro
    have OA := Lib.hid (o1.le (Nat.zero_le _))
    have n1 : xs.length ≤ 16777216 := by omega
    clear hb o1
    go_wp2_with (fail)
    obtain ⟨mX, hmX⟩ : ∃ m, opsR r c xs l = m := ⟨_, rfl⟩
    have HmX := Lib.hid hmX
    clear hmX
    refine (iOps r c q1 al qc1 ml xs l _ (OA.out.old _).rd SP.out (HO.out.old _) n1 (by omega)).mono ?_
    rintro e w2 ⟨vX, rfl, own, hb⟩
    rw [HmX.out] at own ⊢
    obtain ⟨qX, qcX, rfl, -, -⟩ := own.form
    have nX := own.small
    have OA := Lib.hid ((OA.out.old _).keep hb)
    have HO := Lib.hid ((HO.out.old _).keep hb)
    have KA : Hid (Blk3 w2 w1.heap.size 27 (.int .i64 (r)) (.int .i64 (c)) (.slice q1 xs.length qc1)) := (Blk3.at_ _ _ _ _ rfl).step hb
    have B := Lib.hid (stepB (B.out.alloc B.out.size _) hb)
    clear hb
    have OX := Lib.hid (own.le (Nat.zero_le _))
    clear own
    obtain ⟨cc1_00, cc1_01, cc1_02, -, -, -⟩ := KA.out.all
    have ll1_0 := KA.out.lt
    have SX : Hid (Spot qX) := Lib.hid (Own.spot2 OX.out)
    rcases Bool.eq_false_or_eq_true mX.ok with hx | hx
    rotate_left
    · rw [hx]
      obtain ⟨cc2_00, cc2_01, cc2_02, -, -, -⟩ := KA.out.all
      have ll2_0 := KA.out.lt
      go_wp2_with (fail)
      refine (iSameE mX (⟨false, 0, 0, []⟩ : MR) qX none qcX 0 _ (opsR_no HmX.out hx) (OX.out.old _).rd (Rd.nil _ _) nX (by simp)).mono ?_
      rintro e w3 ⟨rfl, hb⟩
      have OA := Lib.hid ((OA.out.old _).keep hb)
      have HO := Lib.hid ((HO.out.old _).keep hb)
      have KA := Lib.hid ((KA.out.old _).step hb)
      have OX := Lib.hid ((OX.out.old _).keep hb)
      have KX : Hid (Blk3 w3 w2.heap.size 27 (.int .i64 (mX.r)) (.int .i64 (mX.c)) (.slice qX mX.zs.length qcX)) := (Blk3.at_ _ _ _ _ rfl).step hb
      have B := Lib.hid (stepB (B.out.alloc B.out.size _) hb)
      clear hb
      obtain ⟨cc3_00, cc3_01, cc3_02, -, -, -⟩ := KA.out.all
      have ll3_0 := KA.out.lt
      obtain ⟨cc3_10, cc3_11, cc3_12, -, -, -⟩ := KX.out.all
      have ll3_1 := KX.out.lt
      obtain ⟨cc4_00, cc4_01, cc4_02, -, -, -⟩ := KA.out.all
      have ll4_0 := KA.out.lt
      obtain ⟨cc4_10, cc4_11, cc4_12, -, -, -⟩ := KX.out.all
      have ll4_1 := KX.out.lt
      go_wp2_with (fail)
      go_ret
      exact ⟨rfl, B.out⟩
    rw [hx]
    obtain ⟨R, C, X, rfl, rfl, hR, hC, hm, hmX, eX, eO, eB⟩ := opsR_says HmX.out hx ll
    have EX := Lib.hid eX
    have EO := Lib.hid eO
    have MX := Lib.hid hmX
    have EB : Hid (opsR mX.r mX.c mX.zs (undoL l l.length) = ⟨true, R, C, xs⟩) := by show opsR mX.r mX.c mX.zs _ = _; rw [eX]; exact eB
    clear hm hmX eX eO eB
    obtain ⟨cc2_00, cc2_01, cc2_02, -, -, -⟩ := KA.out.all
    go_upto_region 7 with (fail)
    obtain ⟨wz2, hw⟩ : ∃ x, w2.alloc (.cells #[.int .i64 mX.r, .int .i64 mX.c, .slice qX mX.zs.length qcX] 27) = x := ⟨_, rfl⟩
    have OA := Lib.hid (OA.out.old (.cells #[.int .i64 mX.r, .int .i64 mX.c, .slice qX mX.zs.length qcX] 27))
    have HO := Lib.hid (HO.out.old (.cells #[.int .i64 mX.r, .int .i64 mX.c, .slice qX mX.zs.length qcX] 27))
    have KA := Lib.hid (KA.out.old (.cells #[.int .i64 mX.r, .int .i64 mX.c, .slice qX mX.zs.length qcX] 27))
    have OX := Lib.hid (OX.out.old (.cells #[.int .i64 mX.r, .int .i64 mX.c, .slice qX mX.zs.length qcX] 27))
    have KX : Hid (Blk3 (w2.alloc (.cells #[.int .i64 mX.r, .int .i64 mX.c, .slice qX mX.zs.length qcX] 27)) w2.heap.size 27 (.int .i64 mX.r) (.int .i64 mX.c) (.slice qX mX.zs.length qcX)) := Blk3.at_ _ _ _ _ rfl
    have B := Lib.hid (B.out.alloc B.out.size (.cells #[.int .i64 mX.r, .int .i64 mX.c, .slice qX mX.zs.length qcX] 27))
    rw [hw] at OA HO KA OX B KX ⊢
    clear hw
    go_cut [7, 8] (fun s7 s8 wx => ∃ (p7 : Nat) (v0 : Value), s7 = .pointer (some ⟨p7, 0, none⟩) ∧ s8 = .bool true ∧ Blk3 wx p7 27 (.int .i64 R) (.int .i64 C) v0 ∧ Own 0 wx v0 xs ∧ Below wz2.heap.size wz2 wx)
    case first =>
      refine wp_region_held_drew (S := fun w' => Below wz2.heap.size wz2 w') (by kernel_rfl) (Below.refl _ _).drew (fun hH => ?_)
      refine wpAnyH_take (i := 0) (v := ?_) (by simp only [List.getElem?_toArray, List.getElem?_cons_zero]; rfl) (by kernel_rfl) (by kernel_rfl) (by kernel_rfl) (by exact fun _ _ _ h => h) (Or.inl ⟨by rfl, ?_⟩) hH ?_
      rotate_left
      · (intro wS hS; (try dsimp only at hS); obtain ⟨k1, k2, k3, k4, k5, k6⟩ := sixF KA.out KX.out hS; go_simp; try rfl)
      try simp only [Act.put, List.setIfInBounds_toArray, List.set_cons_zero, List.set_cons_succ]
      refine wpAnyH_take (i := 1) (v := ?_) (by simp only [List.getElem?_toArray, List.getElem?_cons_succ, List.getElem?_cons_zero]; rfl) (by kernel_rfl) (by kernel_rfl) (by kernel_rfl) (by exact fun _ _ _ h => h) (Or.inl ⟨by rfl, ?_⟩) hH ?_
      rotate_left
      · (intro wS hS; (try dsimp only at hS); obtain ⟨k1, k2, k3, k4, k5, k6⟩ := sixF KA.out KX.out hS; go_simp; try rfl)
      try simp only [Act.put, List.setIfInBounds_toArray, List.set_cons_zero, List.set_cons_succ]
      refine wpAnyH_ready (rs := [2, 7]) (by kernel_rfl) (by simp) ?_
      refine AllReadyH.cons (by simp only [List.getElem?_toArray, List.getElem?_cons_succ, List.getElem?_cons_zero]; rfl) (fun K hK => ?_) (AllReadyH.cons (by simp only [List.getElem?_toArray, List.getElem?_cons_succ, List.getElem?_cons_zero]; rfl) (fun K hK => ?_) AllReadyH.nil)
      · go_simp
        have hs1 := hH.size
        (with_reducible refine (iUndoOps al ml l _ (HO.out.keep hH) (by omega)).mono ?_)
        rintro e v1 ⟨vu, rfl, own1, hb1⟩
        have own1 := rows_len lu own1
        obtain ⟨au, cu, rfl, ru⟩ := rows_rdo own1
        skip
        have RU := Lib.hid ru
        clear own1 ru
        try dsimp only
        refine hK.out _ _ ?_ (fun hH2 => ?_)
        · exact hH.trans (hb1.mono hH.size)
        clear hK K
        have hO := hH
        clear hH
        have hH := hH2
        clear hH2
        try simp only [Act.put, List.setIfInBounds_toArray, List.set_cons_zero, List.set_cons_succ]
        have z1 := hb1.size
        refine wpAnyH_ready (rs := [3, 7]) (by kernel_rfl) (by simp) ?_
        refine AllReadyH.cons (by simp only [List.getElem?_toArray, List.getElem?_cons_succ, List.getElem?_cons_zero]; rfl) (fun K hK => ?_) (AllReadyH.cons (by simp only [List.getElem?_toArray, List.getElem?_cons_succ, List.getElem?_cons_zero]; rfl) (fun K hK => ?_) AllReadyH.nil)
        · go_simp
          have hs2 := hH.size
          (with_reducible refine (iOpsN mX.r mX.c qX au qcX cu l.length mX.zs (undoL l l.length) _ (OX.out.keep hH).rd SX.out RU.out nX (by omega) lu).mono ?_)
          rintro e v2 ⟨vb, rfl, own2, hb2⟩
          rw [EB.out] at own2 ⊢
          dsimp only at own2 ⊢
          obtain ⟨qB, qcB, rfl, -, -⟩ := own2.form
          have OB := Lib.hid own2
          clear own2
          try dsimp only
          refine hK.out _ _ ?_ (fun hH2 => ?_)
          · exact hH.trans (hb2.mono hH.size)
          clear hK K
          have hO := hH
          clear hH
          have hH := hH2
          clear hH2
          try simp only [Act.put, List.setIfInBounds_toArray, List.set_cons_zero, List.set_cons_succ]
          have z2 := hb2.size
          refine wpAnyH_take (i := 4) (v := ?_) (by simp only [List.getElem?_toArray, List.getElem?_cons_succ, List.getElem?_cons_zero]; rfl) (by kernel_rfl) (by kernel_rfl) (by kernel_rfl) (by exact fun _ _ _ h => h) (Or.inl ⟨by rfl, ?_⟩) hH ?_
          rotate_left
          · (intro wS hS; clear hS; go_simp; try rfl)
          try simp only [Act.put, List.setIfInBounds_toArray, List.set_cons_zero, List.set_cons_succ]
          refine wpAnyH_take (i := 5) (v := ?_) (by simp only [List.getElem?_toArray, List.getElem?_cons_succ, List.getElem?_cons_zero]; rfl) (by kernel_rfl) (by kernel_rfl) (by kernel_rfl) (by exact fun _ _ _ h => h) (Or.inl ⟨by rfl, ?_⟩) hH ?_
          rotate_left
          · (intro wS hS; clear hS; go_simp; try rfl)
          try simp only [Act.put, List.setIfInBounds_toArray, List.set_cons_zero, List.set_cons_succ]
          refine wpAnyH_take (i := 6) (v := ?_) (by simp only [List.getElem?_toArray, List.getElem?_cons_succ, List.getElem?_cons_zero]; rfl) (by kernel_rfl) (by kernel_rfl) (by kernel_rfl) (by exact fun _ _ _ h => h) (Or.inl ⟨by rfl, ?_⟩) hH ?_
          rotate_left
          · (intro wS hS; clear hS; go_simp; try rfl)
          try simp only [Act.put, List.setIfInBounds_toArray, List.set_cons_zero, List.set_cons_succ]
          refine wpAnyH_ready (rs := [7]) (by kernel_rfl) (by simp) ?_
          refine AllReadyH.cons (by simp only [List.getElem?_toArray, List.getElem?_cons_succ, List.getElem?_cons_zero]; rfl) (fun K hK => ?_) AllReadyH.nil
          go_simp
          have VB : Hid (Blk3 (v2.alloc (.cells #[.int .i64 0, .int .i64 0, .slice none 0 0] 27)) v2.heap.size 27 (.int .i64 0) (.int .i64 0) (.slice none 0 0)) := Blk3.at_ _ _ _ _ rfl
          have PL : wz2.heap.size ≤ v2.heap.size := hH.size
          try dsimp only
          refine hK.out _ _ ?_ (fun hH2 => ?_)
          · exact hH.alloc hH.size _
          clear hK K
          have hO := hH
          clear hH
          have hH := hH2
          clear hH2
          try simp only [Act.put, List.setIfInBounds_toArray, List.set_cons_zero, List.set_cons_succ]
          refine wpAnyH_ready (rs := [8]) (by kernel_rfl) (by simp) ?_
          refine AllReadyH.cons (by simp only [List.getElem?_toArray, List.getElem?_cons_succ, List.getElem?_cons_zero]; rfl) (fun K hK => ?_) AllReadyH.nil
          go_simp
          have VB : Hid (Blk3 (v2.alloc (.cells #[.int .i64 R, .int .i64 C, .slice qB xs.length qcB] 27)) v2.heap.size 27 (.int .i64 R) (.int .i64 C) (.slice qB xs.length qcB)) := Blk3.at_ _ _ _ _ rfl
          try dsimp only
          refine hK.out _ _ ?_ (fun hH2 => ?_)
          · exact hO.alloc hO.size _
          clear hK K
          have hO := hH
          clear hH
          have hH := hH2
          clear hH2
          try simp only [Act.put, List.setIfInBounds_toArray, List.set_cons_zero, List.set_cons_succ]
          refine wpAnyH_take (i := 9) (v := ?_) (by simp only [List.getElem?_toArray, List.getElem?_cons_succ, List.getElem?_cons_zero]; rfl) (by kernel_rfl) (by kernel_rfl) (by kernel_rfl) (by exact fun _ _ _ h => h) (Or.inl ⟨by rfl, ?_⟩) hH ?_
          rotate_left
          · (intro wS hS; clear hS; go_simp; try rfl)
          try simp only [Act.put, List.setIfInBounds_toArray, List.set_cons_zero, List.set_cons_succ]
          refine wpAnyH_done (by kernel_rfl) ?_ _
          go_wp2_with (fail)
          go_meet
          exact ⟨v2.heap.size, _, rfl, rfl, VB.out, (OB.out.old _).le (Nat.zero_le _), hH⟩
        · go_simp
          have VB : Hid (Blk3 (v1.alloc (.cells #[.int .i64 0, .int .i64 0, .slice none 0 0] 27)) v1.heap.size 27 (.int .i64 0) (.int .i64 0) (.slice none 0 0)) := Blk3.at_ _ _ _ _ rfl
          have RU := Lib.hid (RU.out.old (.cells #[.int .i64 0, .int .i64 0, .slice none 0 0] 27))
          have PL : wz2.heap.size ≤ v1.heap.size := hH.size
          try dsimp only
          refine hK.out _ _ ?_ (fun hH2 => ?_)
          · exact hH.alloc hH.size _
          clear hK K
          have hO := hH
          clear hH
          have hH := hH2
          clear hH2
          try simp only [Act.put, List.setIfInBounds_toArray, List.set_cons_zero, List.set_cons_succ]
          refine wpAnyH_ready (rs := [3]) (by kernel_rfl) (by simp) ?_
          refine AllReadyH.cons (by simp only [List.getElem?_toArray, List.getElem?_cons_succ, List.getElem?_cons_zero]; rfl) (fun K hK => ?_) AllReadyH.nil
          go_simp
          have hs2 := hH.size
          have lb2 := VB.out.lt
          (with_reducible refine (iOpsN mX.r mX.c qX au qcX cu l.length mX.zs (undoL l l.length) _ (OX.out.keep hH).rd SX.out RU.out nX (by omega) lu).mono ?_)
          rintro e v2 ⟨vb, rfl, own2, hb2⟩
          rw [EB.out] at own2 ⊢
          dsimp only at own2 ⊢
          obtain ⟨qB, qcB, rfl, -, -⟩ := own2.form
          have OB := Lib.hid own2
          clear own2
          have VB := Lib.hid (VB.out.keep hb2 VB.out.lt)
          try dsimp only
          refine hK.out _ _ ?_ (fun hH2 => ?_)
          · exact hH.trans (hb2.mono hH.size)
          clear hK K
          have hO := hH
          clear hH
          have hH := hH2
          clear hH2
          try simp only [Act.put, List.setIfInBounds_toArray, List.set_cons_zero, List.set_cons_succ]
          have z2 := hb2.size
          refine wpAnyH_take (i := 4) (v := ?_) (by simp only [List.getElem?_toArray, List.getElem?_cons_succ, List.getElem?_cons_zero]; rfl) (by kernel_rfl) (by kernel_rfl) (by kernel_rfl) (by exact fun _ _ _ h => h) (Or.inl ⟨by rfl, ?_⟩) hH ?_
          rotate_left
          · (intro wS hS; clear hS; go_simp; try rfl)
          try simp only [Act.put, List.setIfInBounds_toArray, List.set_cons_zero, List.set_cons_succ]
          refine wpAnyH_take (i := 5) (v := ?_) (by simp only [List.getElem?_toArray, List.getElem?_cons_succ, List.getElem?_cons_zero]; rfl) (by kernel_rfl) (by kernel_rfl) (by kernel_rfl) (by exact fun _ _ _ h => h) (Or.inl ⟨by rfl, ?_⟩) hH ?_
          rotate_left
          · (intro wS hS; clear hS; go_simp; try rfl)
          try simp only [Act.put, List.setIfInBounds_toArray, List.set_cons_zero, List.set_cons_succ]
          refine wpAnyH_take (i := 6) (v := ?_) (by simp only [List.getElem?_toArray, List.getElem?_cons_succ, List.getElem?_cons_zero]; rfl) (by kernel_rfl) (by kernel_rfl) (by kernel_rfl) (by exact fun _ _ _ h => h) (Or.inl ⟨by rfl, ?_⟩) hH ?_
          rotate_left
          · (intro wS hS; clear hS; go_simp; try rfl)
          try simp only [Act.put, List.setIfInBounds_toArray, List.set_cons_zero, List.set_cons_succ]
          refine wpAnyH_ready (rs := [8]) (by kernel_rfl) (by simp) ?_
          refine AllReadyH.cons (by simp only [List.getElem?_toArray, List.getElem?_cons_succ, List.getElem?_cons_zero]; rfl) (fun K hK => ?_) AllReadyH.nil
          have VC := VB
          obtain ⟨y0, y1, y2, y3, y4, y5⟩ := VB.out.all
          go_simp
          have VB := Lib.hid (((VB.out.set0 (.int .i64 R)).set1 (.int .i64 C)).set2 (.slice qB xs.length qcB))
          try dsimp only
          refine hK.out _ _ ?_ (fun hH2 => ?_)
          · exact (((hH.setCell PL _).setCell PL _).setCell PL _)
          clear hK K
          have hO := hH
          clear hH
          have hH := hH2
          clear hH2
          try simp only [Act.put, List.setIfInBounds_toArray, List.set_cons_zero, List.set_cons_succ]
          refine wpAnyH_take (i := 9) (v := ?_) (by simp only [List.getElem?_toArray, List.getElem?_cons_succ, List.getElem?_cons_zero]; rfl) (by kernel_rfl) (by kernel_rfl) (by kernel_rfl) (by exact fun _ _ _ h => h) (Or.inl ⟨by rfl, ?_⟩) hH ?_
          rotate_left
          · (intro wS hS; clear hS; go_simp; try rfl)
          try simp only [Act.put, List.setIfInBounds_toArray, List.set_cons_zero, List.set_cons_succ]
          refine wpAnyH_done (by kernel_rfl) ?_ _
          go_wp2_with (fail)
          go_meet
          exact ⟨v1.heap.size, _, rfl, rfl, VB.out, (((OB.out.far (by exact lb2) _).far (by exact lb2) _).far (by exact lb2) _).le (Nat.zero_le _), hH⟩
      · go_simp
        have VB : Hid (Blk3 (wz2.drew.alloc (.cells #[.int .i64 0, .int .i64 0, .slice none 0 0] 27)) wz2.heap.size 27 (.int .i64 0) (.int .i64 0) (.slice none 0 0)) := Blk3.at_ _ _ _ _ rfl
        have PL : wz2.heap.size ≤ wz2.drew.heap.size := hH.size
        try dsimp only
        refine hK.out _ _ ?_ (fun hH2 => ?_)
        · exact hH.alloc hH.size _
        clear hK K
        have hO := hH
        clear hH
        have hH := hH2
        clear hH2
        try simp only [Act.put, List.setIfInBounds_toArray, List.set_cons_zero, List.set_cons_succ]
        refine wpAnyH_ready (rs := [2]) (by kernel_rfl) (by simp) ?_
        refine AllReadyH.cons (by simp only [List.getElem?_toArray, List.getElem?_cons_succ, List.getElem?_cons_zero]; rfl) (fun K hK => ?_) AllReadyH.nil
        go_simp
        have hs1 := hH.size
        have lb1 := VB.out.lt
        (with_reducible refine (iUndoOps al ml l _ (HO.out.keep hH) (by omega)).mono ?_)
        rintro e v1 ⟨vu, rfl, own1, hb1⟩
        have own1 := rows_len lu own1
        obtain ⟨au, cu, rfl, ru⟩ := rows_rdo own1
        skip
        have RU := Lib.hid ru
        clear own1 ru
        have VB := Lib.hid (VB.out.keep hb1 VB.out.lt)
        try dsimp only
        refine hK.out _ _ ?_ (fun hH2 => ?_)
        · exact hH.trans (hb1.mono hH.size)
        clear hK K
        have hO := hH
        clear hH
        have hH := hH2
        clear hH2
        try simp only [Act.put, List.setIfInBounds_toArray, List.set_cons_zero, List.set_cons_succ]
        have z1 := hb1.size
        refine wpAnyH_ready (rs := [3]) (by kernel_rfl) (by simp) ?_
        refine AllReadyH.cons (by simp only [List.getElem?_toArray, List.getElem?_cons_succ, List.getElem?_cons_zero]; rfl) (fun K hK => ?_) AllReadyH.nil
        go_simp
        have hs2 := hH.size
        have lb2 := VB.out.lt
        (with_reducible refine (iOpsN mX.r mX.c qX au qcX cu l.length mX.zs (undoL l l.length) _ (OX.out.keep hH).rd SX.out RU.out nX (by omega) lu).mono ?_)
        rintro e v2 ⟨vb, rfl, own2, hb2⟩
        rw [EB.out] at own2 ⊢
        dsimp only at own2 ⊢
        obtain ⟨qB, qcB, rfl, -, -⟩ := own2.form
        have OB := Lib.hid own2
        clear own2
        have VB := Lib.hid (VB.out.keep hb2 VB.out.lt)
        try dsimp only
        refine hK.out _ _ ?_ (fun hH2 => ?_)
        · exact hH.trans (hb2.mono hH.size)
        clear hK K
        have hO := hH
        clear hH
        have hH := hH2
        clear hH2
        try simp only [Act.put, List.setIfInBounds_toArray, List.set_cons_zero, List.set_cons_succ]
        have z2 := hb2.size
        refine wpAnyH_take (i := 4) (v := ?_) (by simp only [List.getElem?_toArray, List.getElem?_cons_succ, List.getElem?_cons_zero]; rfl) (by kernel_rfl) (by kernel_rfl) (by kernel_rfl) (by exact fun _ _ _ h => h) (Or.inl ⟨by rfl, ?_⟩) hH ?_
        rotate_left
        · (intro wS hS; clear hS; go_simp; try rfl)
        try simp only [Act.put, List.setIfInBounds_toArray, List.set_cons_zero, List.set_cons_succ]
        refine wpAnyH_take (i := 5) (v := ?_) (by simp only [List.getElem?_toArray, List.getElem?_cons_succ, List.getElem?_cons_zero]; rfl) (by kernel_rfl) (by kernel_rfl) (by kernel_rfl) (by exact fun _ _ _ h => h) (Or.inl ⟨by rfl, ?_⟩) hH ?_
        rotate_left
        · (intro wS hS; clear hS; go_simp; try rfl)
        try simp only [Act.put, List.setIfInBounds_toArray, List.set_cons_zero, List.set_cons_succ]
        refine wpAnyH_take (i := 6) (v := ?_) (by simp only [List.getElem?_toArray, List.getElem?_cons_succ, List.getElem?_cons_zero]; rfl) (by kernel_rfl) (by kernel_rfl) (by kernel_rfl) (by exact fun _ _ _ h => h) (Or.inl ⟨by rfl, ?_⟩) hH ?_
        rotate_left
        · (intro wS hS; clear hS; go_simp; try rfl)
        try simp only [Act.put, List.setIfInBounds_toArray, List.set_cons_zero, List.set_cons_succ]
        refine wpAnyH_ready (rs := [8]) (by kernel_rfl) (by simp) ?_
        refine AllReadyH.cons (by simp only [List.getElem?_toArray, List.getElem?_cons_succ, List.getElem?_cons_zero]; rfl) (fun K hK => ?_) AllReadyH.nil
        have VC := VB
        obtain ⟨y0, y1, y2, y3, y4, y5⟩ := VB.out.all
        go_simp
        have VB := Lib.hid (((VB.out.set0 (.int .i64 R)).set1 (.int .i64 C)).set2 (.slice qB xs.length qcB))
        try dsimp only
        refine hK.out _ _ ?_ (fun hH2 => ?_)
        · exact (((hH.setCell PL _).setCell PL _).setCell PL _)
        clear hK K
        have hO := hH
        clear hH
        have hH := hH2
        clear hH2
        try simp only [Act.put, List.setIfInBounds_toArray, List.set_cons_zero, List.set_cons_succ]
        refine wpAnyH_take (i := 9) (v := ?_) (by simp only [List.getElem?_toArray, List.getElem?_cons_succ, List.getElem?_cons_zero]; rfl) (by kernel_rfl) (by kernel_rfl) (by kernel_rfl) (by exact fun _ _ _ h => h) (Or.inl ⟨by rfl, ?_⟩) hH ?_
        rotate_left
        · (intro wS hS; clear hS; go_simp; try rfl)
        try simp only [Act.put, List.setIfInBounds_toArray, List.set_cons_zero, List.set_cons_succ]
        refine wpAnyH_done (by kernel_rfl) ?_ _
        go_wp2_with (fail)
        go_meet
        exact ⟨wz2.heap.size, _, rfl, rfl, VB.out, (((OB.out.far (by exact lb2) _).far (by exact lb2) _).far (by exact lb2) _).le (Nat.zero_le _), hH⟩
    case rest =>
      obtain ⟨p7, v7, rfl, rfl, k7, ob7, hb⟩ := hcut
      obtain ⟨qB, qcB, rfl, -, -⟩ := ob7.form
      have OA := Lib.hid (OA.out.keep hb)
      have HO := Lib.hid (HO.out.keep hb)
      have KA := Lib.hid (KA.out.step hb)
      have OX := Lib.hid (OX.out.keep hb)
      have KX := Lib.hid (KX.out.step hb)
      have B := Lib.hid (stepB B.out hb)
      clear hb
      have KB := Lib.hid k7
      have OB := Lib.hid ob7
      clear k7 ob7
      obtain ⟨cc3_00, cc3_01, cc3_02, -, -, -⟩ := KA.out.all
      have ll3_0 := KA.out.lt
      obtain ⟨cc3_10, cc3_11, cc3_12, -, -, -⟩ := KX.out.all
      have ll3_1 := KX.out.lt
      obtain ⟨cc3_20, cc3_21, cc3_22, -, -, -⟩ := KB.out.all
      have ll3_2 := KB.out.lt
      go_wp2_with (fail)
      refine (lUnitN R _ hR).mono ?_
      rintro e w3 ⟨qI, qcI, rfl, own, hb⟩
      have SI := Lib.hid own.spot2
      have OA := Lib.hid (OA.out.keep hb)
      have HO := Lib.hid (HO.out.keep hb)
      have KA := Lib.hid (KA.out.step hb)
      have OX := Lib.hid (OX.out.keep hb)
      have KX := Lib.hid (KX.out.step hb)
      have KB := Lib.hid (KB.out.step hb)
      have OB := Lib.hid (OB.out.keep hb)
      have B := Lib.hid (stepB B.out hb)
      clear hb
      have OI := Lib.hid (own.le (Nat.zero_le _))
      clear own
      obtain ⟨cc4_00, cc4_01, cc4_02, -, -, -⟩ := KA.out.all
      have ll4_0 := KA.out.lt
      obtain ⟨cc4_10, cc4_11, cc4_12, -, -, -⟩ := KX.out.all
      have ll4_1 := KX.out.lt
      obtain ⟨cc4_20, cc4_21, cc4_22, -, -, -⟩ := KB.out.all
      have ll4_2 := KB.out.lt
      go_wp2_with (fail)
      have nI : (idL R R).length ≤ 16777216 := by rw [idL_length]; have : R * R ≤ 24 * 24 := Nat.mul_le_mul hR hR; omega
      obtain ⟨mU, hmU⟩ : ∃ m, opsR R R (idL R R) l = m := ⟨_, rfl⟩
      have HmU := Lib.hid hmU
      clear hmU
      refine (iOps R R qI al qcI ml (idL R R) l _ OI.out.rd SI.out HO.out nI (by omega)).mono ?_
      rintro e w4 ⟨vU, rfl, own, hb⟩
      rw [HmU.out] at own ⊢
      obtain ⟨qU, qcU, rfl, -, -⟩ := own.form
      have nU := own.small
      have OA := Lib.hid (OA.out.keep hb)
      have HO := Lib.hid (HO.out.keep hb)
      have KA := Lib.hid (KA.out.step hb)
      have OX := Lib.hid (OX.out.keep hb)
      have KX := Lib.hid (KX.out.step hb)
      have KB := Lib.hid (KB.out.step hb)
      have OB := Lib.hid (OB.out.keep hb)
      have OI := Lib.hid (OI.out.keep hb)
      have B := Lib.hid (stepB B.out hb)
      clear hb
      have OU := Lib.hid (own.le (Nat.zero_le _))
      clear own
      obtain ⟨cc5_00, cc5_01, cc5_02, -, -, -⟩ := KA.out.all
      have ll5_0 := KA.out.lt
      obtain ⟨cc5_10, cc5_11, cc5_12, -, -, -⟩ := KX.out.all
      have ll5_1 := KX.out.lt
      obtain ⟨cc5_20, cc5_21, cc5_22, -, -, -⟩ := KB.out.all
      have ll5_2 := KB.out.lt
      rcases Bool.eq_false_or_eq_true mU.ok with hu | hu
      rotate_left
      · rw [hu]
        obtain ⟨cc6_00, cc6_01, cc6_02, -, -, -⟩ := KA.out.all
        have ll6_0 := KA.out.lt
        obtain ⟨cc6_10, cc6_11, cc6_12, -, -, -⟩ := KX.out.all
        have ll6_1 := KX.out.lt
        obtain ⟨cc6_20, cc6_21, cc6_22, -, -, -⟩ := KB.out.all
        have ll6_2 := KB.out.lt
        go_wp2_with (fail)
        refine (iSame R C R C qB q1 qcB qc1 xs xs _ (OB.out.old _).rd (OA.out.old _).rd n1 n1).mono ?_
        rintro e w5 ⟨rfl, hb⟩
        have OA := Lib.hid ((OA.out.old _).keep hb)
        have HO := Lib.hid ((HO.out.old _).keep hb)
        have KA := Lib.hid ((KA.out.old _).step hb)
        have OX := Lib.hid ((OX.out.old _).keep hb)
        have KX := Lib.hid ((KX.out.old _).step hb)
        have KB := Lib.hid ((KB.out.old _).step hb)
        have OB := Lib.hid ((OB.out.old _).keep hb)
        have OI := Lib.hid ((OI.out.old _).keep hb)
        have OU := Lib.hid ((OU.out.old _).keep hb)
        have KU : Hid (Blk3 w5 w4.heap.size 27 (.int .i64 (mU.r)) (.int .i64 (mU.c)) (.slice qU mU.zs.length qcU)) := (Blk3.at_ _ _ _ _ rfl).step hb
        have B := Lib.hid (stepB (B.out.alloc B.out.size _) hb)
        clear hb
        rw [sameM_self]
        obtain ⟨cc7_00, cc7_01, cc7_02, -, -, -⟩ := KA.out.all
        have ll7_0 := KA.out.lt
        obtain ⟨cc7_10, cc7_11, cc7_12, -, -, -⟩ := KX.out.all
        have ll7_1 := KX.out.lt
        obtain ⟨cc7_20, cc7_21, cc7_22, -, -, -⟩ := KB.out.all
        have ll7_2 := KB.out.lt
        obtain ⟨cc7_30, cc7_31, cc7_32, -, -, -⟩ := KU.out.all
        have ll7_3 := KU.out.lt
        obtain ⟨cc8_00, cc8_01, cc8_02, -, -, -⟩ := KA.out.all
        have ll8_0 := KA.out.lt
        obtain ⟨cc8_10, cc8_11, cc8_12, -, -, -⟩ := KX.out.all
        have ll8_1 := KX.out.lt
        obtain ⟨cc8_20, cc8_21, cc8_22, -, -, -⟩ := KB.out.all
        have ll8_2 := KB.out.lt
        obtain ⟨cc8_30, cc8_31, cc8_32, -, -, -⟩ := KU.out.all
        have ll8_3 := KU.out.lt
        go_wp2_with (fail)
        go_ret
        exact ⟨rfl, B.out⟩
      rw [hu]
      obtain ⟨-, -, U, -, -, -, -, -, -, eU, eUO, -⟩ := opsR_says HmU.out hu ll
      have EU := Lib.hid eU
      have EUO := Lib.hid eUO
      clear eU eUO
      obtain ⟨cc6_00, cc6_01, cc6_02, -, -, -⟩ := KA.out.all
      have ll6_0 := KA.out.lt
      obtain ⟨cc6_10, cc6_11, cc6_12, -, -, -⟩ := KX.out.all
      have ll6_1 := KX.out.lt
      obtain ⟨cc6_20, cc6_21, cc6_22, -, -, -⟩ := KB.out.all
      have ll6_2 := KB.out.lt
      go_wp2_with (fail)
      obtain ⟨mY, hmY⟩ : ∃ m, mulM mU.r mU.c mU.zs R C xs = m := ⟨_, rfl⟩
      have HmY := Lib.hid hmY
      clear hmY
      refine (iMul mU.r mU.c R C qU q1 qcU qc1 mU.zs xs _ (OU.out.old _).rd (OA.out.old _).rd nU n1).mono ?_
      rintro e w5 ⟨vY, rfl, own, hb⟩
      rw [HmY.out] at own ⊢
      obtain ⟨qY, qcY, rfl, -, -⟩ := own.form
      have nY := own.small
      have OA := Lib.hid ((OA.out.old _).keep hb)
      have HO := Lib.hid ((HO.out.old _).keep hb)
      have KA := Lib.hid ((KA.out.old _).step hb)
      have OX := Lib.hid ((OX.out.old _).keep hb)
      have KX := Lib.hid ((KX.out.old _).step hb)
      have KB := Lib.hid ((KB.out.old _).step hb)
      have OB := Lib.hid ((OB.out.old _).keep hb)
      have OI := Lib.hid ((OI.out.old _).keep hb)
      have OU := Lib.hid ((OU.out.old _).keep hb)
      have KU : Hid (Blk3 w5 w4.heap.size 27 (.int .i64 (mU.r)) (.int .i64 (mU.c)) (.slice qU mU.zs.length qcU)) := (Blk3.at_ _ _ _ _ rfl).step hb
      have B := Lib.hid (stepB (B.out.alloc B.out.size _) hb)
      clear hb
      have OY := Lib.hid (own.le (Nat.zero_le _))
      clear own
      obtain ⟨cc7_00, cc7_01, cc7_02, -, -, -⟩ := KA.out.all
      have ll7_0 := KA.out.lt
      obtain ⟨cc7_10, cc7_11, cc7_12, -, -, -⟩ := KX.out.all
      have ll7_1 := KX.out.lt
      obtain ⟨cc7_20, cc7_21, cc7_22, -, -, -⟩ := KB.out.all
      have ll7_2 := KB.out.lt
      obtain ⟨cc7_30, cc7_31, cc7_32, -, -, -⟩ := KU.out.all
      have ll7_3 := KU.out.lt
      go_wp2_with (fail)
      refine (lUnitN R _ hR).mono ?_
      rintro e w6 ⟨qE, qcE, rfl, own, hb⟩
      have OA := Lib.hid ((OA.out.old _).keep hb)
      have HO := Lib.hid ((HO.out.old _).keep hb)
      have KA := Lib.hid ((KA.out.old _).step hb)
      have OX := Lib.hid ((OX.out.old _).keep hb)
      have KX := Lib.hid ((KX.out.old _).step hb)
      have KB := Lib.hid ((KB.out.old _).step hb)
      have OB := Lib.hid ((OB.out.old _).keep hb)
      have OI := Lib.hid ((OI.out.old _).keep hb)
      have OU := Lib.hid ((OU.out.old _).keep hb)
      have KU := Lib.hid ((KU.out.old _).step hb)
      have OY := Lib.hid ((OY.out.old _).keep hb)
      have KY : Hid (Blk3 w6 w5.heap.size 27 (.int .i64 (mY.r)) (.int .i64 (mY.c)) (.slice qY mY.zs.length qcY)) := (Blk3.at_ _ _ _ _ rfl).step hb
      have B := Lib.hid (stepB (B.out.alloc B.out.size _) hb)
      clear hb
      have OE0 := Lib.hid (own.le (Nat.zero_le _))
      clear own
      have KE0 : Hid (Blk3 (w6.alloc (.cells #[.int .i64 R, .int .i64 R, .slice qE (idL R R).length qcE] 27)) w6.heap.size 27 (.int .i64 R) (.int .i64 R) (.slice qE (idL R R).length qcE)) := Blk3.at_ _ _ _ _ rfl
      have BE0 : Hid (Below w6.heap.size w6 (w6.alloc (.cells #[.int .i64 R, .int .i64 R, .slice qE (idL R R).length qcE] 27))) := (Below.refl _ _).alloc (Nat.le_refl _) _
      obtain ⟨cc8_00, cc8_01, cc8_02, -, -, -⟩ := KA.out.all
      have ll8_0 := KA.out.lt
      obtain ⟨cc8_10, cc8_11, cc8_12, -, -, -⟩ := KX.out.all
      have ll8_1 := KX.out.lt
      obtain ⟨cc8_20, cc8_21, cc8_22, -, -, -⟩ := KB.out.all
      have ll8_2 := KB.out.lt
      obtain ⟨cc8_30, cc8_31, cc8_32, -, -, -⟩ := KU.out.all
      have ll8_3 := KU.out.lt
      obtain ⟨cc8_40, cc8_41, cc8_42, -, -, -⟩ := KY.out.all
      have ll8_4 := KY.out.lt
      go_wp2_with (fail)
      go_loopw [2, 14, 15, 16, 17, 18] (fun _ v14 _ _ _ _ wr => ∃ (q : Nat) (aE : Option Addr) (cE : Nat) (E : List Int), v14 = .int .i64 q ∧ q ≤ l.length ∧ Below w6.heap.size w6 wr ∧ Blk3 wr w6.heap.size 27 (.int .i64 R) (.int .i64 R) (.slice aE E.length cE) ∧ Own 0 wr (.slice aE E.length cE) E ∧ opsM R R (idL R R) (l.take q) = ⟨true, R, R, E⟩) (fun _ v14 _ _ _ _ _ => l.length - (intOf v14).toNat)
      case atStart => exact ⟨0, qE, qcE, idL R R, rfl, by omega, BE0.out, KE0.out, OE0.out.old _, rfl⟩
      case round =>
        obtain ⟨q, aE, cE, E, rfl, hq, hb, ke, oe, hE⟩ := hrel
        have nE := oe.small
        have BL := Lib.hid hb
        have OA := Lib.hid (OA.out.keep hb)
        have HO := Lib.hid (HO.out.keep hb)
        have KA := Lib.hid (KA.out.step hb)
        have OX := Lib.hid (OX.out.keep hb)
        have KX := Lib.hid (KX.out.step hb)
        have KB := Lib.hid (KB.out.step hb)
        have OB := Lib.hid (OB.out.keep hb)
        have OI := Lib.hid (OI.out.keep hb)
        have OU := Lib.hid (OU.out.keep hb)
        have KU := Lib.hid (KU.out.step hb)
        have OY := Lib.hid (OY.out.keep hb)
        have KY := Lib.hid (KY.out.step hb)
        have B := Lib.hid (stepB B.out hb)
        clear hb
        have KE := Lib.hid ke
        have OE := Lib.hid oe
        have EE := Lib.hid hE
        clear ke oe hE
        by_cases hlt : q < l.length
        · obtain ⟨u, hu0⟩ : ∃ u, l.getD q Ro.zero = u := ⟨_, rfl⟩
          obtain ⟨o, E', e1, e2, e3⟩ := loop_law hR EUO.out hlt hu0 EE.out
          have HU0 := Lib.hid hu0
          have HQ := Lib.hid hlt
          have EO1 := Lib.hid e1
          have EM := Lib.hid e2
          have E3 := Lib.hid e3
          clear hu0 e1 e2 e3
          obtain ⟨b2, o2, rfl, -, -⟩ := HO.out q HQ.out
          obtain ⟨cc9_00, cc9_01, cc9_02, -, -, -⟩ := KA.out.all
          obtain ⟨cc9_10, cc9_11, cc9_12, -, -, -⟩ := KX.out.all
          obtain ⟨cc9_20, cc9_21, cc9_22, -, -, -⟩ := KB.out.all
          obtain ⟨cc9_30, cc9_31, cc9_32, -, -, -⟩ := KU.out.all
          obtain ⟨cc9_40, cc9_41, cc9_42, -, -, -⟩ := KY.out.all
          obtain ⟨cc9_50, cc9_51, cc9_52, -, -, -⟩ := KE.out.all
          go_upto_region 16 with (fail)
          go_cut [15, 16] (fun s15 s16 wx => ∃ (p15 : Nat) (v0 : Value), s15 = .pointer (some ⟨p15, 0, none⟩) ∧ s16 = .bool true ∧ Blk3 wx p15 27 (.int .i64 R) (.int .i64 R) v0 ∧ Own 0 wx v0 o ∧ Below wr.heap.size wr wx)
          case first =>
            refine wp_region_held_drew (S := fun w' => Below wr.heap.size wr w') (by kernel_rfl) (Below.refl _ _).drew (fun hH => ?_)
            refine wpAnyH_take (i := 0) (v := ?_) (by simp only [List.getElem?_toArray, List.getElem?_cons_zero]; rfl) (by kernel_rfl) (by kernel_rfl) (by kernel_rfl) (by exact fun _ _ _ h => h) (Or.inl ⟨by rfl, ?_⟩) hH ?_
            rotate_left
            · (intro wS hS; (try dsimp only at hS); obtain ⟨k1, k2, k3, k4, k5, k6, k7⟩ := opsF KA.out HO.out HQ.out HU0.out hS; go_simp; try rfl)
            try simp only [Act.put, List.setIfInBounds_toArray, List.set_cons_zero, List.set_cons_succ]
            refine wpAnyH_take (i := 1) (v := ?_) (by simp only [List.getElem?_toArray, List.getElem?_cons_succ, List.getElem?_cons_zero]; rfl) (by kernel_rfl) (by kernel_rfl) (by kernel_rfl) (by exact fun _ _ _ h => h) (Or.inl ⟨by rfl, ?_⟩) hH ?_
            rotate_left
            · (intro wS hS; (try dsimp only at hS); obtain ⟨k1, k2, k3, k4, k5, k6, k7⟩ := opsF KA.out HO.out HQ.out HU0.out hS; go_simp; try rfl)
            try simp only [Act.put, List.setIfInBounds_toArray, List.set_cons_zero, List.set_cons_succ]
            refine wpAnyH_take (i := 2) (v := ?_) (by simp only [List.getElem?_toArray, List.getElem?_cons_succ, List.getElem?_cons_zero]; rfl) (by kernel_rfl) (by kernel_rfl) (by kernel_rfl) (by exact fun _ _ _ h => h) (Or.inl ⟨by rfl, ?_⟩) hH ?_
            rotate_left
            · (intro wS hS; (try dsimp only at hS); obtain ⟨k1, k2, k3, k4, k5, k6, k7⟩ := opsF KA.out HO.out HQ.out HU0.out hS; go_simp; try rfl)
            try simp only [Act.put, List.setIfInBounds_toArray, List.set_cons_zero, List.set_cons_succ]
            refine wpAnyH_take (i := 3) (v := ?_) (by simp only [List.getElem?_toArray, List.getElem?_cons_succ, List.getElem?_cons_zero]; rfl) (by kernel_rfl) (by kernel_rfl) (by kernel_rfl) (by exact fun _ _ _ h => h) (Or.inl ⟨by rfl, ?_⟩) hH ?_
            rotate_left
            · (intro wS hS; (try dsimp only at hS); obtain ⟨k1, k2, k3, k4, k5, k6, k7⟩ := opsF KA.out HO.out HQ.out HU0.out hS; go_simp; try rfl)
            try simp only [Act.put, List.setIfInBounds_toArray, List.set_cons_zero, List.set_cons_succ]
            refine wpAnyH_take (i := 4) (v := ?_) (by simp only [List.getElem?_toArray, List.getElem?_cons_succ, List.getElem?_cons_zero]; rfl) (by kernel_rfl) (by kernel_rfl) (by kernel_rfl) (by exact fun _ _ _ h => h) (Or.inl ⟨by rfl, ?_⟩) hH ?_
            rotate_left
            · (intro wS hS; (try dsimp only at hS); obtain ⟨k1, k2, k3, k4, k5, k6, k7⟩ := opsF KA.out HO.out HQ.out HU0.out hS; go_simp; try rfl)
            try simp only [Act.put, List.setIfInBounds_toArray, List.set_cons_zero, List.set_cons_succ]
            refine wpAnyH_take (i := 5) (v := ?_) (by simp only [List.getElem?_toArray, List.getElem?_cons_succ, List.getElem?_cons_zero]; rfl) (by kernel_rfl) (by kernel_rfl) (by kernel_rfl) (by exact fun _ _ _ h => h) (Or.inl ⟨by rfl, ?_⟩) hH ?_
            rotate_left
            · (intro wS hS; (try dsimp only at hS); obtain ⟨k1, k2, k3, k4, k5, k6, k7⟩ := opsF KA.out HO.out HQ.out HU0.out hS; go_simp; try rfl)
            try simp only [Act.put, List.setIfInBounds_toArray, List.set_cons_zero, List.set_cons_succ]
            refine wpAnyH_ready (rs := [6, 10]) (by kernel_rfl) (by simp) ?_
            refine AllReadyH.cons (by simp only [List.getElem?_toArray, List.getElem?_cons_succ, List.getElem?_cons_zero]; rfl) (fun K hK => ?_) (AllReadyH.cons (by simp only [List.getElem?_toArray, List.getElem?_cons_succ, List.getElem?_cons_zero]; rfl) (fun K hK => ?_) AllReadyH.nil)
            · go_simp
              have hs1 := hH.size
              (with_reducible refine (iOpMat u.k u.i u.j u.t R _).mono ?_)
              rintro e v1 ⟨vo, rfl, own1, hb1⟩
              rw [EO1.out] at own1 ⊢
              dsimp only at own1 ⊢
              obtain ⟨qO, qcO, rfl, -, -⟩ := own1.form
              have OO := Lib.hid own1
              clear own1
              try dsimp only
              refine hK.out _ _ ?_ (fun hH2 => ?_)
              · exact hH.trans (hb1.mono hH.size)
              clear hK K
              have hO := hH
              clear hH
              have hH := hH2
              clear hH2
              try simp only [Act.put, List.setIfInBounds_toArray, List.set_cons_zero, List.set_cons_succ]
              have z1 := hb1.size
              refine wpAnyH_take (i := 7) (v := ?_) (by simp only [List.getElem?_toArray, List.getElem?_cons_succ, List.getElem?_cons_zero]; rfl) (by kernel_rfl) (by kernel_rfl) (by kernel_rfl) (by exact fun _ _ _ h => h) (Or.inl ⟨by rfl, ?_⟩) hH ?_
              rotate_left
              · (intro wS hS; clear hS; go_simp; try rfl)
              try simp only [Act.put, List.setIfInBounds_toArray, List.set_cons_zero, List.set_cons_succ]
              refine wpAnyH_take (i := 8) (v := ?_) (by simp only [List.getElem?_toArray, List.getElem?_cons_succ, List.getElem?_cons_zero]; rfl) (by kernel_rfl) (by kernel_rfl) (by kernel_rfl) (by exact fun _ _ _ h => h) (Or.inl ⟨by rfl, ?_⟩) hH ?_
              rotate_left
              · (intro wS hS; clear hS; go_simp; try rfl)
              try simp only [Act.put, List.setIfInBounds_toArray, List.set_cons_zero, List.set_cons_succ]
              refine wpAnyH_take (i := 9) (v := ?_) (by simp only [List.getElem?_toArray, List.getElem?_cons_succ, List.getElem?_cons_zero]; rfl) (by kernel_rfl) (by kernel_rfl) (by kernel_rfl) (by exact fun _ _ _ h => h) (Or.inl ⟨by rfl, ?_⟩) hH ?_
              rotate_left
              · (intro wS hS; clear hS; go_simp; try rfl)
              try simp only [Act.put, List.setIfInBounds_toArray, List.set_cons_zero, List.set_cons_succ]
              refine wpAnyH_ready (rs := [10]) (by kernel_rfl) (by simp) ?_
              refine AllReadyH.cons (by simp only [List.getElem?_toArray, List.getElem?_cons_succ, List.getElem?_cons_zero]; rfl) (fun K hK => ?_) AllReadyH.nil
              go_simp
              have VB : Hid (Blk3 (v1.alloc (.cells #[.int .i64 0, .int .i64 0, .slice none 0 0] 27)) v1.heap.size 27 (.int .i64 0) (.int .i64 0) (.slice none 0 0)) := Blk3.at_ _ _ _ _ rfl
              have PL : wr.heap.size ≤ v1.heap.size := hH.size
              try dsimp only
              refine hK.out _ _ ?_ (fun hH2 => ?_)
              · exact hH.alloc hH.size _
              clear hK K
              have hO := hH
              clear hH
              have hH := hH2
              clear hH2
              try simp only [Act.put, List.setIfInBounds_toArray, List.set_cons_zero, List.set_cons_succ]
              refine wpAnyH_ready (rs := [11]) (by kernel_rfl) (by simp) ?_
              refine AllReadyH.cons (by simp only [List.getElem?_toArray, List.getElem?_cons_succ, List.getElem?_cons_zero]; rfl) (fun K hK => ?_) AllReadyH.nil
              go_simp
              have VB : Hid (Blk3 (v1.alloc (.cells #[.int .i64 R, .int .i64 R, .slice qO o.length qcO] 27)) v1.heap.size 27 (.int .i64 R) (.int .i64 R) (.slice qO o.length qcO)) := Blk3.at_ _ _ _ _ rfl
              try dsimp only
              refine hK.out _ _ ?_ (fun hH2 => ?_)
              · exact hO.alloc hO.size _
              clear hK K
              have hO := hH
              clear hH
              have hH := hH2
              clear hH2
              try simp only [Act.put, List.setIfInBounds_toArray, List.set_cons_zero, List.set_cons_succ]
              refine wpAnyH_take (i := 12) (v := ?_) (by simp only [List.getElem?_toArray, List.getElem?_cons_succ, List.getElem?_cons_zero]; rfl) (by kernel_rfl) (by kernel_rfl) (by kernel_rfl) (by exact fun _ _ _ h => h) (Or.inl ⟨by rfl, ?_⟩) hH ?_
              rotate_left
              · (intro wS hS; clear hS; go_simp; try rfl)
              try simp only [Act.put, List.setIfInBounds_toArray, List.set_cons_zero, List.set_cons_succ]
              refine wpAnyH_done (by kernel_rfl) ?_ _
              go_wp2_with (fail)
              go_meet
              exact ⟨v1.heap.size, _, rfl, rfl, VB.out, (OO.out.old _).le (Nat.zero_le _), hH⟩
            · go_simp
              have VB : Hid (Blk3 (wr.drew.alloc (.cells #[.int .i64 0, .int .i64 0, .slice none 0 0] 27)) wr.heap.size 27 (.int .i64 0) (.int .i64 0) (.slice none 0 0)) := Blk3.at_ _ _ _ _ rfl
              have PL : wr.heap.size ≤ wr.drew.heap.size := hH.size
              try dsimp only
              refine hK.out _ _ ?_ (fun hH2 => ?_)
              · exact hH.alloc hH.size _
              clear hK K
              have hO := hH
              clear hH
              have hH := hH2
              clear hH2
              try simp only [Act.put, List.setIfInBounds_toArray, List.set_cons_zero, List.set_cons_succ]
              refine wpAnyH_ready (rs := [6]) (by kernel_rfl) (by simp) ?_
              refine AllReadyH.cons (by simp only [List.getElem?_toArray, List.getElem?_cons_succ, List.getElem?_cons_zero]; rfl) (fun K hK => ?_) AllReadyH.nil
              go_simp
              have hs1 := hH.size
              have lb1 := VB.out.lt
              (with_reducible refine (iOpMat u.k u.i u.j u.t R _).mono ?_)
              rintro e v1 ⟨vo, rfl, own1, hb1⟩
              rw [EO1.out] at own1 ⊢
              dsimp only at own1 ⊢
              obtain ⟨qO, qcO, rfl, -, -⟩ := own1.form
              have OO := Lib.hid own1
              clear own1
              have VB := Lib.hid (VB.out.keep hb1 VB.out.lt)
              try dsimp only
              refine hK.out _ _ ?_ (fun hH2 => ?_)
              · exact hH.trans (hb1.mono hH.size)
              clear hK K
              have hO := hH
              clear hH
              have hH := hH2
              clear hH2
              try simp only [Act.put, List.setIfInBounds_toArray, List.set_cons_zero, List.set_cons_succ]
              have z1 := hb1.size
              refine wpAnyH_take (i := 7) (v := ?_) (by simp only [List.getElem?_toArray, List.getElem?_cons_succ, List.getElem?_cons_zero]; rfl) (by kernel_rfl) (by kernel_rfl) (by kernel_rfl) (by exact fun _ _ _ h => h) (Or.inl ⟨by rfl, ?_⟩) hH ?_
              rotate_left
              · (intro wS hS; clear hS; go_simp; try rfl)
              try simp only [Act.put, List.setIfInBounds_toArray, List.set_cons_zero, List.set_cons_succ]
              refine wpAnyH_take (i := 8) (v := ?_) (by simp only [List.getElem?_toArray, List.getElem?_cons_succ, List.getElem?_cons_zero]; rfl) (by kernel_rfl) (by kernel_rfl) (by kernel_rfl) (by exact fun _ _ _ h => h) (Or.inl ⟨by rfl, ?_⟩) hH ?_
              rotate_left
              · (intro wS hS; clear hS; go_simp; try rfl)
              try simp only [Act.put, List.setIfInBounds_toArray, List.set_cons_zero, List.set_cons_succ]
              refine wpAnyH_take (i := 9) (v := ?_) (by simp only [List.getElem?_toArray, List.getElem?_cons_succ, List.getElem?_cons_zero]; rfl) (by kernel_rfl) (by kernel_rfl) (by kernel_rfl) (by exact fun _ _ _ h => h) (Or.inl ⟨by rfl, ?_⟩) hH ?_
              rotate_left
              · (intro wS hS; clear hS; go_simp; try rfl)
              try simp only [Act.put, List.setIfInBounds_toArray, List.set_cons_zero, List.set_cons_succ]
              refine wpAnyH_ready (rs := [11]) (by kernel_rfl) (by simp) ?_
              refine AllReadyH.cons (by simp only [List.getElem?_toArray, List.getElem?_cons_succ, List.getElem?_cons_zero]; rfl) (fun K hK => ?_) AllReadyH.nil
              have VC := VB
              obtain ⟨y0, y1, y2, y3, y4, y5⟩ := VB.out.all
              go_simp
              have VB := Lib.hid (((VB.out.set0 (.int .i64 R)).set1 (.int .i64 R)).set2 (.slice qO o.length qcO))
              try dsimp only
              refine hK.out _ _ ?_ (fun hH2 => ?_)
              · exact (((hH.setCell PL _).setCell PL _).setCell PL _)
              clear hK K
              have hO := hH
              clear hH
              have hH := hH2
              clear hH2
              try simp only [Act.put, List.setIfInBounds_toArray, List.set_cons_zero, List.set_cons_succ]
              refine wpAnyH_take (i := 12) (v := ?_) (by simp only [List.getElem?_toArray, List.getElem?_cons_succ, List.getElem?_cons_zero]; rfl) (by kernel_rfl) (by kernel_rfl) (by kernel_rfl) (by exact fun _ _ _ h => h) (Or.inl ⟨by rfl, ?_⟩) hH ?_
              rotate_left
              · (intro wS hS; clear hS; go_simp; try rfl)
              try simp only [Act.put, List.setIfInBounds_toArray, List.set_cons_zero, List.set_cons_succ]
              refine wpAnyH_done (by kernel_rfl) ?_ _
              go_wp2_with (fail)
              go_meet
              exact ⟨wr.heap.size, _, rfl, rfl, VB.out, (((OO.out.far (by exact lb1) _).far (by exact lb1) _).far (by exact lb1) _).le (Nat.zero_le _), hH⟩
          case rest =>
            obtain ⟨p15, v15, rfl, rfl, k15, ob15, hb⟩ := hcut
            obtain ⟨qO, qcO, rfl, -, -⟩ := ob15.form
            have nO := ob15.small
            have BL := Lib.hid (BL.out.trans (hb.mono BL.out.size))
            have OA := Lib.hid (OA.out.keep hb)
            have HO := Lib.hid (HO.out.keep hb)
            have KA := Lib.hid (KA.out.step hb)
            have OX := Lib.hid (OX.out.keep hb)
            have KX := Lib.hid (KX.out.step hb)
            have KB := Lib.hid (KB.out.step hb)
            have OB := Lib.hid (OB.out.keep hb)
            have OI := Lib.hid (OI.out.keep hb)
            have OU := Lib.hid (OU.out.keep hb)
            have KU := Lib.hid (KU.out.step hb)
            have OY := Lib.hid (OY.out.keep hb)
            have KY := Lib.hid (KY.out.step hb)
            have KE := Lib.hid (KE.out.step hb)
            have OE := Lib.hid (OE.out.keep hb)
            have B := Lib.hid (stepB B.out hb)
            clear hb
            have KO := Lib.hid k15
            have OO := Lib.hid ob15
            clear k15 ob15
            obtain ⟨cc10_00, cc10_01, cc10_02, -, -, -⟩ := KA.out.all
            have ll10_0 := KA.out.lt
            obtain ⟨cc10_10, cc10_11, cc10_12, -, -, -⟩ := KX.out.all
            have ll10_1 := KX.out.lt
            obtain ⟨cc10_20, cc10_21, cc10_22, -, -, -⟩ := KB.out.all
            have ll10_2 := KB.out.lt
            obtain ⟨cc10_30, cc10_31, cc10_32, -, -, -⟩ := KU.out.all
            have ll10_3 := KU.out.lt
            obtain ⟨cc10_40, cc10_41, cc10_42, -, -, -⟩ := KY.out.all
            have ll10_4 := KY.out.lt
            obtain ⟨cc10_50, cc10_51, cc10_52, -, -, -⟩ := KE.out.all
            have ll10_5 := KE.out.lt
            obtain ⟨cc10_60, cc10_61, cc10_62, -, -, -⟩ := KO.out.all
            have ll10_6 := KO.out.lt
            go_wp2_with (fail)
            refine (iMul R R R R qO aE qcO cE o E _ OO.out.rd OE.out.rd nO nE).mono ?_
            rintro e w7 ⟨vP, rfl, own, hb⟩
            rw [EM.out] at own ⊢
            dsimp only at own ⊢
            obtain ⟨qP, qcP, rfl, -, -⟩ := own.form
            have BL := Lib.hid (BL.out.trans (hb.mono BL.out.size))
            have lke := KE.out.lt
            have OA := Lib.hid (OA.out.keep hb)
            have HO := Lib.hid (HO.out.keep hb)
            have KA := Lib.hid (KA.out.step hb)
            have OX := Lib.hid (OX.out.keep hb)
            have KX := Lib.hid (KX.out.step hb)
            have KB := Lib.hid (KB.out.step hb)
            have OB := Lib.hid (OB.out.keep hb)
            have OI := Lib.hid (OI.out.keep hb)
            have OU := Lib.hid (OU.out.keep hb)
            have KU := Lib.hid (KU.out.step hb)
            have OY := Lib.hid (OY.out.keep hb)
            have KY := Lib.hid (KY.out.step hb)
            have KE := Lib.hid (KE.out.step hb)
            have OE := Lib.hid (OE.out.keep hb)
            have KO := Lib.hid (KO.out.step hb)
            have OO := Lib.hid (OO.out.keep hb)
            have B := Lib.hid (stepB B.out hb)
            clear hb
            have OP := Lib.hid own
            clear own
            have KP : Hid (Blk3 (w7.alloc (.cells #[.int .i64 R, .int .i64 R, .slice qP E'.length qcP] 27)) w7.heap.size 27 (.int .i64 R) (.int .i64 R) (.slice qP E'.length qcP)) := Blk3.at_ _ _ _ _ rfl
            obtain ⟨d0, d1, d2, -, -, -⟩ := KP.out.all
            obtain ⟨g0, g1, g2, f0, f1, f2⟩ := KE.out.all
            have lkw := KE.out.lt
            go_wp2_with (fail)
            go_roundw
            case rel =>
              refine ⟨q + 1, qP, qcP, E', by go_num, HQ.out, ?_, ?_, ?_, E3.out⟩
              · exact ((((BL.out.setCell (Nat.le_refl _) _).setCell (Nat.le_refl _) _).setCell (Nat.le_refl _) _).alloc (by have := BL.out.size; simpa using this) _)
              · exact (KE.out.set3 _ _ _).old _
              · exact ((((OP.out.far (by exact lke) _).far (by exact lke) _).far (by exact lke) _).old _).le (Nat.zero_le _)
            case measure => simp [intOf]; omega
        · have eL : l.take q = l := List.take_of_length_le (by omega)
          have eE := EE.out
          rw [eL, EUO.out] at eE
          have eEU : (⟨true, R, R, E⟩ : MR) = mU := by rw [EU.out, ← eE]
          have EEU := Lib.hid eEU
          clear eL eE eEU
          rcases Bool.eq_false_or_eq_true mY.ok with hy | hy
          rotate_left
          · rw [hy]
            obtain ⟨cc9_00, cc9_01, cc9_02, -, -, -⟩ := KA.out.all
            have ll9_0 := KA.out.lt
            obtain ⟨cc9_10, cc9_11, cc9_12, -, -, -⟩ := KX.out.all
            have ll9_1 := KX.out.lt
            obtain ⟨cc9_20, cc9_21, cc9_22, -, -, -⟩ := KB.out.all
            have ll9_2 := KB.out.lt
            obtain ⟨cc9_30, cc9_31, cc9_32, -, -, -⟩ := KU.out.all
            have ll9_3 := KU.out.lt
            obtain ⟨cc9_40, cc9_41, cc9_42, -, -, -⟩ := KY.out.all
            have ll9_4 := KY.out.lt
            obtain ⟨cc9_50, cc9_51, cc9_52, -, -, -⟩ := KE.out.all
            have ll9_5 := KE.out.lt
            go_wp2_with (fail)
            refine (iSame R C R C qB q1 qcB qc1 xs xs _ OB.out.rd OA.out.rd n1 n1).mono ?_
            rintro e w7 ⟨rfl, hb⟩
            have OA := Lib.hid (OA.out.keep hb)
            have HO := Lib.hid (HO.out.keep hb)
            have KA := Lib.hid (KA.out.step hb)
            have OX := Lib.hid (OX.out.keep hb)
            have KX := Lib.hid (KX.out.step hb)
            have KB := Lib.hid (KB.out.step hb)
            have OB := Lib.hid (OB.out.keep hb)
            have OI := Lib.hid (OI.out.keep hb)
            have OU := Lib.hid (OU.out.keep hb)
            have KU := Lib.hid (KU.out.step hb)
            have OY := Lib.hid (OY.out.keep hb)
            have KY := Lib.hid (KY.out.step hb)
            have KE := Lib.hid (KE.out.step hb)
            have OE := Lib.hid (OE.out.keep hb)
            have B := Lib.hid (stepB B.out hb)
            clear hb
            rw [sameM_self]
            obtain ⟨cc10_00, cc10_01, cc10_02, -, -, -⟩ := KA.out.all
            have ll10_0 := KA.out.lt
            obtain ⟨cc10_10, cc10_11, cc10_12, -, -, -⟩ := KX.out.all
            have ll10_1 := KX.out.lt
            obtain ⟨cc10_20, cc10_21, cc10_22, -, -, -⟩ := KB.out.all
            have ll10_2 := KB.out.lt
            obtain ⟨cc10_30, cc10_31, cc10_32, -, -, -⟩ := KU.out.all
            have ll10_3 := KU.out.lt
            obtain ⟨cc10_40, cc10_41, cc10_42, -, -, -⟩ := KY.out.all
            have ll10_4 := KY.out.lt
            obtain ⟨cc10_50, cc10_51, cc10_52, -, -, -⟩ := KE.out.all
            have ll10_5 := KE.out.lt
            go_wp2_with (fail)
            refine (lUnim mU.r mU.c qU qcU mU.zs _ OU.out.rd nU (by rw [EU.out]; exact fun h => unim_law EUO.out h)).mono ?_
            rintro e w8 ⟨rfl, hb⟩
            have OA := Lib.hid (OA.out.keep hb)
            have HO := Lib.hid (HO.out.keep hb)
            have KA := Lib.hid (KA.out.step hb)
            have OX := Lib.hid (OX.out.keep hb)
            have KX := Lib.hid (KX.out.step hb)
            have KB := Lib.hid (KB.out.step hb)
            have OB := Lib.hid (OB.out.keep hb)
            have OI := Lib.hid (OI.out.keep hb)
            have OU := Lib.hid (OU.out.keep hb)
            have KU := Lib.hid (KU.out.step hb)
            have OY := Lib.hid (OY.out.keep hb)
            have KY := Lib.hid (KY.out.step hb)
            have KE := Lib.hid (KE.out.step hb)
            have OE := Lib.hid (OE.out.keep hb)
            have B := Lib.hid (stepB B.out hb)
            clear hb
            obtain ⟨cc11_00, cc11_01, cc11_02, -, -, -⟩ := KA.out.all
            have ll11_0 := KA.out.lt
            obtain ⟨cc11_10, cc11_11, cc11_12, -, -, -⟩ := KX.out.all
            have ll11_1 := KX.out.lt
            obtain ⟨cc11_20, cc11_21, cc11_22, -, -, -⟩ := KB.out.all
            have ll11_2 := KB.out.lt
            obtain ⟨cc11_30, cc11_31, cc11_32, -, -, -⟩ := KU.out.all
            have ll11_3 := KU.out.lt
            obtain ⟨cc11_40, cc11_41, cc11_42, -, -, -⟩ := KY.out.all
            have ll11_4 := KY.out.lt
            obtain ⟨cc11_50, cc11_51, cc11_52, -, -, -⟩ := KE.out.all
            have ll11_5 := KE.out.lt
            go_wp2_with (fail)
            refine (iSameE (⟨true, R, R, E⟩ : MR) mU aE qU cE qcU _ EEU.out OE.out.rd OU.out.rd nE nU).mono ?_
            rintro e w9 ⟨rfl, hb⟩
            have OA := Lib.hid (OA.out.keep hb)
            have HO := Lib.hid (HO.out.keep hb)
            have KA := Lib.hid (KA.out.step hb)
            have OX := Lib.hid (OX.out.keep hb)
            have KX := Lib.hid (KX.out.step hb)
            have KB := Lib.hid (KB.out.step hb)
            have OB := Lib.hid (OB.out.keep hb)
            have OI := Lib.hid (OI.out.keep hb)
            have OU := Lib.hid (OU.out.keep hb)
            have KU := Lib.hid (KU.out.step hb)
            have OY := Lib.hid (OY.out.keep hb)
            have KY := Lib.hid (KY.out.step hb)
            have KE := Lib.hid (KE.out.step hb)
            have OE := Lib.hid (OE.out.keep hb)
            have B := Lib.hid (stepB B.out hb)
            clear hb
            obtain ⟨cc12_00, cc12_01, cc12_02, -, -, -⟩ := KA.out.all
            have ll12_0 := KA.out.lt
            obtain ⟨cc12_10, cc12_11, cc12_12, -, -, -⟩ := KX.out.all
            have ll12_1 := KX.out.lt
            obtain ⟨cc12_20, cc12_21, cc12_22, -, -, -⟩ := KB.out.all
            have ll12_2 := KB.out.lt
            obtain ⟨cc12_30, cc12_31, cc12_32, -, -, -⟩ := KU.out.all
            have ll12_3 := KU.out.lt
            obtain ⟨cc12_40, cc12_41, cc12_42, -, -, -⟩ := KY.out.all
            have ll12_4 := KY.out.lt
            obtain ⟨cc12_50, cc12_51, cc12_52, -, -, -⟩ := KE.out.all
            have ll12_5 := KE.out.lt
            obtain ⟨cc13_00, cc13_01, cc13_02, -, -, -⟩ := KA.out.all
            have ll13_0 := KA.out.lt
            obtain ⟨cc13_10, cc13_11, cc13_12, -, -, -⟩ := KX.out.all
            have ll13_1 := KX.out.lt
            obtain ⟨cc13_20, cc13_21, cc13_22, -, -, -⟩ := KB.out.all
            have ll13_2 := KB.out.lt
            obtain ⟨cc13_30, cc13_31, cc13_32, -, -, -⟩ := KU.out.all
            have ll13_3 := KU.out.lt
            obtain ⟨cc13_40, cc13_41, cc13_42, -, -, -⟩ := KY.out.all
            have ll13_4 := KY.out.lt
            obtain ⟨cc13_50, cc13_51, cc13_52, -, -, -⟩ := KE.out.all
            have ll13_5 := KE.out.lt
            go_wp2_with (fail)
            go_ret
            exact ⟨rfl, B.out⟩
          rw [hy]
          have EY : Hid (mY = mX) := by
            have h := prod_law EUO.out EO.out MX.out (by have := HmY.out; rw [EU.out] at this; exact this) hy
            show mY = mX
            rw [h, EX.out]
          obtain ⟨cc9_00, cc9_01, cc9_02, -, -, -⟩ := KA.out.all
          have ll9_0 := KA.out.lt
          obtain ⟨cc9_10, cc9_11, cc9_12, -, -, -⟩ := KX.out.all
          have ll9_1 := KX.out.lt
          obtain ⟨cc9_20, cc9_21, cc9_22, -, -, -⟩ := KB.out.all
          have ll9_2 := KB.out.lt
          obtain ⟨cc9_30, cc9_31, cc9_32, -, -, -⟩ := KU.out.all
          have ll9_3 := KU.out.lt
          obtain ⟨cc9_40, cc9_41, cc9_42, -, -, -⟩ := KY.out.all
          have ll9_4 := KY.out.lt
          obtain ⟨cc9_50, cc9_51, cc9_52, -, -, -⟩ := KE.out.all
          have ll9_5 := KE.out.lt
          go_wp2_with (fail)
          refine (iSame R C R C qB q1 qcB qc1 xs xs _ OB.out.rd OA.out.rd n1 n1).mono ?_
          rintro e w7 ⟨rfl, hb⟩
          have OA := Lib.hid (OA.out.keep hb)
          have HO := Lib.hid (HO.out.keep hb)
          have KA := Lib.hid (KA.out.step hb)
          have OX := Lib.hid (OX.out.keep hb)
          have KX := Lib.hid (KX.out.step hb)
          have KB := Lib.hid (KB.out.step hb)
          have OB := Lib.hid (OB.out.keep hb)
          have OI := Lib.hid (OI.out.keep hb)
          have OU := Lib.hid (OU.out.keep hb)
          have KU := Lib.hid (KU.out.step hb)
          have OY := Lib.hid (OY.out.keep hb)
          have KY := Lib.hid (KY.out.step hb)
          have KE := Lib.hid (KE.out.step hb)
          have OE := Lib.hid (OE.out.keep hb)
          have B := Lib.hid (stepB B.out hb)
          clear hb
          rw [sameM_self]
          obtain ⟨cc10_00, cc10_01, cc10_02, -, -, -⟩ := KA.out.all
          have ll10_0 := KA.out.lt
          obtain ⟨cc10_10, cc10_11, cc10_12, -, -, -⟩ := KX.out.all
          have ll10_1 := KX.out.lt
          obtain ⟨cc10_20, cc10_21, cc10_22, -, -, -⟩ := KB.out.all
          have ll10_2 := KB.out.lt
          obtain ⟨cc10_30, cc10_31, cc10_32, -, -, -⟩ := KU.out.all
          have ll10_3 := KU.out.lt
          obtain ⟨cc10_40, cc10_41, cc10_42, -, -, -⟩ := KY.out.all
          have ll10_4 := KY.out.lt
          obtain ⟨cc10_50, cc10_51, cc10_52, -, -, -⟩ := KE.out.all
          have ll10_5 := KE.out.lt
          go_wp2_with (fail)
          refine (lUnim mU.r mU.c qU qcU mU.zs _ OU.out.rd nU (by rw [EU.out]; exact fun h => unim_law EUO.out h)).mono ?_
          rintro e w8 ⟨rfl, hb⟩
          have OA := Lib.hid (OA.out.keep hb)
          have HO := Lib.hid (HO.out.keep hb)
          have KA := Lib.hid (KA.out.step hb)
          have OX := Lib.hid (OX.out.keep hb)
          have KX := Lib.hid (KX.out.step hb)
          have KB := Lib.hid (KB.out.step hb)
          have OB := Lib.hid (OB.out.keep hb)
          have OI := Lib.hid (OI.out.keep hb)
          have OU := Lib.hid (OU.out.keep hb)
          have KU := Lib.hid (KU.out.step hb)
          have OY := Lib.hid (OY.out.keep hb)
          have KY := Lib.hid (KY.out.step hb)
          have KE := Lib.hid (KE.out.step hb)
          have OE := Lib.hid (OE.out.keep hb)
          have B := Lib.hid (stepB B.out hb)
          clear hb
          obtain ⟨cc11_00, cc11_01, cc11_02, -, -, -⟩ := KA.out.all
          have ll11_0 := KA.out.lt
          obtain ⟨cc11_10, cc11_11, cc11_12, -, -, -⟩ := KX.out.all
          have ll11_1 := KX.out.lt
          obtain ⟨cc11_20, cc11_21, cc11_22, -, -, -⟩ := KB.out.all
          have ll11_2 := KB.out.lt
          obtain ⟨cc11_30, cc11_31, cc11_32, -, -, -⟩ := KU.out.all
          have ll11_3 := KU.out.lt
          obtain ⟨cc11_40, cc11_41, cc11_42, -, -, -⟩ := KY.out.all
          have ll11_4 := KY.out.lt
          obtain ⟨cc11_50, cc11_51, cc11_52, -, -, -⟩ := KE.out.all
          have ll11_5 := KE.out.lt
          go_wp2_with (fail)
          refine (sSameE mY mX qY qX qcY qcX _ EY.out OY.out.rd OX.out.rd nY).mono ?_
          rintro e w9 ⟨rfl, hb⟩
          have OA := Lib.hid (OA.out.keep hb)
          have HO := Lib.hid (HO.out.keep hb)
          have KA := Lib.hid (KA.out.step hb)
          have OX := Lib.hid (OX.out.keep hb)
          have KX := Lib.hid (KX.out.step hb)
          have KB := Lib.hid (KB.out.step hb)
          have OB := Lib.hid (OB.out.keep hb)
          have OI := Lib.hid (OI.out.keep hb)
          have OU := Lib.hid (OU.out.keep hb)
          have KU := Lib.hid (KU.out.step hb)
          have OY := Lib.hid (OY.out.keep hb)
          have KY := Lib.hid (KY.out.step hb)
          have KE := Lib.hid (KE.out.step hb)
          have OE := Lib.hid (OE.out.keep hb)
          have B := Lib.hid (stepB B.out hb)
          clear hb
          obtain ⟨cc12_00, cc12_01, cc12_02, -, -, -⟩ := KA.out.all
          have ll12_0 := KA.out.lt
          obtain ⟨cc12_10, cc12_11, cc12_12, -, -, -⟩ := KX.out.all
          have ll12_1 := KX.out.lt
          obtain ⟨cc12_20, cc12_21, cc12_22, -, -, -⟩ := KB.out.all
          have ll12_2 := KB.out.lt
          obtain ⟨cc12_30, cc12_31, cc12_32, -, -, -⟩ := KU.out.all
          have ll12_3 := KU.out.lt
          obtain ⟨cc12_40, cc12_41, cc12_42, -, -, -⟩ := KY.out.all
          have ll12_4 := KY.out.lt
          obtain ⟨cc12_50, cc12_51, cc12_52, -, -, -⟩ := KE.out.all
          have ll12_5 := KE.out.lt
          go_wp2_with (fail)
          refine (iSameE (⟨true, R, R, E⟩ : MR) mU aE qU cE qcU _ EEU.out OE.out.rd OU.out.rd nE nU).mono ?_
          rintro e w10 ⟨rfl, hb⟩
          have OA := Lib.hid (OA.out.keep hb)
          have HO := Lib.hid (HO.out.keep hb)
          have KA := Lib.hid (KA.out.step hb)
          have OX := Lib.hid (OX.out.keep hb)
          have KX := Lib.hid (KX.out.step hb)
          have KB := Lib.hid (KB.out.step hb)
          have OB := Lib.hid (OB.out.keep hb)
          have OI := Lib.hid (OI.out.keep hb)
          have OU := Lib.hid (OU.out.keep hb)
          have KU := Lib.hid (KU.out.step hb)
          have OY := Lib.hid (OY.out.keep hb)
          have KY := Lib.hid (KY.out.step hb)
          have KE := Lib.hid (KE.out.step hb)
          have OE := Lib.hid (OE.out.keep hb)
          have B := Lib.hid (stepB B.out hb)
          clear hb
          obtain ⟨cc13_00, cc13_01, cc13_02, -, -, -⟩ := KA.out.all
          have ll13_0 := KA.out.lt
          obtain ⟨cc13_10, cc13_11, cc13_12, -, -, -⟩ := KX.out.all
          have ll13_1 := KX.out.lt
          obtain ⟨cc13_20, cc13_21, cc13_22, -, -, -⟩ := KB.out.all
          have ll13_2 := KB.out.lt
          obtain ⟨cc13_30, cc13_31, cc13_32, -, -, -⟩ := KU.out.all
          have ll13_3 := KU.out.lt
          obtain ⟨cc13_40, cc13_41, cc13_42, -, -, -⟩ := KY.out.all
          have ll13_4 := KY.out.lt
          obtain ⟨cc13_50, cc13_51, cc13_52, -, -, -⟩ := KE.out.all
          have ll13_5 := KE.out.lt
          obtain ⟨cc14_00, cc14_01, cc14_02, -, -, -⟩ := KA.out.all
          have ll14_0 := KA.out.lt
          obtain ⟨cc14_10, cc14_11, cc14_12, -, -, -⟩ := KX.out.all
          have ll14_1 := KX.out.lt
          obtain ⟨cc14_20, cc14_21, cc14_22, -, -, -⟩ := KB.out.all
          have ll14_2 := KB.out.lt
          obtain ⟨cc14_30, cc14_31, cc14_32, -, -, -⟩ := KU.out.all
          have ll14_3 := KU.out.lt
          obtain ⟨cc14_40, cc14_41, cc14_42, -, -, -⟩ := KY.out.all
          have ll14_4 := KY.out.lt
          obtain ⟨cc14_50, cc14_51, cc14_52, -, -, -⟩ := KE.out.all
          have ll14_5 := KE.out.lt
          go_wp2_with (fail)
          go_ret
          exact ⟨rfl, B.out⟩
  · have hbig' : 1048576 < len0 := by omega
    clear hbig
    go_enter Try.func10, Try.ntmps10
    go_wp2_with (fail)
    refine (big_yes w a0 len0 cap0 hbig').mono ?_
    rintro e w1 ⟨rfl, rfl⟩
    go_wp2_with (fail)
    go_ret
    exact ⟨rfl, Below.refl _ _⟩

/-! ### The row's step -/
set_option maxRecDepth 100000 in
theorem lifted (os : Os) (started : os.Started) (H : Type) (enc : TypeId × Value → H) :
    ReturnsInHanded {} Try.checked os 10 .any (Rows.fnRowOpsSpec.pre6 enc Try.prog Try.f10 Rows.fnRowOpsRow.domain false) (Rows.fnRowOpsSpec.post enc Try.prog Try.f10 false true false false) := by
  refine returnsInHanded_of_change (C := Try.checked) own started (by kernel_rfl) Try.func10
    (ChangeSpec.witness6 (enc := enc) (C := Try.checked) false ⟨#[], #[.slice none 0 0], []⟩ 8 (by kernel_rfl) (by kernel_rfl) (by kernel_rfl) (by kernel_rfl)) ?_
  intro W base args ds gs before hval0 hW hcnd _
  have hval : ∀ (j : Nat) t v, Try.f10.params[j]? = some t → args[j]? = some v → Value.okWide Try.prog W .any base t v := hval0
  have hW' := hW
  obtain ⟨p, q, hA0, hV, rfl, hfz, hnd⟩ := hW
  have hA : DataW.TrodAll enc Try.prog W 0 (fun _ => true) true Try.f10.params.toList args.toList ds p := hA0
  rw [Try.params10] at hA hval
  obtain ⟨v0, vs0, d0, ds0, p0, q0, hargs, rfl, rfl, h0, r0⟩ := trodAll_cons hA
  obtain ⟨rfl, rfl, rfl⟩ := trodAll_nil r0
  obtain rfl : args = #[v0] := by cases args; simp_all
  obtain ⟨rfl, rfl⟩ := trodVars_none hV
  have k0 := h0
  have lt0 : ∀ x ∈ p0, x.block < W.heap.size := by obtain ⟨m, hm⟩ := k0; exact DataW.trod_lt m _ _ _ hm
  obtain ⟨a0, len0, cap0, rfl⟩ := okWide_slice Try.underlying38 (hval 0 38 v0 rfl rfl)
  obtain ⟨fuel0, hf0⟩ := h0
  obtain ⟨z0, w0⟩ : ∃ zs, IsRow .u8 W a0 len0 cap0 zs := isRow_of Try.underlying38 Try.underlying5 (by kernel_rfl) (by simpa [Value.cells] using hf0)
  clear hA0 hval0
  refine (walk a0 len0 cap0 z0 W w0).mono fun e W' ⟨he, bel⟩ => ?_
  subst he
  exact ⟨_, rfl, _, _, _, [], _, [], hW', trodAll_mk1 (shut_bool Try.underlying4 _), (trodAll_cons_mk (Below.trod laidOut (by kernel_rfl) (of_decide_eq_true (by kernel_rfl)) k0 bel lt0) trodAll_mk0), rfl, bel.frame _, fun h => by cases h⟩

theorem over : Rows.fnRowOpsRow.holds Try.pinned (OpenSpec.ofChange Rows.fnRowOpsSpec) :=
  OpenClaim.holds_of_wide 10 Try.f10 rfl rfl rfl rfl rfl rfl rfl ⟨rfl, rfl, rfl, rfl, rfl⟩ rfl rfl rfl rfl rfl (by kernel_rfl) Try.func10 (by kernel_rfl)
    (of_decide_eq_true (by kernel_rfl)) (by unfold Func.isWrapper; first | (rw [if_pos (by decide +kernel)]; kernel_rfl) | (rw [if_neg (by decide +kernel)]; exact ⟨rfl, rfl⟩))
    (fun os started H enc _ => lifted os started H enc)

/-- ████ THE STATEMENT ████ -/
theorem proved : Rows.FnRowOpsSaid := over
#print axioms proved
end Go.Proofs.Ytdnajkoeojlnbaa.fnRowOps
