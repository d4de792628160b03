/-
  Texts of this seat, joined: ZATmI · ZACelA · ZARgT · ZARgP · ZALfI · ZAPbI · ZARq · ZARatS · ZARatI · ZARatI2 · ZARatOpS · ZARatOpI · ZARtI · ZARcIa · ZAReS · ZAReT
-/
import Derived.Test.YtcapddcmnjeloaaGreatDoorProg
import Derived.OrdersHeld
import Derived.RegionTactic
import Derived.Deep.RegionHeld
import Derived.StillTailTactics
import Derived.BigQuiet
import Derived.Deep.CutBlock
import Derived.Deep.DeepCutAuto
import Derived.ChangeAlike
import Derived.Deep.RegionWith
import Derived.Deep.QuietTactic
import Derived.Test.YtcapddcmnjeloaaGreatDoorPk1
import Derived.Test.YtcapddcmnjeloaaGreatDoorPk2
import Derived.Test.YtcapddcmnjeloaaGreatDoorPk3
import Derived.Test.YtcapddcmnjeloaaGreatDoorPk4
import Derived.Test.YtcapddcmnjeloaaGreatDoorPk5

section
/-
  Chapter 8, in the program: fitsRows and timesMod.
-/
namespace Go.Proofs.YtcapddcmnjeloaaGreatDoor
set_option maxRecDepth 100000
open Go.RowKit
theorem isMat_col {L : Nat} {bs : List Int} (hL : L ≤ 24) (hl : bs.length = L) (hn : nums bs = true) : isMat L 1 bs = true := by
  have h1 : (bs.length : Int) = (L : Int) * 1 := by omega
  unfold isMat
  simp only [Bool.and_eq_true, decide_eq_true_eq]
  exact ⟨⟨⟨⟨by omega, by omega⟩, ⟨by decide, by decide⟩⟩, h1⟩, hn⟩
def fitR (r : Int) (bs : List Int) : Bool := decide ((bs.length : Int) = r) && isMat bs.length 1 bs
theorem fitR_eq {n : Nat} {bs : List Int} (hn : n ≤ 24) : fitR n bs = (decide ((bs.length : Int) = n) && nums bs) := by
  unfold fitR
  by_cases h : (bs.length : Int) = n
  · rw [decide_eq_true h]
    cases hb : nums bs with
    | true => rw [isMat_col (by omega) rfl hb]
    | false =>
      cases hm : isMat (bs.length : Int) 1 bs with
      | false => rfl
      | true => rw [(isMat_says hm).2.2.2] at hb; cases hb
  · rw [decide_eq_false h]; rfl
set_option maxHeartbeats 1000000 in
theorem iFits (r c : Int) (a : Option Addr) (L m : Nat) (ab : Option Addr) (mb : Nat) (bs : List Int) (w : World) (hb : Rd w ab bs) (hbn : bs.length ≤ 16777216) :
    Calls Tryz.prog 74 #[.agg #[.int .i64 r, .int .i64 c, .slice a L m], .slice ab bs.length mb] w (Gives (.bool (fitR r bs)) w) := by
  have K0 : Hid (Blk3 (w.alloc (.cells #[.int .i64 r, .int .i64 c, .slice a L m] 26)) w.heap.size 26 (.int .i64 r) (.int .i64 c) (.slice a L m)) := Blk3.at_ _ _ _ _ rfl
  have B0 : Hid (Below w.heap.size w (w.alloc (.cells #[.int .i64 r, .int .i64 c, .slice a L m] 26))) := (Below.refl _ _).alloc (Nat.le_refl _) _
  have IM : Hid (∀ w', Below w.heap.size w w' → Calls Tryz.prog 43 #[.agg #[.int .i64 (bs.length : Int), .int .i64 1, .slice ab bs.length mb]] w' (Gives (.bool (isMat (bs.length : Int) 1 bs)) w')) := fun w' h' => iIsMat (bs.length : Int) 1 ab mb bs w' (hb.below h') hbn
  have F : Hid (fitR r bs = (decide ((bs.length : Int) = r) && isMat bs.length 1 bs)) := rfl
  rw [F.out]
  generalize isMat (bs.length : Int) 1 bs = y at IM ⊢
  generalize bs.length = l at IM hbn ⊢
  clear hb F
  obtain ⟨k0, k1, k2, -, -, -⟩ := K0.out.all
  by_cases h : (l : Int) = r
  · subst h
    rw [decide_eq_true rfl, Bool.true_and]
    go_enter Tryz.func74, Tryz.ntmps74
    go_wp2_with fail
    with_reducible refine (IM.out _ B0.out).mono ?_
    rintro e w1 ⟨rfl, hb1⟩
    have B1 := Lib.hid (B0.out.trans (hb1.mono B0.out.size))
    clear hb1
    go_wp2_with fail
    go_ret
    exact ⟨rfl, B1.out⟩
  · have e1 : ((l : Int) == r) = false := by simpa using h
    rw [decide_eq_false h, Bool.false_and]
    go_enter Tryz.func74, Tryz.ntmps74
    go_wp2_with fail
    go_ret
    exact ⟨rfl, B0.out⟩
set_option maxHeartbeats 4000000 in
theorem iTimes (n N : Nat) (p : Int) (q : Option Addr) (cap : Nat) (vs : List Int) (ab : Option Addr) (mb : Nat) (bs : List Int) (w : World) (hv : Rd w q vs) (hN : n * n = N) (hl : vs.length = N) (hcan : CanL p vs) (hq : Spot q) (hcap : N ≤ cap) (hq0 : q = none → cap = 0) (h12 : n ≤ 12) (hp1 : 2 ≤ p) (hp2 : p ≤ 10000) (hb : Rd w ab bs) (hbl : bs.length = n) (hbd : ∀ j, j < n → -2400000000 ≤ bs.getD j 0 ∧ bs.getD j 0 ≤ 2400000000) :
    Calls Tryz.prog 164 #[.agg #[.int .i64 n, .int .i64 n, .slice q N cap], .slice ab n mb, .int .i64 p] w (Copy (solL p n vs bs) w) := by
  have A5 : Hid (Blk3 (w.alloc (.cells #[.int .i64 n, .int .i64 n, .slice q N cap] 26)) w.heap.size 26 (.int .i64 n) (.int .i64 n) (.slice q N cap)) := Blk3.at_ _ _ _ _ rfl
  have B5 : Hid (Below w.heap.size w (w.alloc (.cells #[.int .i64 n, .int .i64 n, .slice q N cap] 26))) := (Below.refl _ _).alloc (Nat.le_refl _) _
  have lN : N ≤ 144 := by rw [← hN]; exact Nat.mul_le_mul h12 h12
  have DLN : Hid (∀ i, i < n → i * n + n ≤ N) := fun i hi => by rw [← hN, ← Nat.succ_mul]; exact Nat.mul_le_mul_right _ hi
  have HV := Lib.hid hv
  have HB := Lib.hid hb
  have HL := Lib.hid hl
  have HN := Lib.hid hN
  have HBL := Lib.hid hbl
  have HBD := Lib.hid hbd
  have HC := Lib.hid hcan
  have RW : Hid (∀ i, i < n → ∀ w', Calls Tryz.prog 44 #[.agg #[.int .i64 n, .int .i64 n, .slice q N cap], .int .i64 i] w' (RowAt q (i * n) n w')) := fun i hi w' => iRowIn n n i (i * n) N cap q w' hq rfl (DLN.out i hi) hcap hq0 (by omega) (by omega)
  have np : ¬ p = 0 := by omega
  have GO : Hid (∀ i j, Int.tmod (svF p n vs bs i j + Int.tmod (vs.getD (i * n + j) 0 * bs.getD j 0) p + p) p = svF p n vs bs i (j + 1)) := fun i j => svF_go (by omega) n vs bs i j
  clear hv hb hl hN hbl hbd hcan hq hcap hq0
  have hmk := makeInts n (by omega)
  obtain ⟨z0, z1, z2, -, -, -⟩ := A5.out.all
  go_enter Tryz.func164, Tryz.ntmps164
  generalize hW5 : w.alloc (.cells #[.int .i64 n, .int .i64 n, .slice q N cap] 26) = W5 at A5 B5 z0 z1 z2
  have I6 : Hid (Ints (W5.alloc (.cells (madeCells #[.int .i64 0] n) 3)) W5.heap.size (svTo p n vs bs 0 0)) := by
    have := (IntsC.made (w := W5) n (by omega) rfl).ints
    rw [svTo_zero]
    exact this
  have E6 : Hid (Below W5.heap.size W5 (W5.alloc (.cells (madeCells #[.int .i64 0] n) 3))) := (Below.refl _ _).alloc (Nat.le_refl _) _
  have la5 := A5.out.lt
  have LW := B5.out.size
  have Q5 : Hid (Rd W5 q vs) := HV.out.below B5.out
  have C5 : Hid (Rd W5 ab bs) := HB.out.below B5.out
  subst hW5
  go_upto_region 2 with fail
  generalize hW5 : w.alloc (.cells #[.int .i64 n, .int .i64 n, .slice q N cap] 26) = W5 at A5 B5 z0 z1 z2 I6 E6 la5 LW Q5 C5 ⊢
  generalize W5.alloc (.cells (madeCells #[.int .i64 0] n) 3) = W6 at I6 E6 ⊢
  have S5 : W5.heap.size = w.heap.size + 1 := by rw [← hW5]; simp
  rw [S5] at I6 E6 la5 LW
  obtain ⟨g, hg⟩ : ∃ g, w.heap.size + 1 = g := ⟨_, rfl⟩
  rw [hg] at I6 E6 la5 LW S5 ⊢
  have LG := Lib.hid S5
  clear hmk hg z0 z1 z2 hW5 S5
  have SRC : Hid (∀ i q7, i < n → (∀ g0 o : Nat, q = some ⟨g0, o, none⟩ → 0 < n → q7 = some ⟨g0, o + i * n, none⟩) → ∀ wx, W6.grownBy wx (some g) → Rd wx q7 (rwL n (mxC n vs i))) := fun i q7 hlt hq7 wx hgx => by
    have h0 : 0 < N := by have := DLN.out i hlt; omega
    have h1 : Rd wx q vs := (Q5.out.below (by rw [LG.out]; exact E6.out)).one hgx (fun b o e e2 => by
      subst e2
      obtain ⟨b', o', e', hc'⟩ := Q5.out 0 (by rw [HL.out]; exact h0)
      rw [e] at e'
      injection e' with e'
      injection e' with e' _
      subst e'
      have := World.block_lt_of_cell? W5 _ hc'
      simp at this
      have := LG.out
      omega)
    exact h1.row (by rw [HL.out, HN.out]) hlt hq7
  have COL : Hid (∀ wx, W6.grownBy wx (some g) → Rd wx ab bs) := fun wx hgx => by
    rcases Nat.eq_zero_or_pos bs.length with h0 | h0
    · rw [List.eq_nil_of_length_eq_zero h0]; exact Rd.nil _ _
    exact (C5.out.below (by rw [LG.out]; exact E6.out)).one hgx (fun b o e e2 => by
      subst e2
      obtain ⟨b', o', e', hc'⟩ := C5.out 0 h0
      rw [e] at e'
      injection e' with e'
      injection e' with e' _
      subst e'
      have := World.block_lt_of_cell? W5 _ hc'
      simp at this
      have := LG.out
      omega)
  go_wp2_with fail
  go_loopw [8, 9, 10, 16] (fun _ _ _ v16 wr => ∃ i : Nat, v16 = .int .i64 i ∧ i ≤ n ∧ Ints wr g (svTo p n vs bs i 0) ∧ W6.grownBy wr (some g)) (fun _ _ _ v16 _ => n - (intOf v16).toNat)
  case atStart => exact ⟨0, rfl, by omega, I6.out, World.grownBy.refl _ _⟩
  case round =>
    clear I6
    obtain ⟨i, rfl, hi, hI, hgr⟩ := hrel
    have I := Lib.hid hI
    have G := Lib.hid hgr
    clear hI hgr
    by_cases hlt : i < n
    · have A7 := Lib.hid ((A5.out.keep E6.out la5).keepOne G.out (by omega))
      obtain ⟨a0, a1, a2, -, -, -⟩ := A7.out.all
      go_wp2_with fail
      refine (RW.out i hlt _).mono ?_
      rintro e w7 ⟨q7, m7, rfl, hm7, hq7, -, hb7⟩
      have I7 := Lib.hid (I.out.keep hb7 I.out.lt)
      have G7 := Lib.hid (G.out.trans (grown_of_below hb7 (some g)))
      have SRC := Lib.hid (SRC.out i q7 hlt hq7)
      clear hb7 a0 a1 a2 hq7 A7
      go_wp2_with fail
      go_loopw [9, 10, 23] (fun _ _ v23 wr => ∃ j : Nat, v23 = .int .i64 j ∧ j ≤ n ∧ Ints wr g (svTo p n vs bs i j) ∧ W6.grownBy wr (some g)) (fun _ _ v23 _ => n - (intOf v23).toNat)
      case atStart => exact ⟨0, rfl, by omega, I7.out, G7.out⟩
      case round =>
        clear I G I7 G7
        obtain ⟨j, rfl, hj, hI, hgr⟩ := hrel
        have I := Lib.hid hI
        have G := Lib.hid hgr
        clear hI hgr
        by_cases hjl : j < n
        · obtain ⟨b1, o1, rfl, hc1⟩ := SRC.out _ G.out j (by rw [rwL_length]; exact hjl)
          rw [rwL_at hjl] at hc1
          obtain ⟨b2, o2, rfl, hc2⟩ := COL.out _ G.out j (by rw [HBL.out]; exact hjl)
          have hold := I.out.cell (i := i) (by rw [svTo_length]; exact hlt)
          have hfr := I.out.free i
          rw [svTo_at hlt] at hold
          have ST := Lib.hid (svTo_set (p := p) (n := n) (vs := vs) (bs := bs) (i := i) (j := j))
          have SF := GO.out i j
          have s2 := svF_can (show 0 < p by omega) n vs bs i j
          obtain ⟨s, hs⟩ : ∃ s, svF p n vs bs i j = s := ⟨_, rfl⟩
          rw [hs] at SF s2 hold
          obtain ⟨z1, z2⟩ := HC.out (i * n + j) (by rw [HL.out, ← HN.out]; exact idx_lt hlt hjl)
          have m0 := HBD.out j hjl
          rw [show mxC n vs i j = vs.getD (i * n + j) 0 from rfl] at hc1
          generalize vs.getD (i * n + j) 0 = u at hc1 z1 z2 SF
          generalize bs.getD j 0 = y at hc2 m0 SF
          obtain ⟨m3, m4⟩ := mul_abs (A := 10000) (B := 2400000000) (show -10000 ≤ u ∧ u ≤ 10000 by omega) m0
          obtain ⟨o, ho⟩ : ∃ o, u * y = o := ⟨_, rfl⟩
          have v2 : IntKind.i64.wrap (u * y) = o := by rw [← ho]; exact IntWalk.i64_in _ (by omega)
          rw [ho] at m3 m4 SF
          have t1 : -p < Int.tmod o p ∧ Int.tmod o p < p := ⟨Int.lt_tmod_of_pos _ (by omega), Int.tmod_lt_of_pos _ (by omega)⟩
          obtain ⟨t, ht⟩ : ∃ t, Int.tmod o p = t := ⟨_, rfl⟩
          rw [ht] at t1 SF
          obtain ⟨f, hf⟩ : ∃ f, s + t = f := ⟨_, rfl⟩
          have v3 : IntKind.i64.wrap (s + t) = f := by rw [← hf]; exact IntWalk.i64_in _ (by omega)
          have f1 : -10000 ≤ f ∧ f ≤ 20000 := by omega
          rw [hf] at SF
          obtain ⟨k, hk⟩ : ∃ k, f + p = k := ⟨_, rfl⟩
          have v4 : IntKind.i64.wrap (f + p) = k := by rw [← hk]; exact IntWalk.i64_in _ (by omega)
          rw [hk] at SF
          have IS : Hid (Ints (wr.drew.setCell ⟨g, i, none⟩ (.int .i64 (Int.tmod k p))) g (svTo p n vs bs i (j + 1))) := by
            have := I.out.drew.set i (Int.tmod k p)
            rw [SF, ST.out] at this
            rw [SF]
            exact this
          have GS := Lib.hid (grown_set_one (a := ⟨g, i, none⟩) (grown_drew_one G.out) rfl (.int .i64 (Int.tmod k p)))
          clear ho hf hs SF hk f1
          go_wp2_with fail
          go_still_tail 20, (by kernel_rfl)
          go_wp2_with fail
          go_roundw
          case rel => exact ⟨j + 1, by go_num, by omega, IS.out, GS.out⟩
          case measure => simp [intOf]; omega
        · obtain rfl : n = j := by omega
          have RR : Hid (svTo p n vs bs i n = svTo p n vs bs (i + 1) 0) := svTo_row
          rw [RR.out] at I
          clear hjl
          go_wp2_with fail
          go_roundw
          case rel => exact ⟨i + 1, by go_num, by omega, I.out, G.out⟩
          case measure => simp [intOf]; omega
    · obtain rfl : n = i := by omega
      have BF : Hid (Below w.heap.size w wr) := (B5.out.trans ((by rw [LG.out]; exact E6.out : Below W5.heap.size W5 W6).mono (by rw [LG.out]; exact LW))).trans (below_of_one G.out LW (by have := E6.out.size; have := LG.out; omega))
      have LS : (svTo p n vs bs n 0).length = n := svTo_length _ _ _ _ _ _
      have SA : Hid (svTo p n vs bs n 0 = solL p n vs bs) := svTo_all _ _ _ _
      go_wp2_with fail
      go_ret
      refine ⟨_, rfl, ?_, BF.out⟩
      rw [← SA.out]
      exact .inr ⟨g, n, by rw [LS]; rfl, LW, I.out, by rw [LS]; exact Nat.le_refl _, by rw [LS]; omega⟩
end Go.Proofs.YtcapddcmnjeloaaGreatDoor
end

section
/-
  What cutting out a row asks of a matrix's cells.
-/
namespace Go.Proofs.YtcapddcmnjeloaaGreatDoor
open Go.RowKit
structure CelA (a : Option Addr) (L m : Nat) : Prop where
  spot : Spot a
  le : L ≤ m
  nil : a = none → m = 0
theorem Own.celA {B N cap : Nat} {w : World} {q : Option Addr} {zs : List Int} (h : Own B w (.slice q N cap) zs) : CelA q N cap := by
  rcases h with ⟨e, -⟩ | ⟨g, c, e, -, -, h3, -⟩
  · injection e with e1 e2 e3
    subst e1 e2 e3
    exact ⟨.inl rfl, Nat.le_refl _, fun _ => rfl⟩
  · injection e with e1 e2 e3
    subst e1 e2 e3
    exact ⟨Spot.of _ _, h3, fun h => by cases h⟩
end Go.Proofs.YtcapddcmnjeloaaGreatDoor
end

section
/-
  A region that draws its order and stores, at its end, into cells that it loads: a condition on the world is shown again behind each operation but those that come after all loads. No function of the program is named.
-/
namespace Go.Proofs.YtcapddcmnjeloaaGreatDoor
theorem two_only {p : Nat → Prop} (a b : Nat) (ha : p a) (hb : p b) : ∀ j, (j == a || j == b) = true → p j := fun j hj => by
  rw [Bool.or_eq_true, beq_iff_eq, beq_iff_eq] at hj
  rcases hj with rfl | rfl
  · exact ha
  · exact hb
section
variable {P : Program} {ops : Array Oper} {Q : Exit → Act → World → Prop} {md : Region.Mode} {S : World → Prop} {T : Nat → Bool}
def anc (md : Region.Mode) (ops : Array Oper) (i : Nat) : Nat → Nat → Bool
  | 0, _ => false
  | f + 1, j => match ops[j]? with
    | some o => o.after.any fun e => Region.binds md e && (e.on == i || anc md ops i f e.on)
    | none => false
def closedB (md : Region.Mode) (ops : Array Oper) (listed : Array Bool) : Bool :=
  (List.range ops.size).all fun j => match ops[j]? with
    | some o => !(listed.getD j false) || o.after.all fun e => !(Region.binds md e) || listed.getD e.on false
    | none => true
def Closed (md : Region.Mode) (ops : Array Oper) (listed : Array Bool) : Prop := ∀ (j : Nat) (o : Oper), ops[j]? = some o → listed.getD j false = true → ∀ e ∈ o.after, Region.binds md e = true → listed.getD e.on false = true
theorem closed_of {listed : Array Bool} (h : closedB md ops listed = true) : Closed md ops listed := fun j o ho hl e he hb => by
  unfold closedB at h
  rw [List.all_eq_true] at h
  have hj : j < ops.size := by
    rcases Nat.lt_or_ge j ops.size with h1 | h1
    · exact h1
    · rw [Array.getElem?_eq_none h1] at ho; cases ho
  have h1 := h j (List.mem_range.mpr hj)
  rw [ho] at h1
  dsimp only at h1
  rw [hl] at h1
  simp only [Bool.not_true, Bool.false_or] at h1
  rw [Array.all_eq_true_iff_forall_mem] at h1
  have h2 := h1 e he
  rw [hb] at h2
  simpa using h2
theorem Closed.set {listed : Array Bool} {i : Nat} (h : Closed md ops listed) (hr : i ∈ Region.ready md ops listed) : Closed md ops (listed.setIfInBounds i true) := fun j o ho hl e he hb => by
  by_cases hji : i = j
  · subst hji
    obtain ⟨-, o', ho', hall⟩ := mem_ready.1 hr
    rw [ho] at ho'
    cases ho'
    exact getD_set_true (hall e he hb)
  · rw [getD_set_ne false hji] at hl
    exact getD_set_true (h j o ho hl e he hb)
theorem anc_unlisted {listed : Array Bool} {i : Nat} (h : Closed md ops listed) (hi : listed.getD i false = false) : ∀ (f j : Nat), anc md ops i f j = true → listed.getD j false = false
  | 0, j, ha => by cases ha
  | f + 1, j, ha => by
    unfold anc at ha
    cases ho : ops[j]? with
    | none => rw [ho] at ha; cases ha
    | some o =>
      rw [ho] at ha
      dsimp only at ha
      rw [Array.any_eq_true'] at ha
      obtain ⟨e, he, hb⟩ := ha
      rw [Bool.and_eq_true, Bool.or_eq_true] at hb
      cases hl : listed.getD j false with
      | false => rfl
      | true =>
        have h1 := h j o ho hl e he hb.1
        rcases hb.2 with h2 | h2
        · have e2 : e.on = i := by simpa using h2
          rw [e2, hi] at h1
          cases h1
        · rw [anc_unlisted h hi f e.on h2] at h1
          cases h1
theorem anc_not_ready {listed : Array Bool} {i j f : Nat} (h : Closed md ops listed) (hi : listed.getD i false = false) (ha : anc md ops i f j = true) : j ∉ Region.ready md ops listed := fun hr => by
  have h1 := h.set hr
  obtain ⟨-, o, ho, hall⟩ := mem_ready.1 hr
  cases f with
  | zero => cases ha
  | succ f =>
    unfold anc at ha
    rw [ho] at ha
    dsimp only at ha
    rw [Array.any_eq_true'] at ha
    obtain ⟨e, he, hb⟩ := ha
    rw [Bool.and_eq_true, Bool.or_eq_true] at hb
    have h2 := hall e he hb.1
    rcases hb.2 with h3 | h3
    · have e2 : e.on = i := by simpa using h3
      rw [e2, hi] at h2
      cases h2
    · rw [anc_unlisted h hi f e.on h3] at h2
      cases h2
def wpAnyT (P : Program) (md : Region.Mode) (ops : Array Oper) (Q : Exit → Act → World → Prop) (S : World → Prop) (T : Nat → Bool) : Nat → Array Bool → Act → World → Prop
  | 0, listed, a, w => Region.ready md ops listed = [] ∧ Q .normal a w
  | fuel + 1, listed, a, w =>
    (Region.ready md ops listed = [] → Q .normal a w) ∧
    ∀ i ∈ Region.ready md ops listed, wpOp P ops Q i (fun a' w' => (T i = false → S w') ∧ wpAnyT P md ops Q S T fuel (listed.setIfInBounds i true) a' w') a w
theorem wpAny_of_T : ∀ (fuel : Nat) (listed : Array Bool) (a : Act) (w : World), wpAnyT P md ops Q S T fuel listed a w → wpAny P md ops Q fuel listed a w
  | 0, _, _, _, h => h
  | fuel + 1, _, _, _, h => ⟨h.1, fun i hi => wpOp_mono (fun a' w' h' => wpAny_of_T fuel _ a' w' h'.2) (h.2 i hi)⟩
theorem getD_swap {listed : Array Bool} {i : Nat} (h : listed.getD i true = false) : listed.getD i false = false := by
  rcases Nat.lt_or_ge i listed.size with h' | h'
  · simp [h'] at h ⊢; exact h
  · simp [Array.getElem?_eq_none h'] at h
theorem wpAnyT_first {i : Nat} {oi : Oper} {v : Value} (hi : ops[i]? = some oi) (hsel : ∀ (j : Nat) (o : Oper) cs b, ops[j]? = some o → o.op ≠ .select cs b)
    (hQ : ∀ c a w, Q (.panic c) (a.put oi.dst v) w → Q (.panic c) a w) (hT : ∀ j, T j = true → anc md ops i ops.size j = true) :
    ∀ (fuel : Nat) (listed : Array Bool) (a : Act) (w : World), Closed md ops listed →
      (∀ j oj, ops[j]? = some oj → j ≠ i → listed.getD j true = false → (∀ e ∈ oj.after, Region.binds md e = true → e.on ≠ i) → oi.apart ops oj = true) →
      i ∈ Region.ready md ops listed → YieldsIf P ops S oi v a → S w →
      wpAnyT P md ops Q S T fuel (listed.setIfInBounds i true) (a.put oi.dst v) w → wpAnyT P md ops Q S T (fuel + 1) listed a w := by
  intro fuel
  induction fuel with
  | zero =>
    intro listed a w _ _ hr hy hS H
    refine ⟨fun h => (by rw [h] at hr; cases hr), fun j hj => ?_⟩
    by_cases hji : j = i
    · subst hji; exact hy.wpOp hi hS ⟨fun _ => hS, H⟩
    · have := ready_mono hj hji
      rw [H.1] at this
      cases this
  | succ fuel ih =>
    intro listed a w hcl hfree hr hy hS H
    refine ⟨fun h => (by rw [h] at hr; cases hr), fun j hj => ?_⟩
    by_cases hji : j = i
    · subst hji; exact hy.wpOp hi hS ⟨fun _ => hS, H⟩
    · have h1 := H.2 j (ready_mono hj hji)
      have hli := getD_swap (mem_ready.1 hr).1
      have hTj : T j = false := by
        cases hb : T j with
        | false => rfl
        | true => exact absurd hj (anc_not_ready hcl hli (hT j hb))
      obtain ⟨hjun, oj, hoj, hall⟩ := mem_ready.1 hj
      have hnot : ∀ e ∈ oj.after, Region.binds md e = true → e.on ≠ i := fun e he hb heq => by
        have h1 := hall e he hb
        rw [heq, hli] at h1
        cases h1
      have h2 := wpOp_putIf hoj (hfree j oj hoj hji hjun hnot) (fun cs b => hsel i oi cs b hi) (fun cs b => hsel j oj cs b hoj) hQ hy h1
      have hfree' : ∀ k ok, ops[k]? = some ok → k ≠ i → (listed.setIfInBounds j true).getD k true = false →
          (∀ e ∈ ok.after, Region.binds md e = true → e.on ≠ i) → oi.apart ops ok = true := fun k ok hk hki hun hno => by
        refine hfree k ok hk hki ?_ hno
        by_cases hjk : j = k
        · subst hjk; exact hjun
        · rw [getD_set_ne true hjk] at hun; exact hun
      refine wpOp_mono (fun a' w' h3 => ⟨h3.2.1, ih (listed.setIfInBounds j true) a' w' (hcl.set hj) hfree' (ready_mono hr (Ne.symm hji)) h3.1 (h3.2.1 hTj) ?_⟩) h2
      rw [Array.setIfInBounds_comm _ _ hji]
      exact h3.2.2
theorem wpAnyT_take {i : Nat} {oi : Oper} {v : Value} {fuel : Nat} {listed : Array Bool} {a : Act} {w : World} (hi : ops[i]? = some oi)
    (hs : Region.noSelect ops = true) (hf : Region.free md ops listed i = true) (hr : (Region.ready md ops listed).contains i = true) (hcl : closedB md ops listed = true)
    (hT : ∀ j, T j = true → anc md ops i ops.size j = true)
    (hQ : ∀ c a w, Q (.panic c) (a.put oi.dst v) w → Q (.panic c) a w) (hy : YieldsIf P ops S oi v a) (hS : S w)
    (h : wpAnyT P md ops Q S T fuel (listed.setIfInBounds i true) (a.put oi.dst v) w) : wpAnyT P md ops Q S T (fuel + 1) listed a w :=
  wpAnyT_first hi (Region.noSelect_spec hs) hQ hT fuel listed a w (closed_of hcl) (Region.free_spec hi hf) (by simpa using hr) hy hS h
theorem wpAnyT_done {listed : Array Bool} {a : Act} {w : World} (hr : Region.ready md ops listed = []) (h : Q .normal a w) :
    ∀ fuel, wpAnyT P md ops Q S T fuel listed a w
  | 0 => ⟨hr, h⟩
  | _ + 1 => ⟨fun _ => h, by rw [hr]; simp⟩
def AllReadyT (P : Program) (md : Region.Mode) (ops : Array Oper) (Q : Exit → Act → World → Prop) (S : World → Prop) (T : Nat → Bool) (fuel : Nat) (listed : Array Bool) (a : Act) (w : World) (rs : List Nat) : Prop :=
  ∀ i ∈ rs, wpOp P ops Q i (fun a' w' => (T i = false → S w') ∧ wpAnyT P md ops Q S T fuel (listed.setIfInBounds i true) a' w') a w
theorem AllReadyT.nil {fuel : Nat} {listed : Array Bool} {a : Act} {w : World} : AllReadyT P md ops Q S T fuel listed a w [] := fun _ h => by cases h
theorem AllReadyT.cons {fuel : Nat} {listed : Array Bool} {a : Act} {w : World} {i : Nat} {o : Oper} {rs : List Nat} (ho : ops[i]? = some o)
    (h : ∀ K' : Act → World → Prop, Shut (∀ a w, (T i = false → S w) → wpAnyT P md ops Q S T fuel (listed.setIfInBounds i true) a w → K' a w) → if Region.wanted o (yielded ops a.tmps) = true then Oper.wp P o a w K' Q else K' (a.put o.dst undef) w)
    (hs : AllReadyT P md ops Q S T fuel listed a w rs) : AllReadyT P md ops Q S T fuel listed a w (i :: rs) := fun j hj => by
  rcases List.mem_cons.1 hj with rfl | hj
  · exact wpOp_step ho (fun K' hK => h K' (fun a w hS hW => hK a w ⟨hS, hW⟩))
  · exact hs j hj
theorem wpAnyT_ready {rs : List Nat} {fuel : Nat} {listed : Array Bool} {a : Act} {w : World} (hr : Region.ready md ops listed = rs) (hne : rs ≠ [])
    (h : AllReadyT P md ops Q S T fuel listed a w rs) : wpAnyT P md ops Q S T (fuel + 1) listed a w := ⟨fun h0 => absurd (hr ▸ h0) hne, hr ▸ h⟩
end
end Go.Proofs.YtcapddcmnjeloaaGreatDoor
end

section
/-
  A region that draws its order and stores, at its end, into cells that it loads: outside of a fence. No function of the program is named.
-/
namespace Go.Proofs.YtcapddcmnjeloaaGreatDoor
theorem one_only {p : Nat → Prop} (a : Nat) (ha : p a) : ∀ j, (j == a) = true → p j := fun j hj => by
  rw [beq_iff_eq] at hj
  subst hj
  exact ha
theorem wp_region_T {P : Program} {id : Nat} {ops : Array Oper} {Q : Exit → Act → World → Prop} {S : World → Prop} {T : Nat → Bool} {a : Act} {w : World} (hm : P.follows .mixedOrders = true) (hS : S w.drew)
    (h : S w.drew → wpAnyT P .any ops Q S T ops.size (Array.replicate ops.size false) a w.drew) : (Code.region id ops true).wp P Q a w := wp_region_any hm (wpAny_of_T _ _ _ _ (h hS))
end Go.Proofs.YtcapddcmnjeloaaGreatDoor
end

section
/-
  Chapter 11, in the program: lift.
-/
namespace Go.Proofs.YtcapddcmnjeloaaGreatDoor
set_option maxRecDepth 100000
open Go.RowKit
theorem Ints.none_ {w : World} {g : Nat} {zs : List Int} (h : Ints w g zs) : Ints w g [] := by
  obtain ⟨rest, h⟩ := h
  exact ⟨zs.map (Value.int .i64) ++ rest, by rw [List.map_nil, List.nil_append]; exact h⟩
theorem rest_of {w : World} {B b0 n cr gx : Nat} {qr : Option Addr} {bs us : List Int} (h : Own B w (.slice qr n cr) bs) (hl : bs.length = n) (hx : Ints w gx us) (h0 : b0 ≤ gx) (hne : ∀ g, B ≤ g → qr = some ⟨g, 0, none⟩ → gx ≠ g ∧ b0 ≤ g) : ∃ gr, (0 < n → qr = some ⟨gr, 0, none⟩ ∧ gx ≠ gr) ∧ Ints w gr bs ∧ b0 ≤ gr := by
  rcases h.cases with ⟨-, e⟩ | ⟨g, c, e, hB, hi, -⟩
  · subst e
    simp only [List.length_nil] at hl
    exact ⟨gx, fun h => by omega, hx.none_, h0⟩
  · injection e with e1 e2 e3
    have := hne g hB e1
    exact ⟨g, fun _ => ⟨e1, this.1⟩, hi, this.2⟩
theorem Own.ltq {w : World} {B n cr g : Nat} {qr : Option Addr} {bs : List Int} (h : Own B w (.slice qr n cr) bs) (e : qr = some ⟨g, 0, none⟩) : g < w.heap.size := by
  subst e
  rcases h with ⟨e, -⟩ | ⟨g', c, e, -, hi, -⟩
  · injection e with e1; cases e1
  · injection e with e1 e2 e3
    injection e1 with e1
    injection e1 with e1 _
    subst e1
    exact hi.lt
set_option maxHeartbeats 8000000 in
theorem iLift (p : Int) (n N : Nat) (a : Option Addr) (m : Nat) (xs : List Int) (q : Option Addr) (cap : Nat) (vs : List Int) (ab : Option Addr) (mb : Nat) (bs : List Int) (w : World) (H : LfH p n xs vs bs) (hN : n * n = N) (h : Rd w a xs) (hc : CelA a N m) (hv : Rd w q vs) (hq : CelA q N cap) (hb : Rd w ab bs) :
    Calls Tryz.prog 135 #[.agg #[.int .i64 n, .int .i64 n, .slice a N m], .agg #[.int .i64 n, .int .i64 n, .slice q N cap], .slice ab n mb, .int .i64 p] w fun e w' => ∃ v, e = .returned (.tuple #[v, .int .i64 (p ^ lfK p)]) ∧ Own w.heap.size w' v (lfS p n xs vs bs (lfK p)).1 ∧ Below w.heap.size w w' := by
  have h6 := H.h6
  have p1 := H.lo
  have p2 := H.hi
  have N36 : N ≤ 36 := by rw [← hN]; exact Nat.mul_le_mul h6 h6
  have HH := Lib.hid H
  have RA := Lib.hid h
  have RQ := Lib.hid hv
  have CA := Lib.hid hc
  have CQ := Lib.hid hq
  have HNN := Lib.hid hN
  have HBL : Hid (bs.length = n) := H.hb
  have HXL : Hid (xs.length = n * n) := H.hx
  have HVL : Hid (vs.length = N) := by show _ = _; rw [← hN]; exact H.hv
  have CL : Hid (∀ w', Below w.heap.size w w' → Calls Tryz.prog 162 #[.slice ab n mb] w' (CopyN n bs w')) := fun w' hb' => iCloneN ab mb n bs H.hb w' (hb.below hb') (by omega)
  have RW : Hid (∀ i, i < n → ∀ w', Calls Tryz.prog 44 #[.agg #[.int .i64 n, .int .i64 n, .slice a N m], .int .i64 i] w' (RowAt a (i * n) n w')) := fun i hi w' => iRowIn n n i (i * n) N m a w' CA.out.spot rfl (by rw [← hN, ← Nat.succ_mul]; exact Nat.mul_le_mul_right _ hi) CA.out.le CA.out.nil (by omega) (by omega)
  have TM : Hid (∀ (qr : Option Addr) (cr k : Nat) (w' : World), Below w.heap.size w w' → Rd w' qr (lfS p n xs vs bs k).2 → Calls Tryz.prog 164 #[.agg #[.int .i64 n, .int .i64 n, .slice q N cap], .slice qr n cr, .int .i64 p] w' (Copy (solL p n vs (lfS p n xs vs bs k).2) w')) := fun qr cr k w' hb' hr => iTimes n N p q cap vs qr cr _ w' (RQ.out.below hb') hN HVL.out H.can CQ.out.spot CQ.out.le CQ.out.nil (by omega) (by omega) (by omega) hr (H.rest k).1 (H.rest k).2
  have MKI := makeInts n (by omega)
  clear h hv hc hq hN hb H
  have KA : Hid (Blk3 ((w.alloc (.cells #[.int .i64 n, .int .i64 n, .slice a N m] 26)).alloc (.cells #[.int .i64 n, .int .i64 n, .slice q N cap] 26)) w.heap.size 26 (.int .i64 n) (.int .i64 n) (.slice a N m)) := (Blk3.at_ _ _ _ _ rfl).old _
  have KB : Hid (Blk3 ((w.alloc (.cells #[.int .i64 n, .int .i64 n, .slice a N m] 26)).alloc (.cells #[.int .i64 n, .int .i64 n, .slice q N cap] 26)) (w.heap.size + 1) 26 (.int .i64 n) (.int .i64 n) (.slice q N cap)) := Blk3.at_ _ _ _ _ (by simp)
  have B0 : Hid (Below w.heap.size w ((w.alloc (.cells #[.int .i64 n, .int .i64 n, .slice a N m] 26)).alloc (.cells #[.int .i64 n, .int .i64 n, .slice q N cap] 26))) := ((Below.refl _ _).alloc (Nat.le_refl _) _).alloc (by simp) _
  go_enter Tryz.func135, Tryz.ntmps135
  go_upto_region 1 with fail
  generalize (w.alloc (.cells #[.int .i64 n, .int .i64 n, .slice a N m] 26)).alloc (.cells #[.int .i64 n, .int .i64 n, .slice q N cap] 26) = W0 at KA KB B0 ⊢
  go_cut [10, 11, 12] from 19 to 23 (fun v10 v11 v12 wx => v12 = .int .i64 1 ∧ ∃ (gx gr : Nat) (qr : Option Addr) (cr : Nat), v10 = .slice (some ⟨gx, 0, none⟩) n n ∧ v11 = .slice qr n cr ∧ (0 < n → qr = some ⟨gr, 0, none⟩ ∧ gx ≠ gr) ∧ Ints wx gx (List.replicate n 0) ∧ Ints wx gr bs ∧ w.heap.size + 2 ≤ gx ∧ w.heap.size + 2 ≤ gr ∧ Blk3 wx w.heap.size 26 (.int .i64 n) (.int .i64 n) (.slice a N m) ∧ Blk3 wx (w.heap.size + 1) 26 (.int .i64 n) (.int .i64 n) (.slice q N cap) ∧ Below w.heap.size w wx)
  case first =>
    refine wp_region_T (S := fun _ => True) (T := fun _ => false) (by kernel_rfl) trivial (fun hH => ?_)
    have KA := Lib.hid KA.out.drew
    have KB := Lib.hid KB.out.drew
    have B0 := Lib.hid B0.out.drew
    generalize W0.drew = Wd at KA KB B0 ⊢
    refine wpAnyT_take (i := 0) (v := ?_) (by simp only [List.getElem?_toArray, List.getElem?_cons_zero]; rfl) (by kernel_rfl) (by kernel_rfl) (by kernel_rfl) (by kernel_rfl) (fun _ h => by cases h) (by exact fun _ _ _ h => h) (Or.inl ⟨by rfl, ?_⟩) trivial ?_
    rotate_left
    · (intro wS hS; clear hS; go_simp; try rfl)
    try simp only [Act.put, List.setIfInBounds_toArray, List.set_cons_zero, List.set_cons_succ]
    refine wpAnyT_take (i := 1) (v := ?_) (by simp only [List.getElem?_toArray, List.getElem?_cons_succ, List.getElem?_cons_zero]; rfl) (by kernel_rfl) (by kernel_rfl) (by kernel_rfl) (by kernel_rfl) (fun _ h => by cases h) (by exact fun _ _ _ h => h) (Or.inl ⟨by rfl, ?_⟩) trivial ?_
    rotate_left
    · (intro wS hS; clear hS; go_simp; try rfl)
    try simp only [Act.put, List.setIfInBounds_toArray, List.set_cons_zero, List.set_cons_succ]
    refine wpAnyT_take (i := 3) (v := ?_) (by simp only [List.getElem?_toArray, List.getElem?_cons_succ, List.getElem?_cons_zero]; rfl) (by kernel_rfl) (by kernel_rfl) (by kernel_rfl) (by kernel_rfl) (fun _ h => by cases h) (by exact fun _ _ _ h => h) (Or.inl ⟨by rfl, ?_⟩) trivial ?_
    rotate_left
    · (intro wS hS; clear hS; go_simp; try rfl)
    try simp only [Act.put, List.setIfInBounds_toArray, List.set_cons_zero, List.set_cons_succ]
    refine wpAnyT_ready (rs := [2, 4]) (by kernel_rfl) (by simp) ?_
    refine AllReadyT.cons (by simp only [List.getElem?_toArray, List.getElem?_cons_succ, List.getElem?_cons_zero]; rfl) (fun K hK => ?_) (AllReadyT.cons (by simp only [List.getElem?_toArray, List.getElem?_cons_succ, List.getElem?_cons_zero]; rfl) (fun K hK => ?_) (AllReadyT.nil))
    ·
      go_simp
      try dsimp only
      refine hK.out _ _ (fun _ => trivial) ?_
      clear hK K
      try simp only [Act.put, List.setIfInBounds_toArray, List.set_cons_zero, List.set_cons_succ]
      have GX : Hid (Ints (Wd.alloc (.cells (madeCells #[.int .i64 0] n) 3)) Wd.heap.size (List.replicate n 0)) := Ints.made n rfl
      have lb := KB.out.lt
      have KA := Lib.hid (KA.out.old (.cells (madeCells #[.int .i64 0] n) 3))
      have KB := Lib.hid (KB.out.old (.cells (madeCells #[.int .i64 0] n) 3))
      have B1 := Lib.hid (B0.out.alloc B0.out.size (.cells (madeCells #[.int .i64 0] n) 3))
      obtain ⟨gx, hgx⟩ : ∃ g, Wd.heap.size = g := ⟨_, rfl⟩
      rw [hgx] at GX lb ⊢
      generalize Wd.alloc (.cells (madeCells #[.int .i64 0] n) 3) = W1 at GX KA KB B1 lb ⊢
      refine wpAnyT_ready (rs := [4]) (by kernel_rfl) (by simp) ?_
      refine AllReadyT.cons (by simp only [List.getElem?_toArray, List.getElem?_cons_succ, List.getElem?_cons_zero]; rfl) (fun K hK => ?_) (AllReadyT.nil)
      go_simp
      (with_reducible refine (CL.out _ B1.out).mono ?_)
      rintro e w2 ⟨qr, cr, rfl, own, hb2⟩
      try dsimp only
      refine hK.out _ _ (fun _ => trivial) ?_
      clear hK K
      try simp only [Act.put, List.setIfInBounds_toArray, List.set_cons_zero, List.set_cons_succ]
      have lx := GX.out.lt
      have GX := Lib.hid (GX.out.keep hb2 lx)
      have KA := Lib.hid (KA.out.step hb2)
      have KB := Lib.hid (KB.out.step hb2)
      have B2 := Lib.hid (B1.out.trans (hb2.mono B1.out.size))
      obtain ⟨gr, hgr1, hgr2, hgr3⟩ := rest_of own HBL.out GX.out (b0 := w.heap.size + 2) (by omega) (fun g hg _ => ⟨by have := lx; omega, by omega⟩)
      have HG1 := Lib.hid hgr1
      have HG2 := Lib.hid hgr2
      have HG3 := Lib.hid hgr3
      clear hgr1 hgr2 hgr3 own hb2
      refine wpAnyT_take (i := 5) (v := ?_) (by simp only [List.getElem?_toArray, List.getElem?_cons_succ, List.getElem?_cons_zero]; rfl) (by kernel_rfl) (by kernel_rfl) (by kernel_rfl) (by kernel_rfl) (fun _ h => by cases h) (by exact fun _ _ _ h => h) (Or.inl ⟨by rfl, ?_⟩) trivial ?_
      rotate_left
      · (intro wS hS; clear hS; go_simp; try rfl)
      try simp only [Act.put, List.setIfInBounds_toArray, List.set_cons_zero, List.set_cons_succ]
      refine wpAnyT_take (i := 6) (v := ?_) (by simp only [List.getElem?_toArray, List.getElem?_cons_succ, List.getElem?_cons_zero]; rfl) (by kernel_rfl) (by kernel_rfl) (by kernel_rfl) (by kernel_rfl) (fun _ h => by cases h) (by exact fun _ _ _ h => h) (Or.inl ⟨by rfl, ?_⟩) trivial ?_
      rotate_left
      · (intro wS hS; clear hS; go_simp; try rfl)
      try simp only [Act.put, List.setIfInBounds_toArray, List.set_cons_zero, List.set_cons_succ]
      refine wpAnyT_take (i := 7) (v := ?_) (by simp only [List.getElem?_toArray, List.getElem?_cons_succ, List.getElem?_cons_zero]; rfl) (by kernel_rfl) (by kernel_rfl) (by kernel_rfl) (by kernel_rfl) (fun _ h => by cases h) (by exact fun _ _ _ h => h) (Or.inl ⟨by rfl, ?_⟩) trivial ?_
      rotate_left
      · (intro wS hS; clear hS; go_simp; try rfl)
      try simp only [Act.put, List.setIfInBounds_toArray, List.set_cons_zero, List.set_cons_succ]
      refine wpAnyT_done (by kernel_rfl) ?_ _
      go_wp2_with fail
      go_meet
      exact ⟨rfl, gx, gr, qr, cr, rfl, rfl, HG1.out, GX.out, HG2.out, by omega, HG3.out, KA.out, KB.out, B2.out⟩
    ·
      go_simp
      (with_reducible refine (CL.out _ B0.out).mono ?_)
      rintro e w2 ⟨qr, cr, rfl, own, hb2⟩
      try dsimp only
      refine hK.out _ _ (fun _ => trivial) ?_
      clear hK K
      try simp only [Act.put, List.setIfInBounds_toArray, List.set_cons_zero, List.set_cons_succ]
      have lb := KB.out.lt
      have s2 := hb2.size
      have KA := Lib.hid ((KA.out.step hb2).old (.cells (madeCells #[.int .i64 0] n) 3))
      have KB := Lib.hid ((KB.out.step hb2).old (.cells (madeCells #[.int .i64 0] n) 3))
      have B2 := Lib.hid ((B0.out.trans (hb2.mono B0.out.size)).alloc (by omega) (.cells (madeCells #[.int .i64 0] n) 3))
      have GX : Hid (Ints (w2.alloc (.cells (madeCells #[.int .i64 0] n) 3)) w2.heap.size (List.replicate n 0)) := Ints.made n rfl
      have OW := own.keep ((Below.refl _ _).alloc (Nat.le_refl _) (.cells (madeCells #[.int .i64 0] n) 3))
      obtain ⟨gr, hgr1, hgr2, hgr3⟩ := rest_of OW HBL.out GX.out (b0 := w.heap.size + 2) (by omega) (fun g hg e => ⟨by have := own.ltq e; omega, by omega⟩)
      have HG1 := Lib.hid hgr1
      have HG2 := Lib.hid hgr2
      have HG3 := Lib.hid hgr3
      clear hgr1 hgr2 hgr3 own hb2 OW
      refine wpAnyT_ready (rs := [2]) (by kernel_rfl) (by simp) ?_
      refine AllReadyT.cons (by simp only [List.getElem?_toArray, List.getElem?_cons_succ, List.getElem?_cons_zero]; rfl) (fun K hK => ?_) (AllReadyT.nil)
      go_simp
      try dsimp only
      refine hK.out _ _ (fun _ => trivial) ?_
      clear hK K
      try simp only [Act.put, List.setIfInBounds_toArray, List.set_cons_zero, List.set_cons_succ]
      refine wpAnyT_take (i := 5) (v := ?_) (by simp only [List.getElem?_toArray, List.getElem?_cons_succ, List.getElem?_cons_zero]; rfl) (by kernel_rfl) (by kernel_rfl) (by kernel_rfl) (by kernel_rfl) (fun _ h => by cases h) (by exact fun _ _ _ h => h) (Or.inl ⟨by rfl, ?_⟩) trivial ?_
      rotate_left
      · (intro wS hS; clear hS; go_simp; try rfl)
      try simp only [Act.put, List.setIfInBounds_toArray, List.set_cons_zero, List.set_cons_succ]
      refine wpAnyT_take (i := 6) (v := ?_) (by simp only [List.getElem?_toArray, List.getElem?_cons_succ, List.getElem?_cons_zero]; rfl) (by kernel_rfl) (by kernel_rfl) (by kernel_rfl) (by kernel_rfl) (fun _ h => by cases h) (by exact fun _ _ _ h => h) (Or.inl ⟨by rfl, ?_⟩) trivial ?_
      rotate_left
      · (intro wS hS; clear hS; go_simp; try rfl)
      try simp only [Act.put, List.setIfInBounds_toArray, List.set_cons_zero, List.set_cons_succ]
      refine wpAnyT_take (i := 7) (v := ?_) (by simp only [List.getElem?_toArray, List.getElem?_cons_succ, List.getElem?_cons_zero]; rfl) (by kernel_rfl) (by kernel_rfl) (by kernel_rfl) (by kernel_rfl) (fun _ h => by cases h) (by exact fun _ _ _ h => h) (Or.inl ⟨by rfl, ?_⟩) trivial ?_
      rotate_left
      · (intro wS hS; clear hS; go_simp; try rfl)
      try simp only [Act.put, List.setIfInBounds_toArray, List.set_cons_zero, List.set_cons_succ]
      refine wpAnyT_done (by kernel_rfl) ?_ _
      go_wp2_with fail
      go_meet
      exact ⟨rfl, w2.heap.size, gr, qr, cr, rfl, rfl, HG1.out, GX.out, HG2.out, by omega, HG3.out, KA.out, KB.out, B2.out⟩
  case rest =>
    clear KA KB B0 MKI CL
    obtain ⟨rfl, gx, gr, qr, cr, rfl, rfl, hg1, hx, hr, lx, lr, hKA, hKB, hB⟩ := hcut
    rename World => W
    have HG1 := Lib.hid hg1
    have GX : Hid (Ints W gx (lfS p n xs vs bs 0).1) := hx
    have GR : Hid (Ints W gr (lfS p n xs vs bs 0).2) := hr
    have KA := Lib.hid hKA
    have KB := Lib.hid hKB
    have B := Lib.hid hB
    clear hg1 hx hr hKA hKB hB
    have n0 : ((p : Int) == 0) = false := by simp; omega
    have np : ¬ p = 0 := by omega
    obtain ⟨K, hK⟩ : ∃ K, lfK p = K := ⟨_, rfl⟩
    have EK := Lib.hid hK
    clear hK
    go_wp2_with fail
    go_loopg [12, 13, 14, 15, 16, 17, 18] K (fun gk v12 _ _ _ _ _ _ wi => ∃ k : Nat, gk = K - k ∧ k ≤ K ∧ v12 = .int .i64 ((p : Int) ^ k) ∧ Ints wi gx (lfS p n xs vs bs k).1 ∧ Ints wi gr (lfS p n xs vs bs k).2 ∧ Blk3 wi w.heap.size 26 (.int .i64 n) (.int .i64 n) (.slice a N m) ∧ Blk3 wi (w.heap.size + 1) 26 (.int .i64 n) (.int .i64 n) (.slice q N cap) ∧ Below w.heap.size w wi)
    case atStart => exact ⟨0, rfl, Nat.zero_le _, by rw [Int.pow_zero], GX.out, GR.out, KA.out, KB.out, B.out⟩
    case round =>
      clear GX GR KA KB B
      obtain ⟨k, hgk, hk, rfl, hx, hr, hKA, hKB, hB⟩ := hrel
      have HG := Lib.hid hgk
      have GX := Lib.hid hx
      have GR := Lib.hid hr
      have KA := Lib.hid hKA
      have KB := Lib.hid hKB
      have B := Lib.hid hB
      clear hgk hx hr hKA hKB hB
      have PN := lfK_num (k := k) HH.out.lo HH.out.hi (by rw [EK.out]; exact hk)
      obtain ⟨P, hP⟩ : ∃ P : Int, (p : Int) ^ k = P := ⟨_, rfl⟩
      obtain ⟨D, hD⟩ : ∃ D : Int, Int.tdiv 400000000 p = D := ⟨_, rfl⟩
      have GOP := lf_goP (P := P) HH.out.lo HH.out.hi
      rw [hD] at GOP
      have EP := Lib.hid hP
      rw [hP] at PN ⊢
      obtain ⟨P1, P2⟩ := PN
      have d9 : Int.tdiv 400000000 p = D := hD
      have D1 : 0 ≤ D ∧ D ≤ 400000000 := by
        rw [← hD, Int.tdiv_eq_ediv_of_nonneg (by decide)]
        exact ⟨Int.ediv_nonneg (by decide) (by omega), Int.ediv_le_self _ (by decide)⟩
      obtain ⟨D1, D2⟩ := D1
      have wD : IntKind.i64.wrap D = D := IntWalk.i64_in _ (by omega)
      clear hP hD
      by_cases c2 : P ≤ D
      rotate_left
      · have hkK : Hid (k = K) := by
          refine Lib.hid ?_
          rw [← EK.out]
          refine lfK_end HH.out.lo HH.out.hi (by rw [EK.out]; exact hk) fun hg => c2 (GOP.2 ?_)
          rw [← EP.out]
          exact hg
        clear GOP
        go_wp2_with fail
        go_ret2
        refine ⟨_, by rw [EK.out, ← hkK.out, EP.out]; rfl, ?_, B.out⟩
        rw [EK.out, ← hkK.out]
        exact .inr ⟨gx, n, by rw [lfS_xl]; rfl, by omega, GX.out, by rw [lfS_xl]; exact Nat.le_refl _, by rw [lfS_xl]; omega⟩
      have hkl : k < lfK p := lfK_more HH.out.lo HH.out.hi (by rw [EK.out]; exact hk) (by rw [EP.out]; exact GOP.1 c2)
      have EX : Hid (∀ i, i < n → (lfS p n xs vs bs (k + 1)).1.getD i 0 = (lfS p n xs vs bs k).1.getD i 0 + P * (solL p n vs (lfS p n xs vs bs k).2).getD i 0 ∧ (0 ≤ (lfS p n xs vs bs k).1.getD i 0 ∧ (lfS p n xs vs bs k).1.getD i 0 ≤ 400000000) ∧ (0 ≤ P * (solL p n vs (lfS p n xs vs bs k).2).getD i 0 ∧ P * (solL p n vs (lfS p n xs vs bs k).2).getD i 0 ≤ 400000000) ∧ (lfS p n xs vs bs (k + 1)).1.getD i 0 ≤ 400000000) := fun i hi => by
        have := HH.out.next hkl hi
        rw [EP.out] at this
        exact this
      have EQ : Hid (∀ i, i < n → (sF n xs (solL p n vs (lfS p n xs vs bs k).2) (lfS p n xs vs bs k).2 i n).tdiv p = (lfS p n xs vs bs (k + 1)).2.getD i 0) := fun i hi => HH.out.quo k hi
      have ES : Hid (∀ i j, i < n → j ≤ n → -1000000000000 ≤ sF n xs (solL p n vs (lfS p n xs vs bs k).2) (lfS p n xs vs bs k).2 i j ∧ sF n xs (solL p n vs (lfS p n xs vs bs k).2) (lfS p n xs vs bs k).2 i j ≤ 1000000000000) := fun i j hi hj => HH.out.sums k hi hj
      have EM : Hid (∀ i j, i < n → j < n → -80000000000 ≤ xs.getD (i * n + j) 0 * (solL p n vs (lfS p n xs vs bs k).2).getD j 0 ∧ xs.getD (i * n + j) 0 * (solL p n vs (lfS p n xs vs bs k).2).getD j 0 ≤ 80000000000) := fun i j hi hj => HH.out.prod k hi hj
      have PW := Lib.hid (HH.out.pow hkl)
      have XL0 : Hid ((lfS p n xs vs bs k).1.length = n) := lfS_xl k
      have XL1 : Hid ((lfS p n xs vs bs (k + 1)).1.length = n) := lfS_xl (k + 1)
      have RL0 : Hid ((lfS p n xs vs bs k).2.length = n) := (HH.out.rest k).1
      have RL1 : Hid ((lfS p n xs vs bs (k + 1)).2.length = n) := (HH.out.rest (k + 1)).1
      have EB : Hid (∀ i, i < n → -2400000000 ≤ (lfS p n xs vs bs (k + 1)).2.getD i 0 ∧ (lfS p n xs vs bs (k + 1)).2.getD i 0 ≤ 2400000000) := (HH.out.rest (k + 1)).2
      have DL : Hid ((solL p n vs (lfS p n xs vs bs k).2).length = n) := solL_length p n vs _
      have RR : Hid (Rd wr qr (lfS p n xs vs bs k).2) := by
        refine Lib.hid ?_
        rcases Nat.eq_zero_or_pos n with e | e
        · rw [List.eq_nil_of_length_eq_zero (show (lfS p n xs vs bs k).2.length = 0 by rw [RL0.out, e])]
          exact Rd.nil _ _
        · rw [(HG1.out e).1]; exact GR.out.rd
      have TMk := Lib.hid (TM.out qr cr k wr B.out RR.out)
      obtain ⟨us, hus⟩ : ∃ us, (lfS p n xs vs bs k).1 = us := ⟨_, rfl⟩
      obtain ⟨rs, hrs⟩ : ∃ rs, (lfS p n xs vs bs k).2 = rs := ⟨_, rfl⟩
      obtain ⟨us', hus'⟩ : ∃ us', (lfS p n xs vs bs (k + 1)).1 = us' := ⟨_, rfl⟩
      obtain ⟨rs', hrs'⟩ : ∃ rs', (lfS p n xs vs bs (k + 1)).2 = rs' := ⟨_, rfl⟩
      obtain ⟨dg, hdg⟩ : ∃ dg, solL p n vs (lfS p n xs vs bs k).2 = dg := ⟨_, rfl⟩
      rw [hdg] at EX EQ ES EM DL TMk
      rw [hus] at EX XL0 GX
      rw [hrs] at EQ ES RL0 GR
      rw [hus'] at EX XL1
      rw [hrs'] at EQ RL1 EB
      have EU' := Lib.hid hus'
      have ER' := Lib.hid hrs'
      obtain ⟨z0, z1, z2, -, -, -⟩ := KB.out.all
      clear hus hrs hus' hrs' hdg GOP RR
      go_wp2_with fail
      refine TMk.out.mono ?_
      rintro e w7 ⟨vd, rfl, own, hb7⟩
      obtain ⟨qd, cd, rfl, hd, -⟩ := own.form
      rw [DL.out] at own ⊢
      have gxl := GX.out.lt
      have grl := GR.out.lt
      have DG : Hid (∀ wx, FrS (fun k => k = gx ∨ k = gr) w7 wx → Rd wx qd dg) := fun wx hf => by
        rcases own.cases with ⟨-, e⟩ | ⟨g, c, e, hB, -, -⟩
        · rw [e]; exact Rd.nil _ _
        · injection e with e1 e2 e3
          subst e1
          exact hd.frs hf (fun b o e => by injection e with e; injection e with e _; subst e; omega)
      have GX := Lib.hid (GX.out.keep hb7 gxl)
      have GR := Lib.hid (GR.out.keep hb7 grl)
      have KA := Lib.hid (KA.out.step hb7)
      have KB := Lib.hid (KB.out.step hb7)
      have B7 := Lib.hid (B.out.trans (hb7.mono B.out.size))
      have BF : Hid (∀ wx, FrS (fun k => k = gx ∨ k = gr) w7 wx → Below w.heap.size w wx) := fun wx hf => B7.out.trans (hf.below (fun k hk => by omega) B7.out.size)
      have SRC : Hid (∀ i q7, i < n → (∀ g0 o : Nat, a = some ⟨g0, o, none⟩ → 0 < n → q7 = some ⟨g0, o + i * n, none⟩) → ∀ wx, FrS (fun k => k = gx ∨ k = gr) w7 wx → Rd wx q7 (rwL n (mxC n xs i))) := fun i q7 hlt hq7 wx hf => (RA.out.below (BF.out wx hf)).row HXL.out hlt hq7
      clear z0 z1 z2 own hd hb7 gxl grl B TMk
      go_wp2_with fail
      go_loopw [14, 15, 34] (fun _ _ v34 wr => ∃ i : Nat, v34 = .int .i64 i ∧ i ≤ n ∧ Ints wr gx (twL n us' us i) ∧ Ints wr gr rs ∧ FrS (fun k => k = gx ∨ k = gr) w7 wr) (fun _ _ v34 _ => n - (intOf v34).toNat)
      case atStart => exact ⟨0, rfl, Nat.zero_le _, by rw [twL_zero XL0.out]; exact GX.out, GR.out, FrS.refl _ _⟩
      case round =>
        clear GX GR
        obtain ⟨i, rfl, hi, hx, hr, hf⟩ := hrel
        have GX := Lib.hid hx
        have GR := Lib.hid hr
        have FR := Lib.hid hf
        clear hx hr hf
        by_cases hlt : i < n
        · obtain ⟨rfl, xr⟩ := HG1.out (by omega)
          have hc1 := GX.out.cell (i := i) (by rw [twL_length]; exact hlt)
          have hf1 := GX.out.free i
          rw [twL_at hlt, if_neg (Nat.lt_irrefl _)] at hc1
          obtain ⟨b2, o2, rfl, hc2⟩ := DG.out _ FR.out i (by rw [DL.out]; exact hlt)
          obtain ⟨q1, ⟨q2, q3⟩, ⟨q4, q5⟩, q6⟩ := EX.out i hlt
          have TS := Lib.hid (twL_set (n := n) (f := us') (g := us) (i := i))
          rw [q1] at TS q6
          clear q1
          obtain ⟨x, hx⟩ : ∃ x, us.getD i 0 = x := ⟨_, rfl⟩
          obtain ⟨y, hy⟩ : ∃ y, dg.getD i 0 = y := ⟨_, rfl⟩
          rw [hx] at TS hc1 q2 q3 q6
          rw [hy] at TS hc2 q4 q5 q6
          obtain ⟨o, ho⟩ : ∃ o, P * y = o := ⟨_, rfl⟩
          rw [ho] at TS q4 q5 q6
          have v2 : IntKind.i64.wrap (y * P) = o := by rw [Int.mul_comm, ho]; exact IntWalk.i64_in _ (by omega)
          obtain ⟨f, hf⟩ : ∃ f, x + o = f := ⟨_, rfl⟩
          rw [hf] at TS q6
          have v3 : IntKind.i64.wrap (x + o) = f := by rw [hf]; exact IntWalk.i64_in _ (by omega)
          clear hx hy ho hf q6
          go_wp2_with fail
          go_roundw
          case rel =>
            refine ⟨i + 1, by go_num, by omega, ?_, GR.out.far (Ne.symm xr) _, FR.out.set (.inl (.inl rfl)) _⟩
            rw [← TS.out]
            exact GX.out.set i f
          case measure => simp [intOf]; omega
        · obtain rfl : i = n := by omega
          have GXn : Hid (Ints wr gx us') := by have := GX.out; rw [twL_all XL1.out] at this; exact this
          clear hlt GX
          have GX := GXn
          clear GXn
          go_wp2_with fail
          go_loopw [16, 17, 18, 51] (fun _ _ _ v51 wr => ∃ r : Nat, v51 = .int .i64 r ∧ r ≤ i ∧ Ints wr gx us' ∧ Ints wr gr (twL i rs' rs r) ∧ FrS (fun k => k = gx ∨ k = gr) w7 wr) (fun _ _ _ v51 _ => i - (intOf v51).toNat)
          case atStart => exact ⟨0, rfl, Nat.zero_le _, GX.out, by rw [twL_zero RL0.out]; exact GR.out, FR.out⟩
          case round =>
            clear GX GR FR
            obtain ⟨r, rfl, hr9, hx, hr, hf⟩ := hrel
            have GX := Lib.hid hx
            have GR := Lib.hid hr
            have FR := Lib.hid hf
            clear hx hr hf
            by_cases hlt : r < i
            · obtain ⟨rfl, xr⟩ := HG1.out (by omega)
              obtain ⟨z0, z1, z2, -, -, -⟩ := (KA.out.frs FR.out (by omega)).all
              go_wp2_with fail
              refine (RW.out r hlt _).mono ?_
              rintro e w8 ⟨q7, m7, rfl, hm7, hq7, -, hb8⟩
              have GX := Lib.hid (GX.out.keep hb8 GX.out.lt)
              have GR : Hid (Ints w8 gr (rtL i xs dg rs rs' r 0)) := by refine Lib.hid ?_; rw [rtL_zero]; exact GR.out.keep hb8 GR.out.lt
              have FR := Lib.hid (FR.out.trans (FrS.of_below hb8))
              have SRr := Lib.hid (SRC.out r q7 hlt hq7)
              clear z0 z1 z2 hb8 hq7
              go_wp2_with fail
              go_loopw [17, 18, 58] (fun _ _ v58 wr => ∃ j : Nat, v58 = .int .i64 j ∧ j ≤ i ∧ Ints wr gx us' ∧ Ints wr gr (rtL i xs dg rs rs' r j) ∧ FrS (fun k => k = gx ∨ k = gr) w7 wr) (fun _ _ v58 _ => i - (intOf v58).toNat)
              case atStart => exact ⟨0, rfl, Nat.zero_le _, GX.out, GR.out, FR.out⟩
              case round =>
                clear GX GR FR
                obtain ⟨j, rfl, hj, hx, hr, hf⟩ := hrel
                have GX := Lib.hid hx
                have GR := Lib.hid hr
                have FR := Lib.hid hf
                clear hx hr hf
                have hc3 := GR.out.cell (i := r) (by rw [rtL_length]; exact hlt)
                have hf3 := GR.out.free r
                rw [rtL_at hlt] at hc3
                obtain ⟨s1, s2⟩ := ES.out r j hlt hj
                by_cases hjl : j < i
                · obtain ⟨b1, o1, rfl, hc1⟩ := SRr.out _ FR.out j (by rw [rwL_length]; exact hjl)
                  rw [rwL_at hjl] at hc1
                  obtain ⟨b2, o2, rfl, hc2⟩ := DG.out _ FR.out j (by rw [DL.out]; exact hjl)
                  have SU := sF_succ i xs dg rs r j
                  have RS := Lib.hid (rtL_set (n := i) (xs := xs) (ds := dg) (rs := rs) (new := rs') (i := r) (j := j))
                  obtain ⟨m1, m2⟩ := EM.out r j hlt hjl
                  obtain ⟨s3, s4⟩ := ES.out r (j + 1) hlt (by omega)
                  obtain ⟨s, hs⟩ : ∃ s, sF i xs dg rs r j = s := ⟨_, rfl⟩
                  rw [show mxC i xs r j = xs.getD (r * i + j) 0 from rfl] at hc1
                  obtain ⟨x, hx⟩ : ∃ x, xs.getD (r * i + j) 0 = x := ⟨_, rfl⟩
                  obtain ⟨y, hy⟩ : ∃ y, dg.getD j 0 = y := ⟨_, rfl⟩
                  rw [hx, hy] at m1 m2 SU
                  rw [hs] at SU s1 s2 hc3
                  rw [SU] at s3 s4 RS
                  rw [hx] at hc1
                  rw [hy] at hc2
                  obtain ⟨o, ho⟩ : ∃ o, x * y = o := ⟨_, rfl⟩
                  rw [ho] at m1 m2 s3 s4 RS
                  have v2 : IntKind.i64.wrap (x * y) = o := by rw [ho]; exact IntWalk.i64_in _ (by omega)
                  obtain ⟨f, hf⟩ : ∃ f, s - o = f := ⟨_, rfl⟩
                  rw [hf] at s3 s4 RS
                  have v3 : IntKind.i64.wrap (s - o) = f := by rw [hf]; exact IntWalk.i64_in _ (by omega)
                  have IS : Hid (Ints (wr.drew.setCell ⟨gr, r, none⟩ (.int .i64 f)) gr (rtL i xs dg rs rs' r (j + 1))) := by
                    refine Lib.hid ?_
                    rw [← RS.out]
                    exact GR.out.drew.set r f
                  have IX : Hid (Ints (wr.drew.setCell ⟨gr, r, none⟩ (.int .i64 f)) gx us') := GX.out.drew.far (a := ⟨gr, r, none⟩) xr _
                  have IF : Hid (FrS (fun k => k = gx ∨ k = gr) w7 (wr.drew.setCell ⟨gr, r, none⟩ (.int .i64 f))) := FR.out.drew.set (.inl (.inr rfl)) _
                  clear hs hx hy ho hf SU m1 m2 s1 s2
                  go_wp2_with fail
                  go_still_tail 12, (by kernel_rfl)
                  go_wp2_with fail
                  go_roundw
                  case rel => exact ⟨j + 1, by go_num, by omega, IX.out, IS.out, IF.out⟩
                  case measure => simp [intOf]; omega
                · obtain rfl : j = i := by omega
                  have e9 := EQ.out r hlt
                  have eb := EB.out r hlt
                  have RE := Lib.hid (rtL_end (n := j) (xs := xs) (ds := dg) (rs := rs) (new := rs') (i := r) (j := j))
                  obtain ⟨s, hs⟩ : ∃ s, sF j xs dg rs r j = s := ⟨_, rfl⟩
                  obtain ⟨r1, hr1⟩ : ∃ r1, rs'.getD r 0 = r1 := ⟨_, rfl⟩
                  rw [hs] at e9 s1 s2 hc3
                  rw [hr1] at e9 eb RE
                  obtain ⟨eb1, eb2⟩ := eb
                  have v0 : IntKind.i64.wrap r1 = r1 := IntWalk.i64_in _ (by omega)
                  have GR9 : Hid (Ints (wr.setCell ⟨gr, r, none⟩ (.int .i64 r1)) gr (twL j rs' rs (r + 1))) := by
                    refine Lib.hid ?_
                    rw [← RE.out]
                    exact GR.out.set r r1
                  have GX9 : Hid (Ints (wr.setCell ⟨gr, r, none⟩ (.int .i64 r1)) gx us') := GX.out.far (a := ⟨gr, r, none⟩) xr _
                  have FR9 : Hid (FrS (fun k => k = gx ∨ k = gr) w7 (wr.setCell ⟨gr, r, none⟩ (.int .i64 r1))) := FR.out.set (.inl (.inr rfl)) _
                  clear hs hr1 hjl
                  go_wp2_with fail
                  go_roundw
                  case rel => exact ⟨r + 1, by go_num, by omega, GX9.out, GR9.out, FR9.out⟩
                  case measure => simp [intOf]; omega
            · obtain rfl : r = i := by omega
              have GRn : Hid (Ints wr gr rs') := by have := GR.out; rw [twL_all RL1.out] at this; exact this
              clear GR
              obtain ⟨w1', w2', w3'⟩ := PW.out
              obtain ⟨PP, hPP⟩ : ∃ PP : Int, (p : Int) ^ (k + 1) = PP := ⟨_, rfl⟩
              have EPP := Lib.hid hPP
              rw [hPP, EP.out] at w1'
              rw [hPP] at w2' w3'
              have v4 : IntKind.i64.wrap (P * p) = PP := by rw [w1']; exact IntWalk.i64_in _ (by omega)
              have KA := Lib.hid (KA.out.frs FR.out (by omega))
              have KB := Lib.hid (KB.out.frs FR.out (by omega))
              have B9 := Lib.hid (BF.out _ FR.out)
              clear hPP w1'
              go_wp2_with fail
              go_roundg (K - (k + 1))
              case measure => rw [HG.out]; have := EK.out; omega
              case rel => exact ⟨k + 1, rfl, by have := EK.out; omega, by rw [EPP.out], by rw [EU'.out]; exact GX.out, by rw [ER'.out]; exact GRn.out, KA.out, KB.out, B9.out⟩
end Go.Proofs.YtcapddcmnjeloaaGreatDoor
end

section
/-
  Chapter 11, in the program: partBound.
-/
namespace Go.Proofs.YtcapddcmnjeloaaGreatDoor
set_option maxRecDepth 100000
open Go.RowKit
set_option maxHeartbeats 1000000 in
theorem iBound (P : Int) (w : World) (h1 : 2 < P) (h2 : P ≤ 400000000) : Calls Tryz.prog 136 #[.int .i64 P] w fun e w' => e = .returned (.int .i64 (lfB P)) ∧ w = w' := by
  have EQ : Hid (∀ B : Int, 0 ≤ B → 2 * B * B < P → B ≤ 10000 → (B = 10000 ∨ P ≤ 2 * (B + 1) * (B + 1)) → lfB P = B) := fun B a b c d => lfB_eq a b c d
  generalize lfB P = R at EQ ⊢
  go_enter Tryz.func136, Tryz.ntmps136
  go_wp2_with fail
  go_loopw [3] (fun v3 wr => ∃ b : Int, v3 = .int .i64 b ∧ 1 ≤ b ∧ b ≤ 10000 ∧ (b = 10000 ∨ P ≤ 2 * (b + 1) * (b + 1)) ∧ w = wr) (fun v3 _ => (intOf v3).toNat)
  case atStart => exact ⟨10000, rfl, by omega, by omega, .inl rfl, rfl⟩
  case round =>
    obtain ⟨b, rfl, b1, b2, hb, rfl⟩ := hrel
    have HB := Lib.hid hb
    have w1 : IntKind.i64.wrap (2 * b) = 2 * b := IntWalk.i64_in _ (by omega)
    obtain ⟨s1, s2⟩ := mul_abs (A := 20000) (B := 10000) (show -20000 ≤ 2 * b ∧ 2 * b ≤ 20000 by omega) (show -10000 ≤ b ∧ b ≤ 10000 by omega)
    obtain ⟨y, hy⟩ : ∃ y, 2 * b * b = y := ⟨_, rfl⟩
    have w2 : IntKind.i64.wrap (2 * b * b) = y := by rw [hy]; exact IntWalk.i64_in _ (by omega)
    have HY := Lib.hid hy
    rw [hy] at s1 s2
    clear hb hy
    by_cases c : P ≤ y
    · have b3 : 2 ≤ b := by
        rcases Int.lt_or_le 1 b with h | h
        · omega
        · obtain rfl : b = 1 := by omega
          have := HY.out
          omega
      have NX : Hid (P ≤ 2 * (b - 1 + 1) * (b - 1 + 1)) := by
        show _ ≤ _
        rw [Int.sub_add_cancel, HY.out]; exact c
      clear s1 s2
      go_wp2_with fail
      go_roundw
      case rel => exact ⟨b - 1, by first | rfl | trivial, by omega, by omega, .inr NX.out, by first | rfl | trivial⟩
      case measure => simp [intOf]; omega
    · have V : Hid (R = b) := EQ.out b (by omega) (by rw [HY.out]; omega) b2 HB.out
      clear s1 s2
      go_wp2_with fail
      go_ret
      exact ⟨by rw [V.out]; rfl, rfl⟩
end Go.Proofs.YtcapddcmnjeloaaGreatDoor
end

section
/-
  Ratios as a list, a slice that shows them, a block that holds them. Nothing of a program is used but its types.
-/
namespace Go.Proofs.YtcapddcmnjeloaaGreatDoor
open Go.RowKit
def RdQ (w : World) (a : Option Addr) (l : List (Int × Int)) : Prop :=
  ∀ q : Nat, q < l.length → ∃ b o : Nat, a = some ⟨b, o, none⟩ ∧ b < w.heap.size ∧ w.cell? ⟨b, o + q * 2, none⟩ = some (.int .i64 (l.getD q (0, 0)).1) ∧ w.cell? ⟨b, o + q * 2 + 1, none⟩ = some (.int .i64 (l.getD q (0, 0)).2)
theorem RdQ.below {w w' : World} {a : Option Addr} {l : List (Int × Int)} (h : RdQ w a l) (hb : Below w.heap.size w w') : RdQ w' a l := fun q hq => by
  obtain ⟨b, o, e, hl, h0, h1⟩ := h q hq
  have c : ∀ x : Nat, w'.cell? ⟨b, x, none⟩ = w.cell? ⟨b, x, none⟩ := fun x => (bcell hb).1 b x hl
  exact ⟨b, o, e, Nat.lt_of_lt_of_le hl hb.size, by rw [c]; exact h0, by rw [c]; exact h1⟩
theorem RdQ.nil (w : World) (a : Option Addr) : RdQ w a [] := fun q h => absurd h (by simp)
def flatQ (l : List (Int × Int)) : List Value := l.flatMap fun u => [.int .i64 u.1, .int .i64 u.2]
theorem info_rat : (Tryz.prog.info? 40).map (fun i => (i.zero, i.size, i.bytes)) = some (some (.agg #[.int .i64 0, .int .i64 0]), 2, 16) := by kernel_rfl
theorem underlying_rats : Tryz.prog.underlying 29 = some (.slice 40) := by kernel_rfl
theorem facts_rat : ∃ i, Tryz.prog.info? 40 = some i ∧ i.zero = some (.agg #[.int .i64 0, .int .i64 0]) ∧ i.size = 2 ∧ i.bytes = 16 := by
  have h := info_rat
  cases hi : Tryz.prog.info? 40 with
  | none => rw [hi] at h; simp at h
  | some i => rw [hi] at h; simp only [Option.map_some, Option.some.injEq, Prod.mk.injEq] at h; exact ⟨i, rfl, h.1, h.2.1, h.2.2⟩
theorem flatQ_length (l : List (Int × Int)) : (flatQ l).length = l.length * 2 := by
  induction l with
  | nil => rfl
  | cons u l ih => rw [show flatQ (u :: l) = [.int .i64 u.1, .int .i64 u.2] ++ flatQ l from rfl, List.length_append, ih]; simp; omega
def QsB (w : World) (g : Nat) (l : List (Int × Int)) : Prop := ∃ rest : List Value, w.heap[g]? = some (.cells (flatQ l ++ rest).toArray 40 (0, 0))
theorem QsB.lt {w : World} {g : Nat} {l : List (Int × Int)} (h : QsB w g l) : g < w.heap.size := by
  obtain ⟨rest, h⟩ := h
  exact lt_of_block h
theorem QsB.free {w : World} {g : Nat} {l : List (Int × Int)} (h : QsB w g l) (i : Nat) : w.frozen? ⟨g, i, none⟩ = false := by
  obtain ⟨rest, h⟩ := h
  simp [World.frozen?, h]
theorem flatQ_cons (u : Int × Int) (l : List (Int × Int)) : flatQ (u :: l) = .int .i64 u.1 :: .int .i64 u.2 :: flatQ l := rfl
theorem flatQ_at (l : List (Int × Int)) (rest : List Value) : ∀ q : Nat, q < l.length →
    (flatQ l ++ rest)[q * 2]? = some (.int .i64 (l.getD q (0, 0)).1) ∧ (flatQ l ++ rest)[q * 2 + 1]? = some (.int .i64 (l.getD q (0, 0)).2) := by
  induction l with
  | nil => intro q h; simp at h
  | cons u l ih =>
    intro q h
    rw [flatQ_cons]
    cases q with
    | zero => exact ⟨rfl, rfl⟩
    | succ q =>
      have := ih q (by simpa using h)
      rw [show (q + 1) * 2 = q * 2 + 2 by omega]
      exact this
theorem QsB.cells {w : World} {g : Nat} {l : List (Int × Int)} (h : QsB w g l) {q : Nat} (hq : q < l.length) :
    w.cell? ⟨g, q * 2, none⟩ = some (.int .i64 (l.getD q (0, 0)).1) ∧ w.cell? ⟨g, q * 2 + 1, none⟩ = some (.int .i64 (l.getD q (0, 0)).2) := by
  obtain ⟨rest, h⟩ := h
  have f := flatQ_at l rest q hq
  have c : ∀ n : Nat, w.cell? ⟨g, n, none⟩ = (flatQ l ++ rest)[n]? := fun n => by simp only [World.cell?, h]; simp
  rw [c, c]
  exact f
theorem QsB.rd {w : World} {g : Nat} {l : List (Int × Int)} (h : QsB w g l) : RdQ w (some ⟨g, 0, none⟩) l := fun q hq => by
  have c := h.cells hq
  refine ⟨g, 0, rfl, h.lt, ?_⟩
  simpa using c
theorem flatQ_set (l : List (Int × Int)) (rest : List Value) (u : Int × Int) : ∀ q : Nat, q < l.length →
    ((flatQ l ++ rest).set (q * 2) (.int .i64 u.1)).set (q * 2 + 1) (.int .i64 u.2) = flatQ (l.set q u) ++ rest := by
  induction l with
  | nil => intro q h; simp at h
  | cons v l ih =>
    intro q h
    cases q with
    | zero => rfl
    | succ q =>
      have := ih q (by simpa using h)
      rw [show (q + 1) * 2 = q * 2 + 2 by omega, List.set_cons_succ, flatQ_cons, flatQ_cons]
      exact congrArg (fun L => Value.int .i64 v.1 :: .int .i64 v.2 :: L) this
theorem setCell_blockQ {w : World} {g : Nat} {L : List Value} {t : TypeId} (h : w.heap[g]? = some (.cells L.toArray t (0, 0))) (n : Nat) (u : Value) : (w.setCell ⟨g, n, none⟩ u).heap[g]? = some (.cells (L.set n u).toArray t (0, 0)) := by
  have hlt := lt_of_block h
  have h' : w.heap[g] = .cells L.toArray t (0, 0) := by simpa [Array.getElem?_eq_getElem hlt] using h
  show (w.heap.modify g _)[g]? = _
  rw [Array.getElem?_eq_getElem (by simpa using hlt), Array.getElem_modify_self, h']
  simp
theorem flatQ_zero_mem (n : Nat) : ∀ x ∈ flatQ (List.replicate n ((0, 0) : Int × Int)), x = .int .i64 0 := by
  intro x hx
  obtain ⟨u, hu, hx⟩ := List.mem_flatMap.mp hx
  obtain rfl := List.eq_of_mem_replicate hu
  simpa using hx
theorem flatQ_zeros (n : Nat) : madeCells #[.int .i64 0, .int .i64 0] (n * 2) = (flatQ (List.replicate n ((0, 0) : Int × Int))).toArray := by
  apply Array.ext
  · simp [madeCells, flatQ_length]
  · intro i h1 h2
    have e : (flatQ (List.replicate n ((0, 0) : Int × Int))).toArray[i] = .int .i64 0 := flatQ_zero_mem n _ (by simp)
    rw [e]
    have h4 : i % 2 = 0 ∨ i % 2 = 1 := by omega
    rcases h4 with h | h <;> simp [madeCells, h]
def OwnR (B : Nat) (w : World) (v : Value) (l : List (Int × Int)) : Prop := w.ownsRow B 40 2 v l.length (flatQ l)
theorem OwnR.form {B : Nat} {w : World} {v : Value} {l : List (Int × Int)} (h : OwnR B w v l) : ∃ a c, v = .slice a l.length c := by
  obtain ⟨h1, ⟨h2, h3⟩ | ⟨g, cap, cur, e, -⟩⟩ := h
  · exact ⟨_, _, by rw [h2, h3]⟩
  · exact ⟨_, _, e⟩
theorem OwnR.nil (B : Nat) (w : World) : OwnR B w (.slice none 0 0) [] := ⟨rfl, .inl ⟨rfl, rfl⟩⟩
theorem OwnR.keep {B : Nat} {w w' : World} {v : Value} {l : List (Int × Int)} (h : OwnR B w v l) (hb : Below w.heap.size w w') : OwnR B w' v l := rows_keep h hb
theorem OwnR.le {B B' : Nat} {w : World} {v : Value} {l : List (Int × Int)} (h : OwnR B w v l) (hB : B' ≤ B) : OwnR B' w v l := by
  obtain ⟨h1, h2 | ⟨g, cap, cur, e, h3, rest⟩⟩ := h
  · exact ⟨h1, .inl h2⟩
  · exact ⟨h1, .inr ⟨g, cap, cur, e, Nat.le_trans hB h3, rest⟩⟩
theorem OwnR.old {B : Nat} {w : World} {v : Value} {l : List (Int × Int)} (h : OwnR B w v l) (o : Obj) : OwnR B (w.alloc o) v l := h.keep ((Below.refl _ _).alloc (Nat.le_refl _) o)
theorem OwnR.blk {B : Nat} {w : World} {v : Value} {l : List (Int × Int)} (h : OwnR B w v l) : (v = .slice none 0 0 ∧ l = []) ∨ ∃ g cap : Nat, v = .slice (some ⟨g, 0, none⟩) l.length cap ∧ B ≤ g ∧ QsB w g l ∧ l.length ≤ cap := by
  rcases h.2 with ⟨rfl, h0⟩ | ⟨g, cap, cur, rfl, hB, hg, hc, -, -, ht⟩
  · exact .inl ⟨rfl, List.eq_nil_of_length_eq_zero h0⟩
  · refine .inr ⟨g, cap, rfl, hB, ⟨cur.toList.drop (l.length * 2), ?_⟩, hc⟩
    rw [hg]
    congr 1
    congr 1
    rw [← ht, List.take_append_drop]
theorem OwnR.rd {B : Nat} {w : World} {a : Option Addr} {n c : Nat} {l : List (Int × Int)} (h : OwnR B w (.slice a n c) l) : RdQ w a l := by
  rcases h.blk with ⟨e, rfl⟩ | ⟨g, cap, e, -, hi, -⟩
  · exact RdQ.nil _ _
  · injection e with e1 e2 e3
    rw [e1]; exact hi.rd
def QRes (zs : List (Int × Int)) (ok : Bool) (w : World) (e : Ending) (w' : World) : Prop := ∃ v : Value, e = .returned (.tuple #[v, .bool ok]) ∧ OwnR w.heap.size w' v zs ∧ Below w.heap.size w w'
end Go.Proofs.YtcapddcmnjeloaaGreatDoor
end

section
/-
  Chapter 2, in the model: IsRatio, the lowest terms, MakeRatio.
-/
namespace Go.Proofs.YtcapddcmnjeloaaGreatDoor
open Go.RowKit
def ratV (r : Int × Int) : Value := .agg #[.int .i64 r.1, .int .i64 r.2]
end Go.Proofs.YtcapddcmnjeloaaGreatDoor
end

section
/-
  Chapter 2, in the program: lowest terms, MakeRatio, IsRatio.
-/
namespace Go.Proofs.YtcapddcmnjeloaaGreatDoor
open Go.RowKit
set_option maxHeartbeats 400000 in
theorem iLow (n d : Int) (w : World) (hn : -2000000000000000000 ≤ n ∧ n ≤ 2000000000000000000) (hd : -2000000000000000000 ≤ d ∧ d ≤ 2000000000000000000) (hd0 : d ≠ 0) :
    Calls Tryz.prog 91 #[.agg #[.int .i64 n, .int .i64 d]] w (Gives (ratV (low n d)) w) := by
  have hz : (d == 0) = false := by simpa using hd0
  obtain ⟨G, hG, hG0⟩ : ∃ G : Nat, Int.gcd n d = G ∧ 0 < G := ⟨_, rfl, gcd_pos_of n d hd0⟩
  -- the divisor with the sign of d
  obtain ⟨k, hk, hk0, hk1, LN, LD⟩ : ∃ k : Int, (k = if d < 0 then -(G : Int) else G) ∧ (k == 0) = false ∧ (k ≠ 0) ∧ lowN n d = n.tdiv k ∧ lowD n d = d.tdiv k := by
    refine ⟨_, rfl, ?_, ?_, ?_, ?_⟩
    · split <;> (simp; omega)
    · split <;> omega
    · unfold lowN; rw [hG]; split <;> simp [Int.tdiv_neg]
    · unfold lowD; rw [hG]; split <;> simp [Int.tdiv_neg]
  obtain ⟨bn1, bn2⟩ := tdiv_bdw n k (by omega) (by omega)
  obtain ⟨bd1, bd2⟩ := tdiv_bdw d k (by omega) (by omega)
  have hG9 : (G : Int) ≤ 2000000000000000000 := by
    have := Int.le_of_dvd (show (0 : Int) < d.natAbs by omega) (Int.dvd_natAbs.2 (Int.gcd_dvd_right (a := n) (b := d)))
    rw [hG] at this; omega
  have HG := Lib.hid hG
  clear hG
  have L1 := Lib.hid LN
  have L2 := Lib.hid LD
  clear LN LD
  by_cases hs : d < 0
  · rw [if_pos hs] at hk
    have HK := Lib.hid hk
    have hs' : decide (d < 0) = true := by simpa using hs
    clear hk
    go_enter Tryz.func91, Tryz.ntmps91
    go_wp2_with fail
    refine (iGD n d _ (by omega) (by omega)).mono ?_
    rintro e w' ⟨rfl, m, rfl⟩
    rw [HG.out]
    go_wp2_with fail
    rw [← HK.out]
    go_quiet (fail)
    go_wp2_with fail
    by_cases h1 : -400000000 ≤ n.tdiv k ∧ n.tdiv k ≤ 400000000
    · refine (iIsNum_t _ _ h1.1 h1.2).mono ?_
      rintro e w' ⟨rfl, rfl⟩
      go_wp2_with fail
      by_cases h2 : -400000000 ≤ d.tdiv k ∧ d.tdiv k ≤ 400000000
      · have L : Hid (low n d = (n.tdiv k, d.tdiv k)) := by
          have := (low_fits (n := n) (d := d) hd0 (by rw [L1.out, L2.out]; exact ⟨h1.1, h1.2, h2.1, h2.2⟩)).1
          rw [L1.out, L2.out] at this; exact this
        refine (iIsNum_t _ _ h2.1 h2.2).mono ?_
        rintro e w' ⟨rfl, rfl⟩
        go_wp2_with fail
        refine bodyPost_ret (v := ratV (n.tdiv k, d.tdiv k)) (by simp [results, Tryz.results91, go_sem, ratV]) rfl ⟨by rw [L.out], ?_⟩
        repeat (first | exact Below.refl _ _ | refine below_drewN ?_ _ | refine Below.setCell ?_ (by simp) _ | refine Below.alloc ?_ (by simp) _ | (refine Below.alloc ?_ (by simp; omega) _))
      · have L : Hid (low n d = (0, 0)) := low_none (by rw [L1.out, L2.out]; exact fun k => h2 ⟨k.2.2.1, k.2.2.2⟩)
        refine (iIsNum_f _ _ (by omega)).mono ?_
        rintro e w' ⟨rfl, rfl⟩
        clear h2
        go_wp2_with fail
        refine bodyPost_ret (v := ratV (0, 0)) (by simp [results, Tryz.results91, go_sem, ratV]) rfl ⟨by rw [L.out], ?_⟩
        repeat (first | exact Below.refl _ _ | refine below_drewN ?_ _ | refine Below.setCell ?_ (by simp) _ | refine Below.alloc ?_ (by simp) _ | (refine Below.alloc ?_ (by simp; omega) _))
    · have L : Hid (low n d = (0, 0)) := low_none (by rw [L1.out, L2.out]; exact fun k => h1 ⟨k.1, k.2.1⟩)
      refine (iIsNum_f _ _ (by omega)).mono ?_
      rintro e w' ⟨rfl, rfl⟩
      clear h1
      go_wp2_with fail
      refine bodyPost_ret (v := ratV (0, 0)) (by simp [results, Tryz.results91, go_sem, ratV]) rfl ⟨by rw [L.out], ?_⟩
      repeat (first | exact Below.refl _ _ | refine below_drewN ?_ _ | refine Below.setCell ?_ (by simp) _ | refine Below.alloc ?_ (by simp) _ | (refine Below.alloc ?_ (by simp; omega) _))
  · rw [if_neg hs] at hk
    have HK := Lib.hid hk
    have hs' : decide (d < 0) = false := by simpa using hs
    clear hk
    go_enter Tryz.func91, Tryz.ntmps91
    go_wp2_with fail
    refine (iGD n d _ (by omega) (by omega)).mono ?_
    rintro e w' ⟨rfl, m, rfl⟩
    rw [HG.out]
    go_wp2_with fail
    rw [← HK.out]
    go_quiet (fail)
    go_wp2_with fail
    by_cases h1 : -400000000 ≤ n.tdiv k ∧ n.tdiv k ≤ 400000000
    · refine (iIsNum_t _ _ h1.1 h1.2).mono ?_
      rintro e w' ⟨rfl, rfl⟩
      go_wp2_with fail
      by_cases h2 : -400000000 ≤ d.tdiv k ∧ d.tdiv k ≤ 400000000
      · have L : Hid (low n d = (n.tdiv k, d.tdiv k)) := by
          have := (low_fits (n := n) (d := d) hd0 (by rw [L1.out, L2.out]; exact ⟨h1.1, h1.2, h2.1, h2.2⟩)).1
          rw [L1.out, L2.out] at this; exact this
        refine (iIsNum_t _ _ h2.1 h2.2).mono ?_
        rintro e w' ⟨rfl, rfl⟩
        go_wp2_with fail
        refine bodyPost_ret (v := ratV (n.tdiv k, d.tdiv k)) (by simp [results, Tryz.results91, go_sem, ratV]) rfl ⟨by rw [L.out], ?_⟩
        repeat (first | exact Below.refl _ _ | refine below_drewN ?_ _ | refine Below.setCell ?_ (by simp) _ | refine Below.alloc ?_ (by simp) _ | (refine Below.alloc ?_ (by simp; omega) _))
      · have L : Hid (low n d = (0, 0)) := low_none (by rw [L1.out, L2.out]; exact fun k => h2 ⟨k.2.2.1, k.2.2.2⟩)
        refine (iIsNum_f _ _ (by omega)).mono ?_
        rintro e w' ⟨rfl, rfl⟩
        clear h2
        go_wp2_with fail
        refine bodyPost_ret (v := ratV (0, 0)) (by simp [results, Tryz.results91, go_sem, ratV]) rfl ⟨by rw [L.out], ?_⟩
        repeat (first | exact Below.refl _ _ | refine below_drewN ?_ _ | refine Below.setCell ?_ (by simp) _ | refine Below.alloc ?_ (by simp) _ | (refine Below.alloc ?_ (by simp; omega) _))
    · have L : Hid (low n d = (0, 0)) := low_none (by rw [L1.out, L2.out]; exact fun k => h1 ⟨k.1, k.2.1⟩)
      refine (iIsNum_f _ _ (by omega)).mono ?_
      rintro e w' ⟨rfl, rfl⟩
      clear h1
      go_wp2_with fail
      refine bodyPost_ret (v := ratV (0, 0)) (by simp [results, Tryz.results91, go_sem, ratV]) rfl ⟨by rw [L.out], ?_⟩
      repeat (first | exact Below.refl _ _ | refine below_drewN ?_ _ | refine Below.setCell ?_ (by simp) _ | refine Below.alloc ?_ (by simp) _ | (refine Below.alloc ?_ (by simp; omega) _))
end Go.Proofs.YtcapddcmnjeloaaGreatDoor
end

section
/-
  Chapter 2, in the program: MakeRatio, IsRatio.
-/
namespace Go.Proofs.YtcapddcmnjeloaaGreatDoor
open Go.RowKit
theorem iLow0 (n : Int) (w : World) :
    Calls Tryz.prog 91 #[.agg #[.int .i64 n, .int .i64 0]] w (Gives (ratV (low n 0)) w) := by
  go_enter Tryz.func91, Tryz.ntmps91
  go_wp2_with fail
  refine bodyPost_ret (v := ratV (0, 0)) (by simp [results, Tryz.results91, go_sem, ratV]) rfl ⟨by rw [low_zero], ?_⟩
  exact ((Below.refl _ _).alloc (Nat.le_refl _) _).alloc (by simp) _
theorem iLowA (n d : Int) (w : World) (hn : -2000000000000000000 ≤ n ∧ n ≤ 2000000000000000000) (hd : -2000000000000000000 ≤ d ∧ d ≤ 2000000000000000000) :
    Calls Tryz.prog 91 #[.agg #[.int .i64 n, .int .i64 d]] w (Gives (ratV (low n d)) w) := by
  by_cases h : d = 0
  · subst h; exact iLow0 n w
  · exact iLow n d w hn hd h
theorem iMk (n d : Int) (w : World) : Calls Tryz.prog 77 #[.int .i64 n, .int .i64 d] w (Gives (ratV (mkRat n d)) w) := by
  by_cases hn : -400000000 ≤ n ∧ n ≤ 400000000
  · by_cases hd : -400000000 ≤ d ∧ d ≤ 400000000
    · rw [mkRat_in ⟨hn, hd⟩]
      go_enter Tryz.func77, Tryz.ntmps77
      go_wp2_with fail
      refine (iIsNum_t _ _ hn.1 hn.2).mono ?_
      rintro e w' ⟨rfl, rfl⟩
      go_wp2_with fail
      refine (iIsNum_t _ _ hd.1 hd.2).mono ?_
      rintro e w' ⟨rfl, rfl⟩
      go_wp2_with fail
      refine (iLowA n d _ (by omega) (by omega)).mono ?_
      rintro e w1 ⟨rfl, hb⟩
      have K0 : Hid (Blk2 w1 w.heap.size 40 (.int .i64 0) (.int .i64 0)) := (Blk2.at_ _ _ _ rfl).keep hb (by simp)
      obtain ⟨C0, C1, F0, F1⟩ := K0.out.all
      have B : Hid (Below w.heap.size w w1) := ((Below.refl _ _).alloc (Nat.le_refl _) _).trans (hb.mono (by simp))
      clear hb
      unfold ratV
      go_wp2_with fail
      obtain ⟨E0, E1, -, -⟩ := ((K0.out.set0 (.int .i64 (low n d).1)).set1 (.int .i64 (low n d).2)).all
      refine bodyPost_ret (v := ratV (low n d)) (by simp [results, Tryz.results77, go_sem, E0, E1, ratV]) rfl ⟨rfl, ?_⟩
      exact (B.out.setCell (Nat.le_refl _) _).setCell (Nat.le_refl _) _
    · rw [mkRat_out (fun k => hd k.2)]
      have hd' : d < -400000000 ∨ 400000000 < d := by omega
      clear hd
      go_enter Tryz.func77, Tryz.ntmps77
      go_wp2_with fail
      refine (iIsNum_t _ _ hn.1 hn.2).mono ?_
      rintro e w' ⟨rfl, rfl⟩
      go_wp2_with fail
      refine (iIsNum_f _ _ hd').mono ?_
      rintro e w' ⟨rfl, rfl⟩
      go_wp2_with fail
      refine bodyPost_ret (v := ratV (0, 0)) (by simp [results, Tryz.results77, go_sem, ratV]) rfl ⟨rfl, ?_⟩
      exact (Below.refl _ _).alloc (Nat.le_refl _) _
  · rw [mkRat_out (fun k => hn k.1)]
    have hn' : n < -400000000 ∨ 400000000 < n := by omega
    clear hn
    go_enter Tryz.func77, Tryz.ntmps77
    go_wp2_with fail
    refine (iIsNum_f _ _ hn').mono ?_
    rintro e w' ⟨rfl, rfl⟩
    go_wp2_with fail
    refine bodyPost_ret (v := ratV (0, 0)) (by simp [results, Tryz.results77, go_sem, ratV]) rfl ⟨rfl, ?_⟩
    exact (Below.refl _ _).alloc (Nat.le_refl _) _
theorem eqRat (n d a b : Int) (w : World) : (Op.equalIn 10000 40 (.agg #[.int .i64 n, .int .i64 d]) (.agg #[.int .i64 a, .int .i64 b])).run Tryz.prog w = .ok (n == a && d == b) w := by
  by_cases h1 : n = a
  · subst h1
    by_cases h2 : d = b
    · subst h2
      simp [go_sem]
    · have h2' : (d == b) = false := by simpa using h2
      simp [go_sem, h2']
  · have h1' : (n == a) = false := by simpa using h1
    simp [go_sem, h1']
theorem isRat_beq (n d : Int) (h : ¬ (n = 0 ∧ d = 0)) : (n == (mkRat n d).1 && d == (mkRat n d).2) = isRat n d := by
  rw [isRat_mk n d h]
  generalize mkRat n d = r
  obtain ⟨p, q⟩ := r
  rw [Bool.eq_iff_iff]
  simp only [Bool.and_eq_true, beq_iff_eq, decide_eq_true_eq, Prod.mk.injEq]
  exact ⟨fun h => ⟨h.1.symm, h.2.symm⟩, fun h => ⟨h.1.symm, h.2.symm⟩⟩
set_option maxHeartbeats 2000000 in
theorem iIsRat (n d : Int) (w : World) : Calls Tryz.prog 59 #[.agg #[.int .i64 n, .int .i64 d]] w (Gives (.bool (isRat n d)) w) := by
  by_cases h0 : n = 0 ∧ d = 0
  · obtain ⟨rfl, rfl⟩ := h0
    have E : Hid (isRat 0 0 = false) := decide_eq_false not_isRat_zero
    go_enter Tryz.func59, Tryz.ntmps59
    go_wp2_with fail
    go_quiet (fail)
    go_wp2_with fail
    go_ret
    exact ⟨by rw [E.out]; rfl, below_drewN ((Below.refl _ _).alloc (Nat.le_refl _) _) _⟩
  · have q1 : ∀ w : World, (Op.equalIn 10000 40 (.agg #[.int .i64 n, .int .i64 d]) (.agg #[.int .i64 0, .int .i64 0])).run Tryz.prog w = .ok false w := fun w => by
      rw [eqRat, show (n == 0 && d == 0) = false by simp; omega]
    have q2 : ∀ w : World, (Op.equalIn 10000 40 (.agg #[.int .i64 n, .int .i64 d]) (.agg #[.int .i64 (mkRat n d).1, .int .i64 (mkRat n d).2])).run Tryz.prog w = .ok (isRat n d) w := fun w => by
      rw [eqRat, isRat_beq n d h0]
    clear h0
    go_enter Tryz.func59, Tryz.ntmps59
    go_wp2_with fail
    go_region_with (go_at_call 77; refine (iMk _ _ _).mono ?_; rintro e w1 ⟨rfl, hb⟩; obtain ⟨C0, C1, -, -⟩ := (Blk2.keep (b := w.heap.size) (t := 40) (p := .int .i64 n) (q := .int .i64 d) (by first | exact Blk2.at_ _ _ _ rfl | exact (Blk2.at_ _ _ _ rfl).drewN _ | exact (Blk2.at_ _ _ _ rfl).drew) hb (by simp)).all; unfold ratV)
    all_goals
      go_wp2_with fail
      go_ret
      refine ⟨rfl, ?_⟩
      have B : Below w.heap.size w w1 := Below.trans (by repeat (first | exact Below.refl _ _ | refine below_drewN ?_ _ | refine Below.drew ?_ | refine Below.alloc ?_ (by simp) _)) (hb.mono (by simp))
      exact B
end Go.Proofs.YtcapddcmnjeloaaGreatDoor
end

section
/-
  Chapter 2, in the model: sums, products, quotients.
-/
namespace Go.Proofs.YtcapddcmnjeloaaGreatDoor
open Go.RowKit
end Go.Proofs.YtcapddcmnjeloaaGreatDoor
end

section
/-
  Chapter 2, in the program: sums, products, quotients.
-/
namespace Go.Proofs.YtcapddcmnjeloaaGreatDoor
open Go.RowKit
set_option maxHeartbeats 800000 in
theorem iAdd (a b c d : Int) (w : World) : Calls Tryz.prog 45 #[.agg #[.int .i64 a, .int .i64 b], .agg #[.int .i64 c, .int .i64 d]] w (Gives (ratV (addR a b c d)) w) := by
  rcases Bool.eq_false_or_eq_true (isRat a b) with ha | ha
  · rcases Bool.eq_false_or_eq_true (isRat c d) with hc | hc
    · have L : Hid (addR a b c d = low (a * d + c * b) (b * d)) := by show addR a b c d = _; unfold addR; rw [ha, hc]; rfl
      have pa := isRat_in (of_decide_eq_true ha)
      have pc := isRat_in (of_decide_eq_true hc)
      obtain ⟨m1, m2⟩ := mul_sm a d pa.1 pc.2
      obtain ⟨m3, m4⟩ := mul_sm c b pc.1 pa.2
      obtain ⟨m5, m6⟩ := mul_sm b d pa.2 pc.2
      obtain ⟨m7, m8⟩ := mul_sm a c pa.1 pc.1
      obtain ⟨m9, m10⟩ := mul_sm b c pa.2 pc.1
      go_enter Tryz.func45, Tryz.ntmps45
      go_wp2_with fail
      refine (iIsRat a b _).mono ?_
      rintro e w1 ⟨rfl, hb⟩
      have K0 : Hid (Blk2 w1 w.heap.size 40 (.int .i64 a) (.int .i64 b)) := (((Blk2.at_ _ _ _ rfl).old _).old _).keep hb (by simp <;> omega)
      have K1 : Hid (Blk2 w1 (w.heap.size + 1) 40 (.int .i64 c) (.int .i64 d)) := ((Blk2.at_ _ _ _ (by simp)).old _).keep hb (by simp <;> omega)
      have K2 : Hid (Blk2 w1 (w.heap.size + 1 + 1) 40 (.int .i64 0) (.int .i64 0)) := (Blk2.at_ _ _ _ (by simp)).keep hb (by simp <;> omega)
      have B : Hid (Below w.heap.size w w1) := Below.trans (by repeat (first | exact Below.refl _ _ | refine Below.alloc ?_ (by simp <;> omega) _)) (hb.mono (by simp <;> omega))
      obtain ⟨K0a1, K0b1, K0c1, K0d1⟩ := K0.out.all
      obtain ⟨K1a1, K1b1, K1c1, K1d1⟩ := K1.out.all
      obtain ⟨K2a1, K2b1, K2c1, K2d1⟩ := K2.out.all
      clear hb
      rw [ha]
      go_wp2_with fail
      refine (iIsRat c d _).mono ?_
      rintro e w2 ⟨rfl, hb⟩
      have K0 : Hid (Blk2 w2 w.heap.size 40 (.int .i64 a) (.int .i64 b)) := K0.out.keep hb K0.out.lt
      have K1 : Hid (Blk2 w2 (w.heap.size + 1) 40 (.int .i64 c) (.int .i64 d)) := K1.out.keep hb K1.out.lt
      have K2 : Hid (Blk2 w2 (w.heap.size + 1 + 1) 40 (.int .i64 0) (.int .i64 0)) := K2.out.keep hb K2.out.lt
      have B := Lib.hid (B.out.trans (hb.mono B.out.size))
      obtain ⟨K0a2, K0b2, K0c2, K0d2⟩ := K0.out.all
      obtain ⟨K1a2, K1b2, K1c2, K1d2⟩ := K1.out.all
      obtain ⟨K2a2, K2b2, K2c2, K2d2⟩ := K2.out.all
      clear hb
      rw [hc]
      go_wp2_with fail
      refine (iLowA (a * d + c * b) (b * d) _ (by omega) (by omega)).mono ?_
      rintro e w3 ⟨rfl, hb⟩
      have K2 : Hid (Blk2 w3 (w.heap.size + 1 + 1) 40 (.int .i64 0) (.int .i64 0)) := K2.out.keep hb K2.out.lt
      have B := Lib.hid (B.out.trans (hb.mono B.out.size))
      obtain ⟨K2a3, K2b3, K2c3, K2d3⟩ := K2.out.all
      clear hb
      unfold ratV
      go_wp2_with fail
      obtain ⟨E0, E1, -, -⟩ := ((K2.out.set0 (.int .i64 (low (a * d + c * b) (b * d)).1)).set1 (.int .i64 (low (a * d + c * b) (b * d)).2)).all
      refine bodyPost_ret (v := ratV (low (a * d + c * b) (b * d))) (by simp [results, Tryz.results45, go_sem, E0, E1, ratV]) rfl ⟨by rw [L.out], ?_⟩
      exact (B.out.setCell (by show w.heap.size ≤ w.heap.size + 1 + 1; omega) _).setCell (by show w.heap.size ≤ w.heap.size + 1 + 1; omega) _
    · have L : Hid (addR a b c d = (0, 0)) := by show addR a b c d = _; unfold addR; rw [ha, hc]; rfl
      go_enter Tryz.func45, Tryz.ntmps45
      go_wp2_with fail
      refine (iIsRat a b _).mono ?_
      rintro e w1 ⟨rfl, hb⟩
      have K0 : Hid (Blk2 w1 w.heap.size 40 (.int .i64 a) (.int .i64 b)) := (((Blk2.at_ _ _ _ rfl).old _).old _).keep hb (by simp <;> omega)
      have K1 : Hid (Blk2 w1 (w.heap.size + 1) 40 (.int .i64 c) (.int .i64 d)) := ((Blk2.at_ _ _ _ (by simp)).old _).keep hb (by simp <;> omega)
      have K2 : Hid (Blk2 w1 (w.heap.size + 1 + 1) 40 (.int .i64 0) (.int .i64 0)) := (Blk2.at_ _ _ _ (by simp)).keep hb (by simp <;> omega)
      have B : Hid (Below w.heap.size w w1) := Below.trans (by repeat (first | exact Below.refl _ _ | refine Below.alloc ?_ (by simp <;> omega) _)) (hb.mono (by simp <;> omega))
      obtain ⟨K0a1, K0b1, K0c1, K0d1⟩ := K0.out.all
      obtain ⟨K1a1, K1b1, K1c1, K1d1⟩ := K1.out.all
      obtain ⟨K2a1, K2b1, K2c1, K2d1⟩ := K2.out.all
      clear hb
      rw [ha]
      go_wp2_with fail
      refine (iIsRat c d _).mono ?_
      rintro e w2 ⟨rfl, hb⟩
      have K0 : Hid (Blk2 w2 w.heap.size 40 (.int .i64 a) (.int .i64 b)) := K0.out.keep hb K0.out.lt
      have K1 : Hid (Blk2 w2 (w.heap.size + 1) 40 (.int .i64 c) (.int .i64 d)) := K1.out.keep hb K1.out.lt
      have K2 : Hid (Blk2 w2 (w.heap.size + 1 + 1) 40 (.int .i64 0) (.int .i64 0)) := K2.out.keep hb K2.out.lt
      have B := Lib.hid (B.out.trans (hb.mono B.out.size))
      obtain ⟨K0a2, K0b2, K0c2, K0d2⟩ := K0.out.all
      obtain ⟨K1a2, K1b2, K1c2, K1d2⟩ := K1.out.all
      obtain ⟨K2a2, K2b2, K2c2, K2d2⟩ := K2.out.all
      clear hb
      rw [hc]
      go_wp2_with fail
      obtain ⟨E0, E1, -, -⟩ := ((K2.out.set0 (.int .i64 0)).set1 (.int .i64 0)).all
      refine bodyPost_ret (v := ratV (0, 0)) (by simp [results, Tryz.results45, go_sem, E0, E1, ratV]) rfl ⟨by rw [L.out], ?_⟩
      exact (B.out.setCell (by show w.heap.size ≤ w.heap.size + 1 + 1; omega) _).setCell (by show w.heap.size ≤ w.heap.size + 1 + 1; omega) _
  · have L : Hid (addR a b c d = (0, 0)) := by show addR a b c d = _; unfold addR; rw [ha]; rfl
    go_enter Tryz.func45, Tryz.ntmps45
    go_wp2_with fail
    refine (iIsRat a b _).mono ?_
    rintro e w1 ⟨rfl, hb⟩
    have K0 : Hid (Blk2 w1 w.heap.size 40 (.int .i64 a) (.int .i64 b)) := (((Blk2.at_ _ _ _ rfl).old _).old _).keep hb (by simp <;> omega)
    have K1 : Hid (Blk2 w1 (w.heap.size + 1) 40 (.int .i64 c) (.int .i64 d)) := ((Blk2.at_ _ _ _ (by simp)).old _).keep hb (by simp <;> omega)
    have K2 : Hid (Blk2 w1 (w.heap.size + 1 + 1) 40 (.int .i64 0) (.int .i64 0)) := (Blk2.at_ _ _ _ (by simp)).keep hb (by simp <;> omega)
    have B : Hid (Below w.heap.size w w1) := Below.trans (by repeat (first | exact Below.refl _ _ | refine Below.alloc ?_ (by simp <;> omega) _)) (hb.mono (by simp <;> omega))
    obtain ⟨K0a1, K0b1, K0c1, K0d1⟩ := K0.out.all
    obtain ⟨K1a1, K1b1, K1c1, K1d1⟩ := K1.out.all
    obtain ⟨K2a1, K2b1, K2c1, K2d1⟩ := K2.out.all
    clear hb
    rw [ha]
    go_wp2_with fail
    obtain ⟨E0, E1, -, -⟩ := ((K2.out.set0 (.int .i64 0)).set1 (.int .i64 0)).all
    refine bodyPost_ret (v := ratV (0, 0)) (by simp [results, Tryz.results45, go_sem, E0, E1, ratV]) rfl ⟨by rw [L.out], ?_⟩
    exact (B.out.setCell (by show w.heap.size ≤ w.heap.size + 1 + 1; omega) _).setCell (by show w.heap.size ≤ w.heap.size + 1 + 1; omega) _
set_option maxHeartbeats 800000 in
theorem iMul (a b c d : Int) (w : World) : Calls Tryz.prog 46 #[.agg #[.int .i64 a, .int .i64 b], .agg #[.int .i64 c, .int .i64 d]] w (Gives (ratV (mulR a b c d)) w) := by
  rcases Bool.eq_false_or_eq_true (isRat a b) with ha | ha
  · rcases Bool.eq_false_or_eq_true (isRat c d) with hc | hc
    · have L : Hid (mulR a b c d = low (a * c) (b * d)) := by show mulR a b c d = _; unfold mulR; rw [ha, hc]; rfl
      have pa := isRat_in (of_decide_eq_true ha)
      have pc := isRat_in (of_decide_eq_true hc)
      obtain ⟨m1, m2⟩ := mul_sm a d pa.1 pc.2
      obtain ⟨m3, m4⟩ := mul_sm c b pc.1 pa.2
      obtain ⟨m5, m6⟩ := mul_sm b d pa.2 pc.2
      obtain ⟨m7, m8⟩ := mul_sm a c pa.1 pc.1
      obtain ⟨m9, m10⟩ := mul_sm b c pa.2 pc.1
      go_enter Tryz.func46, Tryz.ntmps46
      go_wp2_with fail
      refine (iIsRat a b _).mono ?_
      rintro e w1 ⟨rfl, hb⟩
      have K0 : Hid (Blk2 w1 w.heap.size 40 (.int .i64 a) (.int .i64 b)) := (((Blk2.at_ _ _ _ rfl).old _).old _).keep hb (by simp <;> omega)
      have K1 : Hid (Blk2 w1 (w.heap.size + 1) 40 (.int .i64 c) (.int .i64 d)) := ((Blk2.at_ _ _ _ (by simp)).old _).keep hb (by simp <;> omega)
      have K2 : Hid (Blk2 w1 (w.heap.size + 1 + 1) 40 (.int .i64 0) (.int .i64 0)) := (Blk2.at_ _ _ _ (by simp)).keep hb (by simp <;> omega)
      have B : Hid (Below w.heap.size w w1) := Below.trans (by repeat (first | exact Below.refl _ _ | refine Below.alloc ?_ (by simp <;> omega) _)) (hb.mono (by simp <;> omega))
      obtain ⟨K0a1, K0b1, K0c1, K0d1⟩ := K0.out.all
      obtain ⟨K1a1, K1b1, K1c1, K1d1⟩ := K1.out.all
      obtain ⟨K2a1, K2b1, K2c1, K2d1⟩ := K2.out.all
      clear hb
      rw [ha]
      go_wp2_with fail
      refine (iIsRat c d _).mono ?_
      rintro e w2 ⟨rfl, hb⟩
      have K0 : Hid (Blk2 w2 w.heap.size 40 (.int .i64 a) (.int .i64 b)) := K0.out.keep hb K0.out.lt
      have K1 : Hid (Blk2 w2 (w.heap.size + 1) 40 (.int .i64 c) (.int .i64 d)) := K1.out.keep hb K1.out.lt
      have K2 : Hid (Blk2 w2 (w.heap.size + 1 + 1) 40 (.int .i64 0) (.int .i64 0)) := K2.out.keep hb K2.out.lt
      have B := Lib.hid (B.out.trans (hb.mono B.out.size))
      obtain ⟨K0a2, K0b2, K0c2, K0d2⟩ := K0.out.all
      obtain ⟨K1a2, K1b2, K1c2, K1d2⟩ := K1.out.all
      obtain ⟨K2a2, K2b2, K2c2, K2d2⟩ := K2.out.all
      clear hb
      rw [hc]
      go_wp2_with fail
      refine (iLowA (a * c) (b * d) _ (by omega) (by omega)).mono ?_
      rintro e w3 ⟨rfl, hb⟩
      have K2 : Hid (Blk2 w3 (w.heap.size + 1 + 1) 40 (.int .i64 0) (.int .i64 0)) := K2.out.keep hb K2.out.lt
      have B := Lib.hid (B.out.trans (hb.mono B.out.size))
      obtain ⟨K2a3, K2b3, K2c3, K2d3⟩ := K2.out.all
      clear hb
      unfold ratV
      go_wp2_with fail
      obtain ⟨E0, E1, -, -⟩ := ((K2.out.set0 (.int .i64 (low (a * c) (b * d)).1)).set1 (.int .i64 (low (a * c) (b * d)).2)).all
      refine bodyPost_ret (v := ratV (low (a * c) (b * d))) (by simp [results, Tryz.results46, go_sem, E0, E1, ratV]) rfl ⟨by rw [L.out], ?_⟩
      exact (B.out.setCell (by show w.heap.size ≤ w.heap.size + 1 + 1; omega) _).setCell (by show w.heap.size ≤ w.heap.size + 1 + 1; omega) _
    · have L : Hid (mulR a b c d = (0, 0)) := by show mulR a b c d = _; unfold mulR; rw [ha, hc]; rfl
      go_enter Tryz.func46, Tryz.ntmps46
      go_wp2_with fail
      refine (iIsRat a b _).mono ?_
      rintro e w1 ⟨rfl, hb⟩
      have K0 : Hid (Blk2 w1 w.heap.size 40 (.int .i64 a) (.int .i64 b)) := (((Blk2.at_ _ _ _ rfl).old _).old _).keep hb (by simp <;> omega)
      have K1 : Hid (Blk2 w1 (w.heap.size + 1) 40 (.int .i64 c) (.int .i64 d)) := ((Blk2.at_ _ _ _ (by simp)).old _).keep hb (by simp <;> omega)
      have K2 : Hid (Blk2 w1 (w.heap.size + 1 + 1) 40 (.int .i64 0) (.int .i64 0)) := (Blk2.at_ _ _ _ (by simp)).keep hb (by simp <;> omega)
      have B : Hid (Below w.heap.size w w1) := Below.trans (by repeat (first | exact Below.refl _ _ | refine Below.alloc ?_ (by simp <;> omega) _)) (hb.mono (by simp <;> omega))
      obtain ⟨K0a1, K0b1, K0c1, K0d1⟩ := K0.out.all
      obtain ⟨K1a1, K1b1, K1c1, K1d1⟩ := K1.out.all
      obtain ⟨K2a1, K2b1, K2c1, K2d1⟩ := K2.out.all
      clear hb
      rw [ha]
      go_wp2_with fail
      refine (iIsRat c d _).mono ?_
      rintro e w2 ⟨rfl, hb⟩
      have K0 : Hid (Blk2 w2 w.heap.size 40 (.int .i64 a) (.int .i64 b)) := K0.out.keep hb K0.out.lt
      have K1 : Hid (Blk2 w2 (w.heap.size + 1) 40 (.int .i64 c) (.int .i64 d)) := K1.out.keep hb K1.out.lt
      have K2 : Hid (Blk2 w2 (w.heap.size + 1 + 1) 40 (.int .i64 0) (.int .i64 0)) := K2.out.keep hb K2.out.lt
      have B := Lib.hid (B.out.trans (hb.mono B.out.size))
      obtain ⟨K0a2, K0b2, K0c2, K0d2⟩ := K0.out.all
      obtain ⟨K1a2, K1b2, K1c2, K1d2⟩ := K1.out.all
      obtain ⟨K2a2, K2b2, K2c2, K2d2⟩ := K2.out.all
      clear hb
      rw [hc]
      go_wp2_with fail
      obtain ⟨E0, E1, -, -⟩ := ((K2.out.set0 (.int .i64 0)).set1 (.int .i64 0)).all
      refine bodyPost_ret (v := ratV (0, 0)) (by simp [results, Tryz.results46, go_sem, E0, E1, ratV]) rfl ⟨by rw [L.out], ?_⟩
      exact (B.out.setCell (by show w.heap.size ≤ w.heap.size + 1 + 1; omega) _).setCell (by show w.heap.size ≤ w.heap.size + 1 + 1; omega) _
  · have L : Hid (mulR a b c d = (0, 0)) := by show mulR a b c d = _; unfold mulR; rw [ha]; rfl
    go_enter Tryz.func46, Tryz.ntmps46
    go_wp2_with fail
    refine (iIsRat a b _).mono ?_
    rintro e w1 ⟨rfl, hb⟩
    have K0 : Hid (Blk2 w1 w.heap.size 40 (.int .i64 a) (.int .i64 b)) := (((Blk2.at_ _ _ _ rfl).old _).old _).keep hb (by simp <;> omega)
    have K1 : Hid (Blk2 w1 (w.heap.size + 1) 40 (.int .i64 c) (.int .i64 d)) := ((Blk2.at_ _ _ _ (by simp)).old _).keep hb (by simp <;> omega)
    have K2 : Hid (Blk2 w1 (w.heap.size + 1 + 1) 40 (.int .i64 0) (.int .i64 0)) := (Blk2.at_ _ _ _ (by simp)).keep hb (by simp <;> omega)
    have B : Hid (Below w.heap.size w w1) := Below.trans (by repeat (first | exact Below.refl _ _ | refine Below.alloc ?_ (by simp <;> omega) _)) (hb.mono (by simp <;> omega))
    obtain ⟨K0a1, K0b1, K0c1, K0d1⟩ := K0.out.all
    obtain ⟨K1a1, K1b1, K1c1, K1d1⟩ := K1.out.all
    obtain ⟨K2a1, K2b1, K2c1, K2d1⟩ := K2.out.all
    clear hb
    rw [ha]
    go_wp2_with fail
    obtain ⟨E0, E1, -, -⟩ := ((K2.out.set0 (.int .i64 0)).set1 (.int .i64 0)).all
    refine bodyPost_ret (v := ratV (0, 0)) (by simp [results, Tryz.results46, go_sem, E0, E1, ratV]) rfl ⟨by rw [L.out], ?_⟩
    exact (B.out.setCell (by show w.heap.size ≤ w.heap.size + 1 + 1; omega) _).setCell (by show w.heap.size ≤ w.heap.size + 1 + 1; omega) _
end Go.Proofs.YtcapddcmnjeloaaGreatDoor
end

section
/-
  Chapter 11, in the program: IsRational.
-/
namespace Go.Proofs.YtcapddcmnjeloaaGreatDoor
set_option maxRecDepth 100000
open Go.RowKit
theorem ratG {W w' : World} {g : Nat} {t2 : TypeId} {s1 s2 z1 z2 : Value} {y1 y2 : Addr} (h1 : Blk2 W g t2 s1 s2) (hz1 : W.cell? y1 = some z1) (hz2 : W.cell? y2 = some z2) (hb : Below W.heap.size W w') :
    w'.cell? ⟨g, 0, none⟩ = some s1 ∧ w'.cell? ⟨g, 1, none⟩ = some s2 ∧ w'.cell? y1 = some z1 ∧ w'.cell? y2 = some z2 := by
  obtain ⟨b1, b2, -, -⟩ := (h1.keep hb h1.lt).all
  have far : ∀ {a : Addr} {u : Value}, W.cell? a = some u → w'.cell? a = some u := fun {a u} h => (hb.cell (World.block_lt_of_cell? W a h)).trans h
  exact ⟨b1, b2, far hz1, far hz2⟩
set_option maxHeartbeats 4000000 in
theorem iRational (r c : Int) (a : Option Addr) (m : Nat) (xs : List Int) (ab : Option Addr) (mb : Nat) (bs : List Int) (az : Option Addr) (mz : Nat) (zs : List (Int × Int)) (w : World) (h : Rd w a xs) (ha : CelA a xs.length m) (hn : xs.length ≤ 16777216) (hb : Rd w ab bs) (hbn : bs.length ≤ 16777216) (hz : RdQ w az zs) (hzn : zs.length ≤ 16777216) :
    Calls Tryz.prog 13 #[.agg #[.int .i64 r, .int .i64 c, .slice a xs.length m], .slice ab bs.length mb, .slice az zs.length mz] w (Gives (.bool (irB r c xs bs zs)) w) := by
  have IM : Hid (∀ w', Below w.heap.size w w' → Calls Tryz.prog 43 #[.agg #[.int .i64 r, .int .i64 c, .slice a xs.length m]] w' (Gives (.bool (isMat r c xs)) w')) := fun w' hb => iIsMat r c a m xs w' (h.below hb) hn
  have K0 : Hid (Blk3 (w.alloc (.cells #[.int .i64 r, .int .i64 c, .slice a xs.length m] 26)) w.heap.size 26 (.int .i64 r) (.int .i64 c) (.slice a xs.length m)) := Blk3.at_ _ _ _ _ rfl
  have B0 : Hid (Below w.heap.size w (w.alloc (.cells #[.int .i64 r, .int .i64 c, .slice a xs.length m] 26))) := (Below.refl _ _).alloc (Nat.le_refl _) _
  rcases Bool.eq_false_or_eq_true (isMat r c xs) with hm | hm
  rotate_left
  · have V : Hid (irB r c xs bs zs = false) := irB_false (.inl hm)
    go_enter Tryz.func13, Tryz.ntmps13
    go_wp2_with fail
    refine (IM.out _ B0.out).mono ?_
    rintro e w1 ⟨rfl, hb1⟩
    rw [hm]
    have B1 := Lib.hid (B0.out.trans (hb1.mono B0.out.size))
    clear hb1
    go_wp2_with fail
    go_ret
    exact ⟨by rw [V.out]; rfl, B1.out⟩
  obtain ⟨⟨r0, r1⟩, ⟨c0, c1⟩, hl, hnx⟩ := isMat_says hm
  obtain ⟨R, rfl⟩ := Int.eq_ofNat_of_zero_le r0
  obtain ⟨C, rfl⟩ := Int.eq_ofNat_of_zero_le c0
  have hl : xs.length = R * C := by rw [← Int.natCast_mul] at hl; omega
  have R24 : R ≤ 24 := by omega
  have C24 : C ≤ 24 := by omega
  have V1 : Hid ((bs.length : Int) ≠ R → irB R C xs bs zs = false) := fun h => irB_false (.inr (.inl h))
  have V2 : Hid ((zs.length : Int) ≠ C → irB R C xs bs zs = false) := fun h => irB_false (.inr (.inr h))
  have VR : Hid (∀ i, i < R → rowB C xs bs zs i = false → irB R C xs bs zs = false) := fun i hi h => irB_row hi h
  have VT : Hid (bs.length = R → zs.length = C → (∀ i, i < R → rowB C xs bs zs i = true) → irB R C xs bs zs = true) := fun h1 h2 h3 => irB_true hm h1 h2 h3
  have RX : Hid (Rd w a xs) := h
  have RB : Hid (Rd w ab bs) := hb
  have RZ : Hid (RdQ w az zs) := hz
  have HA : Hid (CelA a xs.length m) := ha
  generalize irB R C xs bs zs = bb at V1 V2 VR VT ⊢
  obtain ⟨L, hL⟩ : ∃ L, xs.length = L := ⟨_, rfl⟩
  rw [hL] at IM K0 B0 hn hl HA ⊢
  obtain ⟨Lb, hLb⟩ : ∃ Lb, bs.length = Lb := ⟨_, rfl⟩
  obtain ⟨Lz, hLz⟩ : ∃ Lz, zs.length = Lz := ⟨_, rfl⟩
  rw [hLb] at V1 VT hbn ⊢
  rw [hLz] at V2 VT hzn ⊢
  have XB := Lib.hid hLb
  have XN := Lib.hid hL
  have XZ := Lib.hid hLz
  have L6 : L ≤ 600 := by rw [hl]; exact Nat.le_trans (Nat.mul_le_mul R24 C24) (by decide)
  have RW : Hid (∀ i, i < R → ∀ w', Calls Tryz.prog 44 #[.agg #[.int .i64 R, .int .i64 C, .slice a L m], .int .i64 i] w' (RowAt a (i * C) C w')) := fun i hi w' => iRowIn R C i (i * C) L m a w' HA.out.spot rfl (by rw [hl, ← Nat.succ_mul]; exact Nat.mul_le_mul_right _ hi) HA.out.le HA.out.nil L6 (by omega)
  have HLX := Lib.hid hl
  clear h ha hb hz hLb hLz hL hl hnx
  go_enter Tryz.func13, Tryz.ntmps13
  go_wp2_with fail
  refine (IM.out _ B0.out).mono ?_
  rintro e w1 ⟨rfl, hb1⟩
  rw [hm]
  have B1 := Lib.hid (B0.out.trans (hb1.mono B0.out.size))
  have K1 := Lib.hid (K0.out.step hb1)
  clear hb1 hm IM
  obtain ⟨p0, p1, p2, -, -, -⟩ := K1.out.all
  by_cases h1 : (Lb : Int) = R
  rotate_left
  · have V := Lib.hid (V1.out h1)
    have n1 : ((Lb : Int) != (R : Int)) = true := by simpa using h1
    go_wp2_with fail
    go_ret
    exact ⟨by rw [V.out]; rfl, B1.out⟩
  have n1 : ((Lb : Int) != (R : Int)) = false := by simp; omega
  by_cases h2 : (Lz : Int) = C
  rotate_left
  · have V := Lib.hid (V2.out h2)
    have n2 : ((Lz : Int) != (C : Int)) = true := by simpa using h2
    go_wp2_with fail
    go_ret
    exact ⟨by rw [V.out]; rfl, B1.out⟩
  have n2 : ((Lz : Int) != (C : Int)) = false := by simp; omega
  have h1 : Lb = R := by omega
  have h2 : Lz = C := by omega
  subst h1 h2
  go_wp2_with fail
  go_loopw [7, 8, 9, 10, 11, 31] (fun _ _ _ _ _ v31 wr => ∃ i : Nat, v31 = .int .i64 i ∧ i ≤ Lb ∧ (∀ k, k < i → rowB Lz xs bs zs k = true) ∧ Blk3 wr w.heap.size 26 (.int .i64 Lb) (.int .i64 Lz) (.slice a L m) ∧ Below w.heap.size w wr) (fun _ _ _ _ _ v31 _ => Lb - (intOf v31).toNat)
  case atStart => exact ⟨0, rfl, by omega, fun k hk => by omega, K1.out, B1.out⟩
  case round =>
    obtain ⟨i, rfl, hi, hk, hK, hB⟩ := hrel
    have HK := Lib.hid hk
    have KO := Lib.hid hK
    have BO := Lib.hid hB
    clear hk hK hB K1 B1 p0 p1 p2
    by_cases hlt : i < Lb
    · have KM := Lib.hid (KO.out.old (.cells #[.int .i64 0, .int .i64 1] 40))
      have KS : Hid (Blk2 (wr.alloc (.cells #[.int .i64 0, .int .i64 1] 40)) wr.heap.size 40 (.int .i64 0) (.int .i64 1)) := Blk2.at_ _ _ _ rfl
      have BM := Lib.hid (BO.out.alloc BO.out.size (.cells #[.int .i64 0, .int .i64 1] 40))
      have s0 := BO.out.size
      have sK := KO.out.lt
      obtain ⟨b3, o3, rfl, hc4⟩ := (RB.out.below BO.out) i (by rw [XB.out]; exact hlt)
      obtain ⟨x, hx⟩ : ∃ x, bs.getD i 0 = x := ⟨_, rfl⟩
      have HX := Lib.hid hx
      rw [hx] at hc4
      obtain ⟨p0, p1, p2, -, -, -⟩ := KM.out.all
      clear hx
      go_upto_region 7 with fail
      obtain ⟨g, hg⟩ : ∃ g, wr.heap.size = g := ⟨_, rfl⟩
      rw [hg] at KS s0 sK ⊢
      generalize wr.alloc (.cells #[.int .i64 0, .int .i64 1] 40) = W at KM KS BM p0 p1 p2 ⊢
      clear KO BO hg hc4
      go_wp2_with fail
      refine (RW.out i hlt _).mono ?_
      rintro e w7 ⟨q7, m7, rfl, hm7, hq7, -, hb7⟩
      have KM := Lib.hid (KM.out.step hb7)
      have KS := Lib.hid (KS.out.keep hb7 KS.out.lt)
      have BM := Lib.hid (BM.out.trans (hb7.mono BM.out.size))
      have SRC : Hid (∀ wx, Below w.heap.size w wx → Rd wx q7 (rwL Lz (mxC Lz xs i))) := fun wx hgx => (RX.out.below hgx).row (by rw [XN.out, HLX.out]) hlt hq7
      clear hb7 hq7 p0 p1 p2
      go_wp2_with fail
      go_loopw [10, 11, 41] (fun _ _ v41 wi => ∃ j : Nat, v41 = .int .i64 j ∧ j ≤ Lz ∧ Blk3 wi w.heap.size 26 (.int .i64 Lb) (.int .i64 Lz) (.slice a L m) ∧ Blk2 wi g 40 (.int .i64 (sumR (mxC Lz xs i) (atR zs) j).1) (.int .i64 (sumR (mxC Lz xs i) (atR zs) j).2) ∧ Below w.heap.size w wi) (fun _ _ v41 _ => Lz - (intOf v41).toNat)
      case atStart => exact ⟨0, rfl, by omega, KM.out, KS.out, BM.out⟩
      case round =>
        clear KM KS BM
        obtain ⟨j, rfl, hj, hK, hS8, hB⟩ := hrel
        have K0 := Lib.hid hK
        have K8 := Lib.hid hS8
        have BI := Lib.hid hB
        clear hK hS8 hB
        by_cases hjl : j < Lz
        · obtain ⟨b1, o1, rfl, hc1⟩ := SRC.out _ BI.out j (by rw [rwL_length]; exact hjl)
          rw [rwL_at hjl] at hc1
          obtain ⟨b2, o2, rfl, -, hc2, hc3⟩ := (RZ.out.below BI.out) j (by rw [XZ.out]; exact hjl)
          have SS := Lib.hid (sumR_succ (mxC Lz xs i) (atR zs) j)
          have ZE : Hid (atR zs j = zs.getD j (0, 0)) := rfl
          obtain ⟨u, hu⟩ : ∃ u, mxC Lz xs i j = u := ⟨_, rfl⟩
          obtain ⟨zn, hzn⟩ : ∃ z, (zs.getD j (0, 0)).1 = z := ⟨_, rfl⟩
          obtain ⟨zd, hzd⟩ : ∃ z, (zs.getD j (0, 0)).2 = z := ⟨_, rfl⟩
          have SS : Hid (sumR (mxC Lz xs i) (atR zs) (j + 1) = addR (sumR (mxC Lz xs i) (atR zs) j).1 (sumR (mxC Lz xs i) (atR zs) j).2 (mulR u 1 zn zd).1 (mulR u 1 zn zd).2) := by
            refine Lib.hid ?_
            rw [SS.out, ZE.out, hu, hzn, hzd]
          rw [hu] at hc1
          rw [hzn] at hc2
          rw [hzd] at hc3
          have Z1 := Lib.hid hc2
          have Z2 := Lib.hid hc3
          obtain ⟨ps, hps⟩ : ∃ p, (sumR (mxC Lz xs i) (atR zs) j).1 = p := ⟨_, rfl⟩
          obtain ⟨qs, hqs⟩ : ∃ p, (sumR (mxC Lz xs i) (atR zs) j).2 = p := ⟨_, rfl⟩
          rw [hps, hqs] at SS K8
          obtain ⟨sn, hsn⟩ : ∃ p, (mulR u 1 zn zd).1 = p := ⟨_, rfl⟩
          obtain ⟨sd, hsd⟩ : ∃ p, (mulR u 1 zn zd).2 = p := ⟨_, rfl⟩
          rw [hsn, hsd] at SS
          have MU : Hid (∀ w', Calls Tryz.prog 46 #[.agg #[.int .i64 u, .int .i64 1], .agg #[.int .i64 zn, .int .i64 zd]] w' (Gives (.agg #[.int .i64 sn, .int .i64 sd]) w')) := fun w' => by rw [← hsn, ← hsd]; exact iMul u 1 zn zd w'
          have AD : Hid (∀ w', Calls Tryz.prog 45 #[.agg #[.int .i64 ps, .int .i64 qs], .agg #[.int .i64 sn, .int .i64 sd]] w' (Gives (.agg #[.int .i64 (addR ps qs sn sd).1, .int .i64 (addR ps qs sn sd).2]) w')) := fun w' => iAdd ps qs sn sd w'
          clear hc2 hc3 hu hzn hzd hps hqs hsn hsd
          go_upto_region 10 with fail
          clear hc1
          refine wp_region_T (S := fun w' => Below wr.heap.size wr w') (T := fun j => j == 9) (by kernel_rfl) (Below.refl _ _).drew (fun hH => ?_)
          refine wpAnyT_take (i := 0) (v := ?_) (by simp only [List.getElem?_toArray, List.getElem?_cons_zero]; rfl) (by kernel_rfl) (by kernel_rfl) (by kernel_rfl) (by kernel_rfl) (one_only 9 (by kernel_rfl)) (by exact fun _ _ _ h => h) (Or.inl ⟨by rfl, ?_⟩) hH ?_
          rotate_left
          · (intro wS hS; (try dsimp only at hS); obtain ⟨k1, k2, k3, k4⟩ := ratG K8.out Z1.out Z2.out hS; go_simp; try rfl)
          try simp only [Act.put, List.setIfInBounds_toArray, List.set_cons_zero, List.set_cons_succ]
          refine wpAnyT_take (i := 1) (v := ?_) (by simp only [List.getElem?_toArray, List.getElem?_cons_succ, List.getElem?_cons_zero]; rfl) (by kernel_rfl) (by kernel_rfl) (by kernel_rfl) (by kernel_rfl) (one_only 9 (by kernel_rfl)) (by exact fun _ _ _ h => h) (Or.inl ⟨by rfl, ?_⟩) hH ?_
          rotate_left
          · (intro wS hS; clear hS; go_simp; try rfl)
          try simp only [Act.put, List.setIfInBounds_toArray, List.set_cons_zero, List.set_cons_succ]
          refine wpAnyT_take (i := 2) (v := ?_) (by simp only [List.getElem?_toArray, List.getElem?_cons_succ, List.getElem?_cons_zero]; rfl) (by kernel_rfl) (by kernel_rfl) (by kernel_rfl) (by kernel_rfl) (one_only 9 (by kernel_rfl)) (by exact fun _ _ _ h => h) (Or.inl ⟨by rfl, ?_⟩) hH ?_
          rotate_left
          · (intro wS hS; clear hS; go_simp; try rfl)
          try simp only [Act.put, List.setIfInBounds_toArray, List.set_cons_zero, List.set_cons_succ]
          refine wpAnyT_take (i := 3) (v := ?_) (by simp only [List.getElem?_toArray, List.getElem?_cons_succ, List.getElem?_cons_zero]; rfl) (by kernel_rfl) (by kernel_rfl) (by kernel_rfl) (by kernel_rfl) (one_only 9 (by kernel_rfl)) (by exact fun _ _ _ h => h) (Or.inl ⟨by rfl, ?_⟩) hH ?_
          rotate_left
          · (intro wS hS; clear hS; go_simp; try rfl)
          try simp only [Act.put, List.setIfInBounds_toArray, List.set_cons_zero, List.set_cons_succ]
          refine wpAnyT_take (i := 4) (v := ?_) (by simp only [List.getElem?_toArray, List.getElem?_cons_succ, List.getElem?_cons_zero]; rfl) (by kernel_rfl) (by kernel_rfl) (by kernel_rfl) (by kernel_rfl) (one_only 9 (by kernel_rfl)) (by exact fun _ _ _ h => h) (Or.inl ⟨by rfl, ?_⟩) hH ?_
          rotate_left
          · (intro wS hS; clear hS; go_simp; try rfl)
          try simp only [Act.put, List.setIfInBounds_toArray, List.set_cons_zero, List.set_cons_succ]
          refine wpAnyT_take (i := 5) (v := ?_) (by simp only [List.getElem?_toArray, List.getElem?_cons_succ, List.getElem?_cons_zero]; rfl) (by kernel_rfl) (by kernel_rfl) (by kernel_rfl) (by kernel_rfl) (one_only 9 (by kernel_rfl)) (by exact fun _ _ _ h => h) (Or.inl ⟨by rfl, ?_⟩) hH ?_
          rotate_left
          · (intro wS hS; clear hS; go_simp; try rfl)
          try simp only [Act.put, List.setIfInBounds_toArray, List.set_cons_zero, List.set_cons_succ]
          refine wpAnyT_take (i := 6) (v := ?_) (by simp only [List.getElem?_toArray, List.getElem?_cons_succ, List.getElem?_cons_zero]; rfl) (by kernel_rfl) (by kernel_rfl) (by kernel_rfl) (by kernel_rfl) (one_only 9 (by kernel_rfl)) (by exact fun _ _ _ h => h) (Or.inl ⟨by rfl, ?_⟩) hH ?_
          rotate_left
          · (intro wS hS; (try dsimp only at hS); obtain ⟨k1, k2, k3, k4⟩ := ratG K8.out Z1.out Z2.out hS; go_simp; try rfl)
          try simp only [Act.put, List.setIfInBounds_toArray, List.set_cons_zero, List.set_cons_succ]
          refine wpAnyT_ready (rs := [7]) (by kernel_rfl) (by simp) ?_
          refine AllReadyT.cons (by simp only [List.getElem?_toArray, List.getElem?_cons_succ, List.getElem?_cons_zero]; rfl) (fun K hK => ?_) AllReadyT.nil
          go_simp
          (with_reducible refine (MU.out _).mono ?_)
          rintro e v1 ⟨rfl, hb1⟩
          try dsimp only
          refine hK.out _ _ (fun _ => hH.trans (hb1.mono hH.size)) ?_
          clear hK K
          have hH := hH.trans (hb1.mono hH.size)
          try simp only [Act.put, List.setIfInBounds_toArray, List.set_cons_zero, List.set_cons_succ]
          refine wpAnyT_ready (rs := [8]) (by kernel_rfl) (by simp) ?_
          refine AllReadyT.cons (by simp only [List.getElem?_toArray, List.getElem?_cons_succ, List.getElem?_cons_zero]; rfl) (fun K hK => ?_) AllReadyT.nil
          go_simp
          (with_reducible refine (AD.out _).mono ?_)
          rintro e v2 ⟨rfl, hb2⟩
          try dsimp only
          refine hK.out _ _ (fun _ => hH.trans (hb2.mono hH.size)) ?_
          clear hK K
          have hH := hH.trans (hb2.mono hH.size)
          try simp only [Act.put, List.setIfInBounds_toArray, List.set_cons_zero, List.set_cons_succ]
          refine wpAnyT_ready (rs := [9]) (by kernel_rfl) (by simp) ?_
          refine AllReadyT.cons (by simp only [List.getElem?_toArray, List.getElem?_cons_succ, List.getElem?_cons_zero]; rfl) (fun K hK => ?_) AllReadyT.nil
          have K8 := Lib.hid (K8.out.keep hH K8.out.lt)
          obtain ⟨c80, c81, f80, f81⟩ := K8.out.all
          go_simp
          try dsimp only
          refine hK.out _ _ (fun h => by cases h) ?_
          clear hK K
          try simp only [Act.put, List.setIfInBounds_toArray, List.set_cons_zero, List.set_cons_succ]
          refine wpAnyT_done (by kernel_rfl) ?_ _
          go_wp2_with fail
          go_roundw
          case rel =>
            refine ⟨j + 1, by go_num, by omega, ((K0.out.step hH).far (by show w.heap.size ≠ g; omega) _).far (by show w.heap.size ≠ g; omega) _, ?_, ?_⟩
            · rw [SS.out]
              exact (K8.out.set0 _).set1 _
            · exact ((BI.out.trans (hH.mono BI.out.size)).setCell (by show w.heap.size ≤ g; omega) _).setCell (by show w.heap.size ≤ g; omega) _
          case measure => simp [intOf]; omega
        · obtain rfl : j = Lz := by omega
          have RF : Hid (sumR (mxC j xs i) (atR zs) j ≠ (bs.getD i 0, 1) → rowB j xs bs zs i = false) := fun h => decide_eq_false h
          have RT : Hid (sumR (mxC j xs i) (atR zs) j = (bs.getD i 0, 1) → rowB j xs bs zs i = true) := fun h => decide_eq_true h
          rw [HX.out] at RF RT
          obtain ⟨ps, hps⟩ : ∃ p, (sumR (mxC j xs i) (atR zs) j).1 = p := ⟨_, rfl⟩
          obtain ⟨qs, hqs⟩ : ∃ p, (sumR (mxC j xs i) (atR zs) j).2 = p := ⟨_, rfl⟩
          rw [hps, hqs] at K8
          have SP : Hid (sumR (mxC j xs i) (atR zs) j = (ps, qs)) := by show _ = _; rw [← hps, ← hqs]
          rw [SP.out] at RF RT
          obtain ⟨c80, c81, f80, f81⟩ := K8.out.all
          clear hps hqs SP hjl
          by_cases e1 : ps = x ∧ qs = 1
          rotate_left
          · have V := Lib.hid (VR.out i hlt (RF.out fun h => e1 ⟨congrArg Prod.fst h, congrArg Prod.snd h⟩))
            have E : ∀ w : World, (Op.equalIn 10000 40 (.agg #[.int .i64 ps, .int .i64 qs]) (.agg #[.int .i64 x, .int .i64 1])).run Tryz.prog w = .ok false w := fun w => by
              rw [eqRat, show (ps == x && qs == 1) = false by
                rw [Bool.and_eq_false_iff]
                by_cases h : ps = x
                · exact .inr (by simpa using fun h2 => e1 ⟨h, h2⟩)
                · exact .inl (by simpa using h)]
            clear e1
            go_wp2_with fail
            go_ret
            exact ⟨by rw [V.out]; rfl, BI.out⟩
          have RR := Lib.hid (RT.out (by rw [e1.1, e1.2]))
          have HK2 : Hid (∀ k, k < i + 1 → rowB j xs bs zs k = true) := fun k hk => by
            rcases Nat.lt_or_ge k i with h3 | h3
            · exact HK.out k h3
            · obtain rfl : k = i := by omega
              exact RR.out
          have E : ∀ w : World, (Op.equalIn 10000 40 (.agg #[.int .i64 ps, .int .i64 qs]) (.agg #[.int .i64 x, .int .i64 1])).run Tryz.prog w = .ok true w := fun w => by
            rw [eqRat, e1.1, e1.2]; simp
          clear e1
          go_wp2_with fail
          go_roundw
          case rel => exact ⟨i + 1, by go_num, by omega, HK2.out, K0.out, BI.out⟩
          case measure => simp [intOf]; omega
    · obtain rfl : i = Lb := by omega
      have V := Lib.hid (VT.out (by first | rfl | trivial) (by first | rfl | trivial) HK.out)
      go_wp2_with fail
      go_ret
      exact ⟨by rw [V.out]; rfl, BO.out⟩
end Go.Proofs.YtcapddcmnjeloaaGreatDoor
end

section
/-
  Chapter 10, in the program: IsImage and ResidueOf.
-/
namespace Go.Proofs.YtcapddcmnjeloaaGreatDoor
set_option maxRecDepth 100000
open Go.RowKit
theorem tmod_zero {y m : Int} : (Int.tmod y m == 0) = decide (y % m = 0) := by
  rw [Bool.eq_iff_iff]
  simp only [beq_iff_eq, decide_eq_true_eq]
  exact ⟨fun h => Int.emod_eq_zero_of_dvd (Int.dvd_of_tmod_eq_zero h), fun h => Int.tmod_eq_zero_of_dvd (Int.dvd_of_emod_eq_zero h)⟩
theorem iIsMod_t (m : Int) (w : World) (h1 : 1 ≤ m) (h2 : m ≤ 400000000) : Calls Tryz.prog 165 #[.int .i64 m] w fun e w' => e = .returned (.bool true) ∧ w = w' := by
  go_enter Tryz.func165, Tryz.ntmps165
  go_wp2
  go_ret
  exact ⟨rfl, rfl⟩
theorem iIsMod_f (m : Int) (w : World) (h : m < 1 ∨ 400000000 < m) : Calls Tryz.prog 165 #[.int .i64 m] w fun e w' => e = .returned (.bool false) ∧ w = w' := by
  rcases h with h | h
  · go_enter Tryz.func165, Tryz.ntmps165
    go_wp2
    go_ret
    exact ⟨rfl, rfl⟩
  · have h1 : 1 ≤ m := by omega
    have h2 : decide (m ≤ 400000000) = false := by simp; omega
    go_enter Tryz.func165, Tryz.ntmps165
    go_wp2
    go_ret
    exact ⟨rfl, rfl⟩
set_option maxHeartbeats 1000000 in
theorem iImage (n d a m : Int) (w : World) : Calls Tryz.prog 167 #[.agg #[.int .i64 n, .int .i64 d], .int .i64 a, .int .i64 m] w (Gives (.bool (imB n d a m)) w) := by
  rcases Bool.eq_false_or_eq_true (isRat n d) with hr | hr
  rotate_left
  · have E : Hid (imB n d a m = false) := imB_no (.inl (imA_rat hr))
    go_enter Tryz.func167, Tryz.ntmps167
    go_wp2_with fail
    refine (iIsRat n d _).mono ?_
    rintro e w1 ⟨rfl, hb⟩
    have B : Hid (Below w.heap.size w w1) := Below.trans (by repeat (first | exact Below.refl _ _ | refine Below.alloc ?_ (by simp <;> omega) _)) (hb.mono (by simp <;> omega))
    clear hb
    rw [hr]
    go_wp2_with fail
    go_ret
    exact ⟨by rw [E.out]; rfl, B.out⟩
  have pr : IsRatP n d := of_decide_eq_true hr
  obtain ⟨r1, r2, r3, r4, -⟩ := pr
  by_cases ha : NumP a
  rotate_left
  · have E : Hid (imB n d a m = false) := imB_no (.inr ha)
    have ha' : a < -400000000 ∨ 400000000 < a := by unfold NumP at ha; omega
    clear ha
    go_enter Tryz.func167, Tryz.ntmps167
    go_wp2_with fail
    refine (iIsRat n d _).mono ?_
    rintro e w1 ⟨rfl, hb⟩
    have B : Hid (Below w.heap.size w w1) := Below.trans (by repeat (first | exact Below.refl _ _ | refine Below.alloc ?_ (by simp <;> omega) _)) (hb.mono (by simp <;> omega))
    clear hb
    rw [hr]
    go_wp2_with fail
    refine (iIsNum_f a _ ha').mono ?_
    rintro e w' ⟨rfl, rfl⟩
    go_wp2_with fail
    go_ret
    exact ⟨by rw [E.out]; rfl, B.out⟩
  by_cases hm : 1 ≤ m ∧ m ≤ 400000000
  rotate_left
  · have E : Hid (imB n d a m = false) := imB_no (.inl (imA_mod hm))
    have hm' : m < 1 ∨ 400000000 < m := by omega
    clear hm
    go_enter Tryz.func167, Tryz.ntmps167
    go_wp2_with fail
    refine (iIsRat n d _).mono ?_
    rintro e w1 ⟨rfl, hb⟩
    have B : Hid (Below w.heap.size w w1) := Below.trans (by repeat (first | exact Below.refl _ _ | refine Below.alloc ?_ (by simp <;> omega) _)) (hb.mono (by simp <;> omega))
    clear hb
    rw [hr]
    go_wp2_with fail
    refine (iIsNum_t a _ ha.1 ha.2).mono ?_
    rintro e w' ⟨rfl, rfl⟩
    go_wp2_with fail
    refine (iIsMod_f m _ hm').mono ?_
    rintro e w' ⟨rfl, rfl⟩
    go_wp2_with fail
    go_ret
    exact ⟨by rw [E.out]; rfl, B.out⟩
  by_cases hg : d.gcd m = 1
  rotate_left
  · have E : Hid (imB n d a m = false) := imB_no (.inl (imA_gcd hg))
    have n0 : (((d.gcd m : Nat) : Int) != 1) = true := by simp; omega
    go_enter Tryz.func167, Tryz.ntmps167
    go_wp2_with fail
    refine (iIsRat n d _).mono ?_
    rintro e w1 ⟨rfl, hb⟩
    have K0 : Hid (Blk2 w1 w.heap.size 40 (.int .i64 n) (.int .i64 d)) := (Blk2.at_ _ _ _ rfl).keep hb (by simp <;> omega)
    have B : Hid (Below w.heap.size w w1) := Below.trans (by repeat (first | exact Below.refl _ _ | refine Below.alloc ?_ (by simp <;> omega) _)) (hb.mono (by simp <;> omega))
    obtain ⟨K0a, K0b, K0c, K0d⟩ := K0.out.all
    clear hb
    rw [hr]
    go_wp2_with fail
    refine (iIsNum_t a _ ha.1 ha.2).mono ?_
    rintro e w' ⟨rfl, rfl⟩
    go_wp2_with fail
    refine (iIsMod_t m _ hm.1 hm.2).mono ?_
    rintro e w' ⟨rfl, rfl⟩
    go_wp2_with fail
    refine (iGcd d m _ ⟨by omega, r2⟩ ⟨by omega, hm.2⟩).mono ?_
    rintro e w' ⟨rfl, k, rfl⟩
    generalize ((d.gcd m : Nat) : Int) = gg at n0 ⊢
    go_wp2_with fail
    go_ret
    exact ⟨by rw [E.out]; rfl, below_drewN B.out _⟩
  have g1 : ((d.gcd m : Nat) : Int) = 1 := by rw [hg]; rfl
  have E : Hid (∀ b, b = decide ((a * d - n) % m = 0) → imB n d a m = b) := fun b hb => imB_eq2 (imA_true hr hm hg) ha hb
  have MA := mul_abs (a := a) (b := d) (A := 400000000) (B := 400000000) ⟨ha.1, ha.2⟩ ⟨by omega, r2⟩
  have v0 : IntKind.i64.wrap (a * d) = a * d := IntWalk.i64_in _ (by omega)
  obtain ⟨y, hy⟩ : ∃ y, a * d = y := ⟨_, rfl⟩
  rw [hy] at MA E
  have v1 : IntKind.i64.wrap (a * d) = y := v0.trans hy
  clear v0
  obtain ⟨y1, y2⟩ := MA
  have T : Hid ((Int.tmod (y - n) m == 0) = decide ((y - n) % m = 0)) := tmod_zero
  obtain ⟨t, ht⟩ : ∃ t, y - n = t := ⟨_, rfl⟩
  have v2 : IntKind.i64.wrap (y - n) = t := (IntWalk.i64_in _ (by omega)).trans ht
  rw [ht] at T E
  have t1 : -200000000000000000 ≤ t := by omega
  have t2 : t ≤ 200000000000000000 := by omega
  have n1 : (m == 0) = false := by simp; omega
  clear hy hg ht
  go_enter Tryz.func167, Tryz.ntmps167
  go_wp2_with fail
  refine (iIsRat n d _).mono ?_
  rintro e w1 ⟨rfl, hb⟩
  have K0 : Hid (Blk2 w1 w.heap.size 40 (.int .i64 n) (.int .i64 d)) := (Blk2.at_ _ _ _ rfl).keep hb (by simp <;> omega)
  have B : Hid (Below w.heap.size w w1) := Below.trans (by repeat (first | exact Below.refl _ _ | refine Below.alloc ?_ (by simp <;> omega) _)) (hb.mono (by simp <;> omega))
  obtain ⟨K0a, K0b, K0c, K0d⟩ := K0.out.all
  clear hb
  rw [hr]
  go_wp2_with fail
  refine (iIsNum_t a _ ha.1 ha.2).mono ?_
  rintro e w' ⟨rfl, rfl⟩
  go_wp2_with fail
  refine (iIsMod_t m _ hm.1 hm.2).mono ?_
  rintro e w' ⟨rfl, rfl⟩
  go_wp2_with fail
  refine (iGcd d m _ ⟨by omega, r2⟩ ⟨by omega, hm.2⟩).mono ?_
  rintro e w' ⟨rfl, k, rfl⟩
  rw [g1]
  have K0 : Hid (Blk2 (w1.drewN k) w.heap.size 40 (.int .i64 n) (.int .i64 d)) := K0.out.drewN k
  obtain ⟨K1a, K1b, K1c, K1d⟩ := K0.out.all
  go_wp2_with fail
  go_ret
  exact ⟨by rw [E.out _ T.out]; rfl, below_drewN B.out _⟩
end Go.Proofs.YtcapddcmnjeloaaGreatDoor
end

section
/-
  Chapter 10, in the model: IsImage, ResidueOf, RatioFrom.
-/
namespace Go.Proofs.YtcapddcmnjeloaaGreatDoor
set_option maxRecDepth 100000
open Go.RowKit
end Go.Proofs.YtcapddcmnjeloaaGreatDoor
end

section
/-
  Chapter 10, in the model: RatioFrom.
-/
namespace Go.Proofs.YtcapddcmnjeloaaGreatDoor
set_option maxRecDepth 100000
open Go.RowKit
end Go.Proofs.YtcapddcmnjeloaaGreatDoor
end
