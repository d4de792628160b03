/-
  Texts of this seat, joined: TmI
-/
import Derived.Test.YtcapddcmnjeloaaPk8
import Derived.Test.YtcapddcmnjeloaaPk10

section
/-
  Chapter 8, in the program: fitsRows and timesMod.
-/
namespace Go.Proofs.Ytcapddcmnjeloaa
set_option maxRecDepth 100000
open Go.RowKit

theorem isMat_col {L : Nat} {bs : List Int} (hL : L ≤ 24) (hl : bs.length = L) (hn : nums bs = true) : isMat L 1 bs = true := by
  have h1 : (bs.length : Int) = (L : Int) * 1 := by omega
  unfold isMat
  simp only [Bool.and_eq_true, decide_eq_true_eq]
  exact ⟨⟨⟨⟨by omega, by omega⟩, ⟨by decide, by decide⟩⟩, h1⟩, hn⟩
/-- What fitsRows answers. -/
def fitR (r : Int) (bs : List Int) : Bool := decide ((bs.length : Int) = r) && isMat bs.length 1 bs
theorem fitR_eq {n : Nat} {bs : List Int} (hn : n ≤ 24) : fitR n bs = (decide ((bs.length : Int) = n) && nums bs) := by
  unfold fitR
  by_cases h : (bs.length : Int) = n
  · rw [decide_eq_true h]
    cases hb : nums bs with
    | true => rw [isMat_col (by omega) rfl hb]
    | false =>
      cases hm : isMat (bs.length : Int) 1 bs with
      | false => rfl
      | true => rw [(isMat_says hm).2.2.2] at hb; cases hb
  · rw [decide_eq_false h]; rfl
set_option maxHeartbeats 1000000 in
theorem iFits (r c : Int) (a : Option Addr) (L m : Nat) (ab : Option Addr) (mb : Nat) (bs : List Int) (w : World) (hb : Rd w ab bs) (hbn : bs.length ≤ 16777216) :
    Calls Try.prog 47 #[.agg #[.int .i64 r, .int .i64 c, .slice a L m], .slice ab bs.length mb] w (Gives (.bool (fitR r bs)) w) := by
  have K0 : Hid (Blk3 (w.alloc (.cells #[.int .i64 r, .int .i64 c, .slice a L m] 26)) w.heap.size 26 (.int .i64 r) (.int .i64 c) (.slice a L m)) := Blk3.at_ _ _ _ _ rfl
  have B0 : Hid (Below w.heap.size w (w.alloc (.cells #[.int .i64 r, .int .i64 c, .slice a L m] 26))) := (Below.refl _ _).alloc (Nat.le_refl _) _
  have IM : Hid (∀ w', Below w.heap.size w w' → Calls Try.prog 49 #[.agg #[.int .i64 (bs.length : Int), .int .i64 1, .slice ab bs.length mb]] w' (Gives (.bool (isMat (bs.length : Int) 1 bs)) w')) := fun w' h' => iIsMat (bs.length : Int) 1 ab mb bs w' (hb.below h') hbn
  have F : Hid (fitR r bs = (decide ((bs.length : Int) = r) && isMat bs.length 1 bs)) := rfl
  rw [F.out]
  generalize isMat (bs.length : Int) 1 bs = y at IM ⊢
  generalize bs.length = l at IM hbn ⊢
  clear hb F
  obtain ⟨k0, k1, k2, -, -, -⟩ := K0.out.all
  by_cases h : (l : Int) = r
  · subst h
    rw [decide_eq_true rfl, Bool.true_and]
    go_enter Try.func47, Try.ntmps47
    go_wp2_with fail
    with_reducible refine (IM.out _ B0.out).mono ?_
    rintro e w1 ⟨rfl, hb1⟩
    have B1 := Lib.hid (B0.out.trans (hb1.mono B0.out.size))
    clear hb1
    go_wp2_with fail
    go_ret
    exact ⟨rfl, B1.out⟩
  · have e1 : ((l : Int) == r) = false := by simpa using h
    rw [decide_eq_false h, Bool.false_and]
    go_enter Try.func47, Try.ntmps47
    go_wp2_with fail
    go_ret
    exact ⟨rfl, B0.out⟩
set_option maxHeartbeats 4000000 in
/-- timesMod: a product with a column, modulo p. -/
theorem iTimes (n N : Nat) (p : Int) (q : Option Addr) (cap : Nat) (vs : List Int) (ab : Option Addr) (mb : Nat) (bs : List Int) (w : World) (hv : Rd w q vs) (hN : n * n = N) (hl : vs.length = N) (hcan : CanL p vs) (hq : Spot q) (hcap : N ≤ cap) (hq0 : q = none → cap = 0) (h12 : n ≤ 12) (hp1 : 2 ≤ p) (hp2 : p ≤ 10000) (hb : Rd w ab bs) (hbl : bs.length = n) (hbd : ∀ j, j < n → -2400000000 ≤ bs.getD j 0 ∧ bs.getD j 0 ≤ 2400000000) :
    Calls Try.prog 48 #[.agg #[.int .i64 n, .int .i64 n, .slice q N cap], .slice ab n mb, .int .i64 p] w (Copy (solL p n vs bs) w) := by
  have A5 : Hid (Blk3 (w.alloc (.cells #[.int .i64 n, .int .i64 n, .slice q N cap] 26)) w.heap.size 26 (.int .i64 n) (.int .i64 n) (.slice q N cap)) := Blk3.at_ _ _ _ _ rfl
  have B5 : Hid (Below w.heap.size w (w.alloc (.cells #[.int .i64 n, .int .i64 n, .slice q N cap] 26))) := (Below.refl _ _).alloc (Nat.le_refl _) _
  have lN : N ≤ 144 := by rw [← hN]; exact Nat.mul_le_mul h12 h12
  have DLN : Hid (∀ i, i < n → i * n + n ≤ N) := fun i hi => by rw [← hN, ← Nat.succ_mul]; exact Nat.mul_le_mul_right _ hi
  have HV := Lib.hid hv
  have HB := Lib.hid hb
  have HL := Lib.hid hl
  have HN := Lib.hid hN
  have HBL := Lib.hid hbl
  have HBD := Lib.hid hbd
  have HC := Lib.hid hcan
  have RW : Hid (∀ i, i < n → ∀ w', Calls Try.prog 42 #[.agg #[.int .i64 n, .int .i64 n, .slice q N cap], .int .i64 i] w' (RowAt q (i * n) n w')) := fun i hi w' => iRowIn n n i (i * n) N cap q w' hq rfl (DLN.out i hi) hcap hq0 (by omega) (by omega)
  have np : ¬ p = 0 := by omega
  have GO : Hid (∀ i j, Int.tmod (svF p n vs bs i j + Int.tmod (vs.getD (i * n + j) 0 * bs.getD j 0) p + p) p = svF p n vs bs i (j + 1)) := fun i j => svF_go (by omega) n vs bs i j
  clear hv hb hl hN hbl hbd hcan hq hcap hq0
  have hmk := makeInts n (by omega)
  obtain ⟨z0, z1, z2, -, -, -⟩ := A5.out.all
  go_enter Try.func48, Try.ntmps48
  generalize hW5 : w.alloc (.cells #[.int .i64 n, .int .i64 n, .slice q N cap] 26) = W5 at A5 B5 z0 z1 z2
  have I6 : Hid (Ints (W5.alloc (.cells (madeCells #[.int .i64 0] n) 3)) W5.heap.size (svTo p n vs bs 0 0)) := by
    have := (IntsC.made (w := W5) n (by omega) rfl).ints
    rw [svTo_zero]
    exact this
  have E6 : Hid (Below W5.heap.size W5 (W5.alloc (.cells (madeCells #[.int .i64 0] n) 3))) := (Below.refl _ _).alloc (Nat.le_refl _) _
  have la5 := A5.out.lt
  have LW := B5.out.size
  have Q5 : Hid (Rd W5 q vs) := HV.out.below B5.out
  have C5 : Hid (Rd W5 ab bs) := HB.out.below B5.out
  subst hW5
  go_upto_region 2 with fail
  generalize hW5 : w.alloc (.cells #[.int .i64 n, .int .i64 n, .slice q N cap] 26) = W5 at A5 B5 z0 z1 z2 I6 E6 la5 LW Q5 C5 ⊢
  generalize W5.alloc (.cells (madeCells #[.int .i64 0] n) 3) = W6 at I6 E6 ⊢
  have S5 : W5.heap.size = w.heap.size + 1 := by rw [← hW5]; simp
  rw [S5] at I6 E6 la5 LW
  obtain ⟨g, hg⟩ : ∃ g, w.heap.size + 1 = g := ⟨_, rfl⟩
  rw [hg] at I6 E6 la5 LW S5 ⊢
  have LG := Lib.hid S5
  clear hmk hg z0 z1 z2 hW5 S5
  have SRC : Hid (∀ i q7, i < n → (∀ g0 o : Nat, q = some ⟨g0, o, none⟩ → 0 < n → q7 = some ⟨g0, o + i * n, none⟩) → ∀ wx, W6.grownBy wx (some g) → Rd wx q7 (rwL n (mxC n vs i))) := fun i q7 hlt hq7 wx hgx => by
    have h0 : 0 < N := by have := DLN.out i hlt; omega
    have h1 : Rd wx q vs := (Q5.out.below (by rw [LG.out]; exact E6.out)).one hgx (fun b o e e2 => by
      subst e2
      obtain ⟨b', o', e', hc'⟩ := Q5.out 0 (by rw [HL.out]; exact h0)
      rw [e] at e'
      injection e' with e'
      injection e' with e' _
      subst e'
      have := World.block_lt_of_cell? W5 _ hc'
      simp at this
      have := LG.out
      omega)
    exact h1.row (by rw [HL.out, HN.out]) hlt hq7
  have COL : Hid (∀ wx, W6.grownBy wx (some g) → Rd wx ab bs) := fun wx hgx => by
    rcases Nat.eq_zero_or_pos bs.length with h0 | h0
    · rw [List.eq_nil_of_length_eq_zero h0]; exact Rd.nil _ _
    exact (C5.out.below (by rw [LG.out]; exact E6.out)).one hgx (fun b o e e2 => by
      subst e2
      obtain ⟨b', o', e', hc'⟩ := C5.out 0 h0
      rw [e] at e'
      injection e' with e'
      injection e' with e' _
      subst e'
      have := World.block_lt_of_cell? W5 _ hc'
      simp at this
      have := LG.out
      omega)
  go_wp2_with fail
  go_loopw [8, 9, 10, 16] (fun _ _ _ v16 wr => ∃ i : Nat, v16 = .int .i64 i ∧ i ≤ n ∧ Ints wr g (svTo p n vs bs i 0) ∧ W6.grownBy wr (some g)) (fun _ _ _ v16 _ => n - (intOf v16).toNat)
  case atStart => exact ⟨0, rfl, by omega, I6.out, World.grownBy.refl _ _⟩
  case round =>
    clear I6
    obtain ⟨i, rfl, hi, hI, hgr⟩ := hrel
    have I := Lib.hid hI
    have G := Lib.hid hgr
    clear hI hgr
    by_cases hlt : i < n
    · have A7 := Lib.hid ((A5.out.keep E6.out la5).keepOne G.out (by omega))
      obtain ⟨a0, a1, a2, -, -, -⟩ := A7.out.all
      go_wp2_with fail
      refine (RW.out i hlt _).mono ?_
      rintro e w7 ⟨q7, m7, rfl, hm7, hq7, -, hb7⟩
      have I7 := Lib.hid (I.out.keep hb7 I.out.lt)
      have G7 := Lib.hid (G.out.trans (grown_of_below hb7 (some g)))
      have SRC := Lib.hid (SRC.out i q7 hlt hq7)
      clear hb7 a0 a1 a2 hq7 A7
      go_wp2_with fail
      go_loopw [9, 10, 23] (fun _ _ v23 wr => ∃ j : Nat, v23 = .int .i64 j ∧ j ≤ n ∧ Ints wr g (svTo p n vs bs i j) ∧ W6.grownBy wr (some g)) (fun _ _ v23 _ => n - (intOf v23).toNat)
      case atStart => exact ⟨0, rfl, by omega, I7.out, G7.out⟩
      case round =>
        clear I G I7 G7
        obtain ⟨j, rfl, hj, hI, hgr⟩ := hrel
        have I := Lib.hid hI
        have G := Lib.hid hgr
        clear hI hgr
        by_cases hjl : j < n
        · obtain ⟨b1, o1, rfl, hc1⟩ := SRC.out _ G.out j (by rw [rwL_length]; exact hjl)
          rw [rwL_at hjl] at hc1
          obtain ⟨b2, o2, rfl, hc2⟩ := COL.out _ G.out j (by rw [HBL.out]; exact hjl)
          have hold := I.out.cell (i := i) (by rw [svTo_length]; exact hlt)
          have hfr := I.out.free i
          rw [svTo_at hlt] at hold
          have ST := Lib.hid (svTo_set (p := p) (n := n) (vs := vs) (bs := bs) (i := i) (j := j))
          have SF := GO.out i j
          have s2 := svF_can (show 0 < p by omega) n vs bs i j
          obtain ⟨s, hs⟩ : ∃ s, svF p n vs bs i j = s := ⟨_, rfl⟩
          rw [hs] at SF s2 hold
          obtain ⟨z1, z2⟩ := HC.out (i * n + j) (by rw [HL.out, ← HN.out]; exact idx_lt hlt hjl)
          have m0 := HBD.out j hjl
          rw [show mxC n vs i j = vs.getD (i * n + j) 0 from rfl] at hc1
          generalize vs.getD (i * n + j) 0 = u at hc1 z1 z2 SF
          generalize bs.getD j 0 = y at hc2 m0 SF
          obtain ⟨m3, m4⟩ := mul_abs (A := 10000) (B := 2400000000) (show -10000 ≤ u ∧ u ≤ 10000 by omega) m0
          obtain ⟨o, ho⟩ : ∃ o, u * y = o := ⟨_, rfl⟩
          have v2 : IntKind.i64.wrap (u * y) = o := by rw [← ho]; exact IntWalk.i64_in _ (by omega)
          rw [ho] at m3 m4 SF
          have t1 : -p < Int.tmod o p ∧ Int.tmod o p < p := ⟨Int.lt_tmod_of_pos _ (by omega), Int.tmod_lt_of_pos _ (by omega)⟩
          obtain ⟨t, ht⟩ : ∃ t, Int.tmod o p = t := ⟨_, rfl⟩
          rw [ht] at t1 SF
          obtain ⟨f, hf⟩ : ∃ f, s + t = f := ⟨_, rfl⟩
          have v3 : IntKind.i64.wrap (s + t) = f := by rw [← hf]; exact IntWalk.i64_in _ (by omega)
          have f1 : -10000 ≤ f ∧ f ≤ 20000 := by omega
          rw [hf] at SF
          obtain ⟨k, hk⟩ : ∃ k, f + p = k := ⟨_, rfl⟩
          have v4 : IntKind.i64.wrap (f + p) = k := by rw [← hk]; exact IntWalk.i64_in _ (by omega)
          rw [hk] at SF
          have IS : Hid (Ints (wr.drew.setCell ⟨g, i, none⟩ (.int .i64 (Int.tmod k p))) g (svTo p n vs bs i (j + 1))) := by
            have := I.out.drew.set i (Int.tmod k p)
            rw [SF, ST.out] at this
            rw [SF]
            exact this
          have GS := Lib.hid (grown_set_one (a := ⟨g, i, none⟩) (grown_drew_one G.out) rfl (.int .i64 (Int.tmod k p)))
          clear ho hf hs SF hk f1
          go_wp2_with fail
          go_still_tail 20, (by kernel_rfl)
          go_wp2_with fail
          go_roundw
          case rel => exact ⟨j + 1, by go_num, by omega, IS.out, GS.out⟩
          case measure => simp [intOf]; omega
        · obtain rfl : n = j := by omega
          have RR : Hid (svTo p n vs bs i n = svTo p n vs bs (i + 1) 0) := svTo_row
          rw [RR.out] at I
          clear hjl
          go_wp2_with fail
          go_roundw
          case rel => exact ⟨i + 1, by go_num, by omega, I.out, G.out⟩
          case measure => simp [intOf]; omega
    · obtain rfl : n = i := by omega
      have BF : Hid (Below w.heap.size w wr) := (B5.out.trans ((by rw [LG.out]; exact E6.out : Below W5.heap.size W5 W6).mono (by rw [LG.out]; exact LW))).trans (below_of_one G.out LW (by have := E6.out.size; have := LG.out; omega))
      have LS : (svTo p n vs bs n 0).length = n := svTo_length _ _ _ _ _ _
      have SA : Hid (svTo p n vs bs n 0 = solL p n vs bs) := svTo_all _ _ _ _
      go_wp2_with fail
      go_ret
      refine ⟨_, rfl, ?_, BF.out⟩
      rw [← SA.out]
      exact .inr ⟨g, n, by rw [LS]; rfl, LW, I.out, by rw [LS]; exact Nat.le_refl _, by rw [LS]; omega⟩
end Go.Proofs.Ytcapddcmnjeloaa
end
