/-
  Texts of this seat, joined: RdS · PrimS · AppI · SpnT · EchLaw · EchS · ElS · ModV · EchT · RkS · ImgM
-/
import Derived.StillTailTactics
import Derived.Deep.DeepCutAuto
import Derived.IntWalk
import Derived.Test.YtgemkfcapkfdbaaPk1
import Derived.Test.YtgemkfcapkfdbaaPk2
import Derived.Test.YtgemkfcapkfdbaaPk3
import Derived.Test.YtgemkfcapkfdbaaPk4
import Derived.Test.YtgemkfcapkfdbaaPk8

section
/-
  Chapter 8, in the model: ReduceMod.
-/
namespace Go.Proofs.Ytgemkfcapkfdbaa
set_option maxRecDepth 100000
open Go.RowKit

theorem resL_mix {p : Int} {xs : List Int} : mixL xs xs.length (fun i => xs.getD i 0 % p) = resL p xs := by
  rw [mixL_all]
  unfold resL
  apply List.ext_getElem (by simp)
  intro i h1 h2
  have : i < xs.length := by simpa using h2
  simp [List.getD, this]
set_option maxHeartbeats 2000000 in
theorem sRed (r c p : Int) (a : Option Addr) (m : Nat) (xs : List Int) (w : World) (h : Rd w a xs) (hn : xs.length ≤ 16777216) (ha : Spot a) :
    Calls Try.prog 89 #[.agg #[.int .i64 r, .int .i64 c, .slice a xs.length m], .int .i64 p] w (MatRes (redM r c p xs) w) := by
  have IM : Hid (∀ w', Below w.heap.size w w' → Calls Try.prog 79 #[.agg #[.int .i64 r, .int .i64 c, .slice a xs.length m]] w' (Gives (.bool (isMat r c xs)) w')) := fun w' hb => sIsMat r c a m xs w' (h.below hb) hn
  have HX : Hid (isMat r c xs = true → xs.length ≤ 576) := fun hm => by
    obtain ⟨⟨r0, r1⟩, ⟨c0, c1⟩, hl, -⟩ := isMat_says hm
    have h2 : r * c ≤ 24 * 24 := Int.mul_le_mul (by omega) (by omega) c0 (by omega)
    omega
  have CP : Hid (xs.length ≤ 576 → ∀ w', Below w.heap.size w w' → Calls Try.prog 104 #[.agg #[.int .i64 r, .int .i64 c, .slice a xs.length m]] w' (fun e w2 => ∃ g cap : Nat, e = .returned (.agg #[.int .i64 r, .int .i64 c, .slice (some ⟨g, 0, none⟩) xs.length cap]) ∧ w'.heap.size ≤ g ∧ IntsC w2 g cap xs ∧ Below w'.heap.size w' w2)) := fun hl w' hb => sCopyA r c a m xs.length xs w' (h.below hb) ha rfl (by omega)
  have VN : Hid (isMat r c xs = false ∨ prmB p = false → redM r c p xs = MR.no) := fun h => by
    show _ = _
    unfold redM
    rcases h with h | h
    · rw [h]; rfl
    · rw [h, Bool.and_false]; rfl
  have VY : Hid (isMat r c xs = true → prmB p = true → redM r c p xs = ⟨true, r, c, resL p xs⟩) := fun h1 h2 => by
    show _ = _
    unfold redM
    rw [h1, h2]; rfl
  have PB : Hid (prmB p = true → 2 ≤ p ∧ p ≤ 10000) := fun h => ⟨(prmB_says h).1.1, (prmB_says h).2⟩
  have ML : Hid (∀ k, (mixL xs k fun i => xs.getD i 0 % p).length = xs.length) := fun k => mixL_length _ _ _
  have MA : Hid (∀ k, (mixL xs k fun i => xs.getD i 0 % p).getD k 0 = xs.getD k 0) := fun k => mixL_at _ _ _
  have MS : Hid (∀ k, (mixL xs k fun i => xs.getD i 0 % p).set k (xs.getD k 0 % p) = mixL xs (k + 1) fun i => xs.getD i 0 % p) := fun k => mixL_step xs k (fun i => xs.getD i 0 % p)
  have MZ : Hid ((mixL xs 0 fun i => xs.getD i 0 % p) = xs) := mixL_zero _ _
  have ME : Hid ((mixL xs xs.length fun i => xs.getD i 0 % p) = resL p xs) := resL_mix
  have RN : Hid ((resL p xs).length = xs.length) := by show _ = _; unfold resL; exact List.length_map ..
  obtain ⟨N, hN⟩ : ∃ N, xs.length = N := ⟨_, rfl⟩
  rw [hN] at IM CP HX ML ME RN hn ⊢
  generalize redM r c p xs = RES at VN VY ⊢
  generalize isMat r c xs = bm at IM HX VN VY
  have XN := Lib.hid hN
  clear h ha hN
  go_enter Try.func89, Try.ntmps89
  go_upto_region 1 with fail
  have K0 : Hid (Blk3 ((w.alloc (.cells #[.int .i64 r, .int .i64 c, .slice a N m] 34)).alloc (.cells #[.int .i64 0, .int .i64 0, .slice none 0 0] 34)) w.heap.size 34 (.int .i64 r) (.int .i64 c) (.slice a N m)) := (Blk3.at_ _ _ _ _ rfl).old _
  have R0 : Hid (Blk3 ((w.alloc (.cells #[.int .i64 r, .int .i64 c, .slice a N m] 34)).alloc (.cells #[.int .i64 0, .int .i64 0, .slice none 0 0] 34)) (w.heap.size + 1) 34 (.int .i64 0) (.int .i64 0) (.slice none 0 0)) := Blk3.at_ _ _ _ _ (by simp)
  have B0 : Hid (Below w.heap.size w ((w.alloc (.cells #[.int .i64 r, .int .i64 c, .slice a N m] 34)).alloc (.cells #[.int .i64 0, .int .i64 0, .slice none 0 0] 34))) := ((Below.refl _ _).alloc (Nat.le_refl _) _).alloc (by simp) _
  have S0 : Hid (((w.alloc (.cells #[.int .i64 r, .int .i64 c, .slice a N m] 34)).alloc (.cells #[.int .i64 0, .int .i64 0, .slice none 0 0] 34)).heap.size = w.heap.size + 2) := by show _ = _; simp
  generalize (w.alloc (.cells #[.int .i64 r, .int .i64 c, .slice a N m] 34)).alloc (.cells #[.int .i64 0, .int .i64 0, .slice none 0 0] 34) = W0 at K0 R0 B0 S0 ⊢
  obtain ⟨p0, p1, p2, -, -, -⟩ := K0.out.all
  go_wp2_with fail
  refine (IM.out _ B0.out).mono ?_
  rintro e w1 ⟨rfl, hb⟩
  have s0 := S0.out
  have sb := hb.size
  have K1 := Lib.hid (K0.out.step hb)
  have R1 := Lib.hid (R0.out.step hb)
  have B1 := Lib.hid (B0.out.trans (hb.mono (by omega)))
  clear hb K0 R0 B0 S0 p0 p1 p2
  obtain ⟨p0, p1, p2, -, -, -⟩ := K1.out.all
  cases bm with
  | false =>
    have RX := Lib.hid (VN.out (.inl rfl))
    clear p0 p1 p2
    obtain ⟨r0, r1, r2, f0, f1, f2⟩ := R1.out.all
    go_wp2_with fail
    obtain ⟨E0, E1, E2, -, -, -⟩ := (((R1.out.set0 (.int .i64 0)).set1 (.int .i64 0)).set2 (.slice none 0 0)).all
    rw [RX.out]
    exact bodyPost_ret (v := .tuple #[.agg #[.int .i64 0, .int .i64 0, .slice none 0 0], .bool false]) (by simp [results, Try.results89, go_sem, E0, E1, E2]) rfl ⟨_, rfl, .inl ⟨rfl, rfl⟩, ((B1.out.setCell (Nat.le_succ _) _).setCell (Nat.le_succ _) _).setCell (Nat.le_succ _) _⟩
  | true =>
    go_wp2_with fail
    refine (sPrime p _).mono ?_
    rintro e w2 ⟨rfl, rfl⟩
    obtain ⟨bp, hbp⟩ : ∃ b, prmB p = b := ⟨_, rfl⟩
    rw [hbp] at VN VY PB ⊢
    clear hbp
    cases bp with
    | false =>
      have RX := Lib.hid (VN.out (.inr rfl))
      clear p0 p1 p2
      obtain ⟨r0, r1, r2, f0, f1, f2⟩ := R1.out.all
      go_wp2_with fail
      obtain ⟨E0, E1, E2, -, -, -⟩ := (((R1.out.set0 (.int .i64 0)).set1 (.int .i64 0)).set2 (.slice none 0 0)).all
      rw [RX.out]
      exact bodyPost_ret (v := .tuple #[.agg #[.int .i64 0, .int .i64 0, .slice none 0 0], .bool false]) (by simp [results, Try.results89, go_sem, E0, E1, E2]) rfl ⟨_, rfl, .inl ⟨rfl, rfl⟩, ((B1.out.setCell (Nat.le_succ _) _).setCell (Nat.le_succ _) _).setCell (Nat.le_succ _) _⟩
    | true =>
      obtain ⟨hp1, hp2⟩ := PB.out rfl
      have N5 := HX.out trivial
      have RX := Lib.hid (VY.out trivial rfl)
      go_wp2_with fail
      refine (CP.out N5 _ B1.out).mono ?_
      rintro e w3 ⟨g, cap, rfl, hg, hi, hb⟩
      have gl := hi.lt
      have sb3 := hb.size
      have R3 := Lib.hid ((R1.out.step hb).old (.cells #[.int .i64 r, .int .i64 c, .slice (some ⟨g, 0, none⟩) N cap] 34))
      have Bx := B1.out.trans (hb.mono (by omega))
      have B3 := Lib.hid (Bx.alloc Bx.size (.cells #[.int .i64 r, .int .i64 c, .slice (some ⟨g, 0, none⟩) N cap] 34))
      have hcap := hi.le
      have I3 := Lib.hid (hi.ints.old (.cells #[.int .i64 r, .int .i64 c, .slice (some ⟨g, 0, none⟩) N cap] 34))
      have A3 : Hid (Blk3 (w3.alloc (.cells #[.int .i64 r, .int .i64 c, .slice (some ⟨g, 0, none⟩) N cap] 34)) w3.heap.size 34 (.int .i64 r) (.int .i64 c) (.slice (some ⟨g, 0, none⟩) N cap)) := Blk3.at_ _ _ _ _ rfl
      rw [XN.out] at hcap
      have S3 : Hid ((w3.alloc (.cells #[.int .i64 r, .int .i64 c, .slice (some ⟨g, 0, none⟩) N cap] 34)).heap.size = w3.heap.size + 1) := by show _ = _; simp
      clear hb Bx hi p0 p1 p2 K1 R1 B1 IM CP
      go_upto_region 4 with fail
      generalize w3.alloc (.cells #[.int .i64 r, .int .i64 c, .slice (some ⟨g, 0, none⟩) N cap] 34) = W3 at R3 B3 I3 A3 S3 ⊢
      obtain ⟨b, hbb⟩ : ∃ b, w3.heap.size = b := ⟨_, rfl⟩
      rw [hbb] at A3 S3 gl sb3 ⊢
      obtain ⟨rb, hrb⟩ : ∃ rb, w.heap.size + 1 = rb := ⟨_, rfl⟩
      rw [hrb] at R3 ⊢
      have l1 : w.heap.size ≤ rb := by omega
      have l2 : rb < g := by omega
      have l3 : g < b := gl
      clear hbb hrb gl sb3 sb s0 hg
      go_wp2_with fail
      go_loopw [7] (fun i wr => ∃ k : Nat, i = .int .i64 k ∧ k ≤ N ∧ Ints wr g (mixL xs k fun i => xs.getD i 0 % p) ∧ W3.grownBy wr (some g)) (fun i _ => N - (intOf i).toNat)
      case atStart => exact ⟨0, rfl, by omega, by rw [MZ.out]; exact I3.out, World.grownBy.refl _ _⟩
      case round =>
        obtain ⟨k, rfl, hk, hi, hgr⟩ := hrel
        have I := Lib.hid hi
        have G := Lib.hid hgr
        clear hi hgr
        have R4 := Lib.hid (R3.out.keepOne G.out (by omega))
        have A4 := Lib.hid (A3.out.keepOne G.out (by omega))
        have B4 := Lib.hid (B3.out.trans (below_of_one G.out (by omega) B3.out.size))
        obtain ⟨p0, p1, p2, -, -, -⟩ := A4.out.all
        by_cases hlt : k < N
        · have hca := I.out.cell (i := k) (by rw [ML.out]; exact hlt)
          have hfr := I.out.free k
          rw [MA.out] at hca
          have MK := Lib.hid (MS.out k)
          obtain ⟨x, hx⟩ : ∃ x, xs.getD k 0 = x := ⟨_, rfl⟩
          rw [hx] at hca MK
          clear hx
          go_wp2_with fail
          refine wp_region_still_tail 11 (by kernel_rfl) (by kernel_rfl) ?_
          simp only [List.take_succ_cons, List.take_zero, List.drop_succ_cons, List.drop_zero]
          repeat still_step
          still_call ((sMod x p _ (by omega) (by omega)).mono fun _ _ h => ⟨h.1, h.2.symm⟩)
          repeat still_step
          try refine wpStill_nil ?_
          have I5 := Lib.hid ((I.out.drew).set k (x % p))
          have G5 := Lib.hid (grown_set_one (a := ⟨g, k, none⟩) (grown_drew_one G.out) rfl (.int .i64 (x % p)))
          go_wp2_with fail
          go_roundw
          case rel => exact ⟨k + 1, by go_num, by omega, by rw [← MK.out]; exact I5.out, G5.out⟩
          case measure => simp [intOf]; omega
        · obtain rfl : N = k := by omega
          rw [ME.out] at I
          obtain ⟨r0, r1, r2, f0, f1, f2⟩ := R4.out.all
          go_wp2_with fail
          obtain ⟨E0, E1, E2, -, -, -⟩ := (((R4.out.set0 (.int .i64 r)).set1 (.int .i64 c)).set2 (.slice (some ⟨g, 0, none⟩) N cap)).all
          rw [RX.out]
          refine bodyPost_ret (v := .tuple #[.agg #[.int .i64 r, .int .i64 c, .slice (some ⟨g, 0, none⟩) N cap], .bool true]) (by simp [results, Try.results89, go_sem, E0, E1, E2]) rfl ⟨_, rfl, .inr ⟨g, cap, by rw [RN.out], by omega, ?_, by rw [RN.out]; omega, by rw [RN.out]; omega⟩, ((B4.out.setCell l1 _).setCell l1 _).setCell l1 _⟩
          exact ((I.out.far (a := ⟨rb, 0, none⟩) (by show g ≠ rb; omega) _).far (a := ⟨rb, 1, none⟩) (by show g ≠ rb; omega) _).far (a := ⟨rb, 2, none⟩) (by show g ≠ rb; omega) _
end Go.Proofs.Ytgemkfcapkfdbaa
end

section
/-
  Chapter 7, in the model: a row made primitive.
-/
namespace Go.Proofs.Ytgemkfcapkfdbaa
set_option maxRecDepth 100000
open Go.RowKit

/-- The worlds of the walk: the argument's block, the row's block, nothing else is touched. -/
structure PrSt (w : World) (r c : Nat) (g N cap : Nat) (ys : List Int) (wr : World) : Prop where
  blk : Blk3 wr w.heap.size 34 (.int .i64 r) (.int .i64 c) (.slice (some ⟨g, 0, none⟩) N cap)
  ints : Ints wr g ys
  grw : w.grownBy wr (some g)
theorem PrSt.put {w : World} {r c g N cap : Nat} {ys : List Int} {wr : World} (h : PrSt w r c g N cap ys wr) (hne : w.heap.size ≠ g) (P : Nat) (z : Int) : PrSt w r c g N cap (ys.set P z) (wr.setCell ⟨g, P, none⟩ (.int .i64 z)) := ⟨h.blk.far hne _, h.ints.set P z, grown_set_one h.grw rfl _⟩
theorem PrSt.drewN {w : World} {r c g N cap : Nat} {ys : List Int} {wr : World} (h : PrSt w r c g N cap ys wr) (n : Nat) : PrSt w r c g N cap ys (wr.drewN n) := ⟨h.blk.drewN n, h.ints.drewN n, grown_drewN_one h.grw n⟩
theorem prV_one {c : Nat} {v : Nat → Int} {k : Nat} (h : gcdN c v ≠ 0) : prV c v k = (sgnN c v * v k).tdiv (gcdN c v) := if_neg h
theorem prV_nil {c : Nat} {v : Nat → Int} {k : Nat} (h : gcdN c v = 0) : prV c v k = v k := if_pos h
theorem sgn_step {n : Nat} {f : Nat → Int} : sgnN (n + 1) f = if sgnN n f = 0 ∧ f n ≠ 0 then (if f n < 0 then -1 else 1) else sgnN n f := rfl
end Go.Proofs.Ytgemkfcapkfdbaa
end

section
/-
  A row of ints of a call's own, that append may go on with.
-/
namespace Go.Proofs.Ytgemkfcapkfdbaa
open Go.RowKit

def OwnQ (B : Nat) (w : World) (v : Value) (zs : List Int) : Prop := w.ownsRow B 3 1 v zs.length (zs.map (Value.int .i64))
theorem OwnQ.le {B : Nat} {w : World} {v : Value} {zs : List Int} (h : OwnQ B w v zs) {k : Nat} (hk : v.ownBlock = some k) : B ≤ k := by
  rcases h.2 with ⟨rfl, -⟩ | ⟨g, cap, cur, rfl, hB, -⟩
  · cases hk
  · simp [Value.ownBlock] at hk; omega
theorem OwnQ.move {B : Nat} {w w' : World} {v : Value} {zs : List Int} (h : OwnQ B w v zs) (hb : ∀ k, v.ownBlock = some k → w'.heap[k]? = w.heap[k]?) : OwnQ B w' v zs := by
  obtain ⟨h1, ⟨h2, h3⟩ | ⟨g, cap, cur, rfl, hB, hg, rest⟩⟩ := h
  · exact ⟨h1, .inl ⟨h2, h3⟩⟩
  · exact ⟨h1, .inr ⟨g, cap, cur, rfl, hB, (hb g rfl).trans hg, rest⟩⟩
theorem OwnQ.lt {B : Nat} {w : World} {v : Value} {zs : List Int} (h : OwnQ B w v zs) {k : Nat} (hk : v.ownBlock = some k) : k < w.heap.size := by
  rcases h.2 with ⟨rfl, -⟩ | ⟨g, cap, cur, rfl, hB, hg, -⟩
  · cases hk
  · simp only [Value.ownBlock, Option.some.injEq] at hk
    subst hk
    exact lt_of_block hg
theorem OwnQ.one {B rb : Nat} {w w' : World} {v : Value} {zs : List Int} (h : OwnQ B w v zs) (hg : w.grownBy w' (some rb)) (hr : rb < B) : OwnQ B w' v zs :=
  h.move fun k hk => hg.block k (h.lt hk) (by have := h.le hk; simp; omega)
theorem OwnQ.drewN {B : Nat} {w : World} {v : Value} {zs : List Int} (h : OwnQ B w v zs) (n : Nat) : OwnQ B (w.drewN n) v zs := h
theorem OwnQ.keep {B : Nat} {w w' : World} {v : Value} {zs : List Int} (h : OwnQ B w v zs) (hb : Below w.heap.size w w') : OwnQ B w' v zs := h.move fun k hk => hb.block k (h.lt hk)
theorem OwnQ.lower {B B' : Nat} {w : World} {v : Value} {zs : List Int} (h : OwnQ B w v zs) (hB : B' ≤ B) : OwnQ B' w v zs := by
  obtain ⟨h1, h2 | ⟨g, cap, cur, e, hg, rest⟩⟩ := h
  · exact ⟨h1, .inl h2⟩
  · exact ⟨h1, .inr ⟨g, cap, cur, e, by omega, rest⟩⟩
theorem OwnQ.form {B : Nat} {w : World} {v : Value} {zs : List Int} (h : OwnQ B w v zs) : ∃ a c, v = .slice a zs.length c := by
  obtain ⟨h1, ⟨h2, h3⟩ | ⟨g, cap, cur, e, hB, hg, rest⟩⟩ := h
  · exact ⟨_, _, by rw [h2, h3]⟩
  · exact ⟨_, _, e⟩
theorem OwnQ.own {B : Nat} {w : World} {v : Value} {zs : List Int} (h : OwnQ B w v zs) (hn : zs.length ≤ 16777216) : Own B w v zs := Own.of_row h hn
theorem OwnQ.nil (B : Nat) (w : World) : OwnQ B w (.slice none 0 0) [] := ⟨rfl, .inl ⟨rfl, rfl⟩⟩
theorem OwnQ.none_ {B : Nat} {w : World} {g : Nat} (hB : B ≤ g) (h : IntsC w g 0 []) : OwnQ B w (.slice (some ⟨g, 0, none⟩) 0 0) [] := h.row hB
end Go.Proofs.Ytgemkfcapkfdbaa
end

section
/-
  Plain mathematics of chapter 7: the rank of a matrix turned over; products. Nothing of a program is used.
-/
namespace Go.Proofs.Ytgemkfcapkfdbaa

theorem sumN_skip (n a : Nat) (ha : a < n + 1) (f : Nat → Int) : sumN (n + 1) f = f a + sumN n fun i => f (skp a i) := by
  induction n generalizing a with
  | zero =>
    obtain rfl : a = 0 := by omega
    show sumN 0 f + f 0 = _
    simp [sumN]
  | succ n ih =>
    rcases Nat.lt_or_ge a (n + 1) with h | h
    · have e := ih a h
      have e2 : skp a n = n + 1 := by unfold skp; rw [if_neg (by omega)]
      have : sumN (n + 1) (fun i => f (skp a i)) = sumN n (fun i => f (skp a i)) + f (skp a n) := rfl
      rw [this, e2]
      show sumN (n + 1) f + f (n + 1) = _
      rw [e, Int.add_assoc]
    · obtain rfl : a = n + 1 := by omega
      show sumN (n + 1) f + f (n + 1) = _
      rw [Int.add_comm]
      congr 1
      refine sumN_congr fun i hi => ?_
      unfold skp
      rw [if_pos (by omega)]
/-- More unknowns than equations: there is a solution that is not 0. -/
theorem ker_some : ∀ (t s : Nat) (C : Mx), t < s → ∃ l : Nat → Int, (∃ i, i < s ∧ l i ≠ 0) ∧ ∀ j, j < t → (sumN s fun i => l i * C i j) = 0 := by
  intro t
  induction t with
  | zero => intro s C hs; exact ⟨fun _ => 1, ⟨0, hs, by decide⟩, fun j hj => by omega⟩
  | succ t ih =>
    intro s C hs
    by_cases hz : ∀ i, i < s → C i t = 0
    · obtain ⟨l, hl, h0⟩ := ih s C (by omega)
      refine ⟨l, hl, fun j hj => ?_⟩
      rcases Nat.lt_or_ge j t with h | h
      · exact h0 j h
      · obtain rfl : j = t := by omega
        exact sumN_all_zero fun i hi => by rw [hz i hi, Int.mul_zero]
    · have : ∃ a, a < s ∧ C a t ≠ 0 := Classical.byContradiction fun hn => hz fun i hi => Classical.byContradiction fun h => hn ⟨i, hi, h⟩
      obtain ⟨a, ha, hat⟩ := this
      obtain ⟨s, rfl⟩ : ∃ m, s = m + 1 := ⟨s - 1, by omega⟩
      obtain ⟨l, ⟨b, hb, hlb⟩, h0⟩ := ih s (fun i j => C a t * C (skp a i) j - C (skp a i) t * C a j) (by omega)
      have hself : ∀ i, skp a i ≠ a := fun i => skp_ne a i
      let L : Nat → Int := fun i => if i = a then -(sumN s fun i => l i * C (skp a i) t) else C a t * l (unskp a i)
      have LA : L a = -(sumN s fun i => l i * C (skp a i) t) := if_pos rfl
      have LS : ∀ i, L (skp a i) = C a t * l i := fun i => by
        show (if skp a i = a then _ else _) = _
        rw [if_neg (hself i), unskp_skp]
      refine ⟨L, ⟨skp a b, skp_lt hb, by rw [LS]; exact Int.mul_ne_zero hat hlb⟩, fun j hj => ?_⟩
      rw [sumN_skip s a ha, LA, Int.neg_mul, sumN_mul]
      have e1 : (sumN s fun i => L (skp a i) * C (skp a i) j) = sumN s fun i => C a t * l i * C (skp a i) j := sumN_congr fun i _ => by rw [LS]
      rw [e1]
      rcases Nat.lt_or_ge j t with h | h
      · have := h0 j h
        have e2 : (sumN s fun i => C a t * l i * C (skp a i) j) = sumN s (fun i => l i * (C a t * C (skp a i) j - C (skp a i) t * C a j)) + sumN s (fun i => l i * C (skp a i) t * C a j) := by
          rw [← sumN_add]
          exact sumN_congr fun i _ => by grind
        rw [e2, this]
        omega
      · obtain rfl : j = t := by omega
        have e2 : (sumN s fun i => C a j * l i * C (skp a i) j) = sumN s (fun i => l i * C (skp a i) j * C a j) := sumN_congr fun i _ => by grind
        rw [e2]
        omega
/-- One divisor for all. -/
theorem one_den {r c s : Nat} {A B : Mx} (h : SubSp r s c A B) : ∃ (d : Int) (K : Mx), d ≠ 0 ∧ ∀ i j, i < r → j < c → d * A i j = sumN s fun k => K i k * B k j := by
  induction r with
  | zero => exact ⟨1, fun _ _ => 0, by decide, fun i j hi => by omega⟩
  | succ r ih =>
    obtain ⟨d, K, hd, hK⟩ := ih fun i hi => h i (by omega)
    obtain ⟨e, k, he, hk⟩ := h r (by omega)
    refine ⟨d * e, fun i j => if i = r then d * k j else e * K i j, Int.mul_ne_zero hd he, fun i j hi hj => ?_⟩
    by_cases hir : i = r
    · subst hir
      have e1 : (sumN s fun l => (if i = i then d * k l else e * K i l) * B l j) = sumN s fun l => d * (k l * B l j) := sumN_congr fun l _ => by rw [if_pos rfl, Int.mul_assoc]
      show _ = sumN s fun l => (if i = i then d * k l else e * K i l) * B l j
      rw [e1, ← sumN_mul_left, ← hk j hj, Int.mul_assoc]
    · have e1 : (sumN s fun l => (if i = r then d * k l else e * K i l) * B l j) = sumN s fun l => e * (K i l * B l j) := sumN_congr fun l _ => by rw [if_neg hir, Int.mul_assoc]
      show _ = sumN s fun l => (if i = r then d * k l else e * K i l) * B l j
      rw [e1, ← sumN_mul_left, ← hK i j (by omega) hj]
      grind
/-- An echelon form inside the span of t rows has at most t pivots. -/
theorem Ech.few {r c s : Nat} {B : Mx} {q : Nat → Nat} (h : Ech r c B q s) {t : Nat} {K : Mx} (hs : SubSp r t c B K) : s ≤ t := by
  refine Classical.byContradiction fun hn => ?_
  obtain ⟨d, C, hd, hC⟩ := one_den hs
  obtain ⟨l, ⟨i, hi, hli⟩, h0⟩ := ker_some t s C (by omega)
  have hr : s ≤ r := h.le
  have hz : ∀ j, j < c → (sumN s fun i => l i * (d * B i j)) = 0 := fun j hj => by
    have e : (sumN s fun i => l i * (d * B i j)) = sumN s fun i => sumN t fun k => l i * C i k * K k j := sumN_congr fun i hi => by
      rw [hC i j (by omega) hj, sumN_mul_left]
      exact sumN_congr fun k _ => by rw [Int.mul_assoc]
    rw [e, sumN_swap]
    refine sumN_all_zero fun k hk => ?_
    rw [← sumN_mul, h0 k hk, Int.zero_mul]
  have := hz (q i) (h.col i hi)
  rw [sumN_one hi (fun k hk hne => by rw [h.only i k hi (by omega) hne, Int.mul_zero, Int.mul_zero])] at this
  have hp := h.pos i hi
  rcases Int.mul_eq_zero.mp this with h1 | h1
  · exact hli h1
  · rcases Int.mul_eq_zero.mp h1 with h2 | h2
    · exact hd h2
    · omega
theorem rank_tr_le {r c t s : Nat} {M A B : Mx} {p q : Nat → Nat} (hA : Ech r c A p t) (hMA : SubSp r r c M A) (hB : Ech c r B q s) (hBM : SubSp c c r B (trX M)) : s ≤ t := by
  -- the rows of A behind the pivots' are 0
  have hMA' : SubSp r t c M A := fun i hi => by
    obtain ⟨d, k, hd, hk⟩ := hMA i hi
    refine ⟨d, k, hd, fun j hj => ?_⟩
    rw [hk j hj]
    obtain ⟨m, hm⟩ : ∃ m, r = t + m := ⟨r - t, by have := hA.le; omega⟩
    have key : ∀ m, t + m ≤ r → (sumN (t + m) fun i => k i * A i j) = sumN t fun i => k i * A i j := by
      intro m
      induction m with
      | zero => intro _; rfl
      | succ m ih =>
        intro h
        show sumN (t + m) _ + k (t + m) * A (t + m) j = _
        rw [ih (by omega), hA.rest (t + m) j (by omega) (by omega) hj, Int.mul_zero, Int.add_zero]
    rw [hm]
    exact key m (by omega)
  obtain ⟨d, K, hd, hK⟩ := one_den hMA'
  have hsub : SubSp c t r (trX M) (trX K) := fun j hj => ⟨d, fun k => A k j, hd, fun i hi => by
    show d * M i j = sumN t fun k => A k j * K i k
    rw [hK i j hi hj]
    exact sumN_congr fun k _ => Int.mul_comm _ _⟩
  exact hB.few (hBM.trans hsub)
/-- The rank of a matrix turned over is that of the matrix. -/
theorem rank_tr {r c t s : Nat} {M A B : Mx} {p q : Nat → Nat} (hA : Ech r c A p t) (hMA : SubSp r r c M A) (hAM : SubSp r r c A M) (hB : Ech c r B q s) (hBM : SubSp c c r B (trX M)) (hMB : SubSp c c r (trX M) B) : s = t := by
  have h1 := rank_tr_le hA hMA hB hBM
  have h2 := rank_tr_le (M := trX M) hB hMB hA hAM
  omega
/-- The rows of a product are in the span of the right factor's. -/
theorem sub_mul {n c : Nat} (U M : Mx) : SubSp n n c (mulX n U M) M := fun i _ => ⟨1, U i, by decide, fun j _ => by rw [Int.one_mul]; rfl⟩
theorem mul_sub {n c : Nat} {U M V : Mx} {d : Int} (hd : d ≠ 0) (h : ∀ i k, i < n → k < n → mulX n V U i k = if i = k then d else 0) : SubSp n n c M (mulX n U M) := fun i hi => by
  refine ⟨d, V i, hd, fun j hj => ?_⟩
  have e : (sumN n fun k => V i k * mulX n U M k j) = sumN n fun l => mulX n V U i l * M l j := by
    have e1 : (sumN n fun k => V i k * mulX n U M k j) = sumN n fun k => sumN n fun l => V i k * U k l * M l j := sumN_congr fun k _ => by
      show V i k * sumN n _ = _
      rw [sumN_mul_left]
      exact sumN_congr fun l _ => by rw [Int.mul_assoc]
    rw [e1, sumN_swap]
    refine sumN_congr fun l _ => ?_
    show _ = sumN n _ * M l j
    rw [sumN_mul]
  rw [e, sumN_one hi (fun l hl hne => by rw [h i l hi hl, if_neg (fun e => hne e.symm), Int.zero_mul]), h i i hi hi, if_pos rfl]
/-- A product with a factor whose determinant is not 0 spans what the other factor spans. -/
theorem span_mul {n c : Nat} {U M : Mx} (h : det n U ≠ 0) : SubSp n n c M (mulX n U M) := by
  cases n with
  | zero => intro i hi; omega
  | succ n => exact mul_sub h (fun i k hi hk => adj_mul n U i k hi hk)
/-- Two matrices, one on top of the other. -/
def stkX (r : Nat) (A B : Mx) : Mx := fun i j => if i < r then A i j else B (i - r) j
theorem stk_left {r s c : Nat} {A B : Mx} : SubSp r (r + s) c A (stkX r A B) := fun i hi => (InSp.row (A := stkX r A B) (show i < r + s by omega)).congr fun j _ => by show A i j = if i < r then _ else _; rw [if_pos hi]
theorem stk_right {r s c : Nat} {A B : Mx} : SubSp s (r + s) c B (stkX r A B) := fun i hi => (InSp.row (A := stkX r A B) (show r + i < r + s by omega)).congr fun j _ => by
  show B i j = if r + i < r then _ else B (r + i - r) j
  rw [if_neg (by omega), show r + i - r = i by omega]
theorem stk_sub {r s t c : Nat} {A B C : Mx} (h : SubSp r t c A C) (h' : SubSp s t c B C) : SubSp (r + s) t c (stkX r A B) C := fun i hi => by
  by_cases e : i < r
  · exact (h i e).congr fun j _ => by show (if i < r then _ else _) = _; rw [if_pos e]
  · exact (h' (i - r) (by omega)).congr fun j _ => by show (if i < r then _ else _) = _; rw [if_neg e]
end Go.Proofs.Ytgemkfcapkfdbaa
end

section
/-
  Plain mathematics of chapter 7: what the laws ask of echelon forms. Nothing of a program is used.
-/
namespace Go.Proofs.Ytgemkfcapkfdbaa

theorem elimR_fix {r c t j : Nat} {xs : List Int} : ∀ (k i : Nat), (∀ p, i ≤ p → p < i + k → p = t ∨ mxC c xs p j = 0) → elimR r c t j k i xs = some xs := by
  intro k
  induction k with
  | zero => intro i _; rfl
  | succ k ih =>
    intro i h
    show (if i = t ∨ mxC c xs i j = 0 then elimR r c t j k (i + 1) xs else _) = _
    rw [if_pos (h i (Nat.le_refl _) (by omega))]
    exact ih (i + 1) fun p h1 h2 => h p (by omega) (by omega)
theorem map_getD {t : Nat} {p : Nat → Nat} {i : Nat} (hi : i < t) : ((List.range t).map p).getD i 0 = p i := by simp [List.getD, hi]
theorem echC_fix {r c t : Nat} {xs : List Int} {p : Nat → Nat} (h : Ech r c (mxC c xs) p t) : ∀ (k j m : Nat), j + k = c → m ≤ t → (∀ i, i < m → p i < j) → (m < t → j ≤ p m) → echC r c k j xs ((List.range m).map p) = some (xs, (List.range t).map p) := by
  intro k
  induction k with
  | zero =>
    intro j m hjk hm _ h2
    have : m = t := by
      rcases Nat.lt_or_ge m t with h3 | h3
      · have := h2 h3; have := h.col m h3; omega
      · omega
    rw [this]; rfl
  | succ k ih =>
    intro j m hjk hm h1 h2
    have hl : ((List.range m).map p).length = m := by simp
    show (if ((List.range m).map p).length < r then
      if fstR c j xs (r - ((List.range m).map p).length) ((List.range m).map p).length = r then echC r c k (j + 1) xs ((List.range m).map p)
      else match elimR r c ((List.range m).map p).length j r 0 (swC (fstR c j xs (r - ((List.range m).map p).length) ((List.range m).map p).length) ((List.range m).map p).length c xs) with
        | none => none
        | some ys => echC r c k (j + 1) ys ((List.range m).map p ++ [j])
    else some (xs, (List.range m).map p)) = _
    rw [hl]
    have hle := h.le
    by_cases hmr : m < r
    · rw [if_pos hmr]
      by_cases hp : m < t ∧ p m = j
      · obtain ⟨hmt, hpm⟩ := hp
        have hpos := h.pos m hmt
        rw [hpm] at hpos
        have hf : fstR c j xs (r - m) m = m := fstR_eq (Nat.le_refl _) (by omega) (fun i h3 h4 => by omega) (fun _ => by omega)
        rw [hf, if_neg (by omega)]
        have hs : swC m m c xs = xs := by unfold swC; rw [if_pos rfl]
        have he : elimR r c m j r 0 xs = some xs := elimR_fix r 0 fun q _ hq => by
          by_cases e : q = m
          · exact .inl e
          · right
            have := h.only m q hmt (by omega) e
            rw [hpm] at this
            exact this
        rw [hs, he]
        show echC r c k (j + 1) xs ((List.range m).map p ++ [j]) = _
        have e : (List.range m).map p ++ [j] = (List.range (m + 1)).map p := by rw [List.range_succ, List.map_append, List.map_cons, List.map_nil, hpm]
        rw [e]
        refine ih (j + 1) (m + 1) (by omega) hmt (fun i hi => ?_) (fun h3 => ?_)
        · rcases Nat.lt_or_ge i m with h4 | h4
          · have := h1 i h4; omega
          · obtain rfl : i = m := by omega
            omega
        · have := h.inc m (m + 1) (by omega) h3
          omega
      · have hz : ∀ i, m ≤ i → i < r → mxC c xs i j = 0 := fun i h3 h4 => by
          rcases Nat.lt_or_ge i t with h5 | h5
          · have h6 : m < t := by omega
            have h7 := h2 h6
            have h8 : j < p m := by
              have : p m ≠ j := fun e => hp ⟨h6, e⟩
              omega
            rcases Nat.lt_or_ge m i with h9 | h9
            · have := h.inc m i h9 h5
              exact h.left i j h5 (by omega)
            · obtain rfl : i = m := by omega
              exact h.left i j h5 h8
          · exact h.rest i j h5 h4 (by omega)
        have hf : fstR c j xs (r - m) m = r := fstR_eq (by omega) (by omega) (fun i h3 h4 => hz i h3 h4) (fun h3 => by omega)
        rw [hf, if_pos rfl]
        refine ih (j + 1) m (by omega) hm (fun i hi => by have := h1 i hi; omega) (fun h3 => ?_)
        have h4 := h2 h3
        have : p m ≠ j := fun e => hp ⟨h3, e⟩
        omega
    · rw [if_neg hmr]
      have : m = t := by omega
      rw [this]
theorem prTo_fix {r c : Nat} {xs : List Int} (hx : xs.length = r * c) (hn : ∀ i, i < r → Norm c (mxC c xs i)) : prTo r c r xs = xs := by
  refine (tab_ext hx fun i j hi hj => ?_).symm
  rw [if_pos hi, prV_id (hn i hi) hj]
  rfl
theorem pv_map {pv : List Nat} : (List.range pv.length).map (fun k => pv.getD k 0) = pv := by
  refine List.ext_getElem (by simp) fun i h1 h2 => ?_
  simp [List.getD, h2]
/-- An echelon form stays us it is. -/
theorem echM_fix {r c : Nat} {xs ys : List Int} {pv : List Nat} (hx : xs.length = r * c) (hn : nums xs = true) (h : echM r c xs = some (ys, pv)) : echM r c ys = some (ys, pv) := by
  obtain ⟨he, -, -, hl, -, hm⟩ := echM_says hx hn h
  unfold echM
  rw [prTo_fix hl hm]
  have := echC_fix he c 0 0 (by omega) (Nat.zero_le _) (fun i hi => by omega) (fun _ => Nat.zero_le _)
  rw [pv_map] at this
  exact this
theorem mx_ext {r c : Nat} {xs ys : List Int} (hx : xs.length = r * c) (hy : ys.length = r * c) (h : ∀ i j, i < r → j < c → mxC c xs i j = mxC c ys i j) : xs = ys := by
  have e1 := tab_ext (r := r) (c := c) (f := mxC c ys) hx h
  have e2 := tab_ext (r := r) (c := c) (f := mxC c ys) hy (fun _ _ _ _ => rfl)
  rw [e1]; exact e2.symm
theorem ech_same {r c : Nat} {xs ys us vs : List Int} {p q : List Nat} (hx : xs.length = r * c) (hxn : nums xs = true) (hy : ys.length = r * c) (hyn : nums ys = true) (ha : echM r c xs = some (us, p)) (hb : echM r c ys = some (vs, q)) (h1 : SubSp r r c (mxC c xs) (mxC c ys)) (h2 : SubSp r r c (mxC c ys) (mxC c xs)) : us = vs ∧ p = q := by
  obtain ⟨ea, ta, fa, la, -, -⟩ := echM_says hx hxn ha
  obtain ⟨eb, tb, fb, lb, -, -⟩ := echM_says hy hyn hb
  obtain ⟨u1, u2, u3⟩ := ea.uniq eb (ta.trans (h1.trans fb)) (tb.trans (h2.trans fa))
  refine ⟨mx_ext la lb fun i j hi hj => ?_, List.ext_getElem u1 fun i h3 h4 => ?_⟩
  · rcases Nat.lt_or_ge i p.length with h | h
    · exact (u3 i j h hj).symm
    · rw [ea.rest i j h hi hj, eb.rest i j (by omega) hi hj]
  · have := u2 i h3
    simpa [List.getD, h3, h4] using this.symm
/-- The rank of a matrix turned over. -/
theorem ech_turn {r c : Nat} {xs ys us vs : List Int} {p q : List Nat} (hx : xs.length = r * c) (hxn : nums xs = true) (hy : ys.length = c * r) (hyn : nums ys = true) (ht : ∀ i j, i < c → j < r → mxC r ys i j = mxC c xs j i) (ha : echM r c xs = some (us, p)) (hb : echM c r ys = some (vs, q)) : q.length = p.length := by
  obtain ⟨ea, ta, fa, -, -, -⟩ := echM_says hx hxn ha
  obtain ⟨eb, tb, fb, -, -, -⟩ := echM_says hy hyn hb
  have h1 : SubSp c c r (trX (mxC c xs)) (mxC r ys) := fun i hi => (InSp.row (A := mxC r ys) hi).congr fun j hj => (ht i j hi hj).symm
  have h2 : SubSp c c r (mxC r ys) (trX (mxC c xs)) := fun i hi => (InSp.row (A := trX (mxC c xs)) hi).congr fun j hj => ht i j hi hj
  exact rank_tr ea fa ta eb (tb.trans h2) (h1.trans fb)
/-- The first rows that are not zeros are equal. -/
def sameTop (c : Nat) (us vs : List Int) (p q : List Nat) : Bool := decide (p.length = q.length) && decide (∀ i, i < p.length * c → us.getD i 0 = vs.getD i 0)
theorem top_at {c t : Nat} {us vs : List Int} (h : ∀ i, i < t * c → us.getD i 0 = vs.getD i 0) {i j : Nat} (hi : i < t) (hj : j < c) : mxC c us i j = mxC c vs i j := h _ (idx_lt hi hj)
theorem sameTop_iff {r s c : Nat} {xs ys us vs : List Int} {p q : List Nat} (hx : xs.length = r * c) (hxn : nums xs = true) (hy : ys.length = s * c) (hyn : nums ys = true) (ha : echM r c xs = some (us, p)) (hb : echM s c ys = some (vs, q)) : sameTop c us vs p q = true ↔ SubSp r s c (mxC c xs) (mxC c ys) ∧ SubSp s r c (mxC c ys) (mxC c xs) := by
  obtain ⟨ea, ta, fa, la, -, -⟩ := echM_says hx hxn ha
  obtain ⟨eb, tb, fb, lb, -, -⟩ := echM_says hy hyn hb
  unfold sameTop
  rw [Bool.and_eq_true, decide_eq_true_eq, decide_eq_true_eq]
  constructor
  · rintro ⟨h1, h2⟩
    have s1 : SubSp r s c (mxC c us) (mxC c vs) := fun i hi => by
      rcases Nat.lt_or_ge i p.length with h | h
      · exact (InSp.row (A := mxC c vs) (show i < s by have := eb.le; omega)).congr fun j hj => top_at h2 h hj
      · exact (InSp.zero s c _).congr fun j hj => ea.rest i j h hi hj
    have s2 : SubSp s r c (mxC c vs) (mxC c us) := fun i hi => by
      rcases Nat.lt_or_ge i p.length with h | h
      · exact (InSp.row (A := mxC c us) (show i < r by have := ea.le; omega)).congr fun j hj => (top_at h2 h hj).symm
      · exact (InSp.zero r c _).congr fun j hj => eb.rest i j (by omega) hi hj
    exact ⟨fa.trans (s1.trans tb), fb.trans (s2.trans ta)⟩
  · rintro ⟨h1, h2⟩
    obtain ⟨u1, -, u3⟩ := ea.uniq eb (ta.trans (h1.trans fb)) (tb.trans (h2.trans fa))
    refine ⟨u1, fun i hi => ?_⟩
    have hc : 0 < c := by
      rcases Nat.eq_zero_or_pos c with e | e
      · rw [e, Nat.mul_zero] at hi; omega
      · exact e
    have e : i = i / c * c + i % c := by rw [Nat.mul_comm]; exact (Nat.div_add_mod i c).symm
    have h3 : i / c < p.length := Nat.div_lt_of_lt_mul (by rw [Nat.mul_comm]; exact hi)
    have := u3 (i / c) (i % c) h3 (Nat.mod_lt i hc)
    unfold mxC at this
    rw [← e] at this
    exact this.symm
/-- Two matrices span one space just if the rank does not grow where they are put together. -/
theorem spaces_law {r s c : Nat} {xs ys zs us vs ws : List Int} {p q u : List Nat} (hx : xs.length = r * c) (hxn : nums xs = true) (hy : ys.length = s * c) (hyn : nums ys = true) (hz : zs.length = (r + s) * c) (hzn : nums zs = true) (hst : ∀ i j, i < r + s → j < c → mxC c zs i j = stkX r (mxC c xs) (mxC c ys) i j)
    (ha : echM r c xs = some (us, p)) (hb : echM s c ys = some (vs, q)) (hc : echM (r + s) c zs = some (ws, u)) : sameTop c us vs p q = (decide (p.length = u.length) && decide (q.length = u.length)) := by
  obtain ⟨ea, ta, fa, -, -, -⟩ := echM_says hx hxn ha
  obtain ⟨eb, tb, fb, -, -, -⟩ := echM_says hy hyn hb
  obtain ⟨ec, tc, fc, -, -, -⟩ := echM_says hz hzn hc
  have z1 : SubSp (r + s) (r + s) c (mxC c zs) (stkX r (mxC c xs) (mxC c ys)) := fun i hi => (InSp.row (A := stkX r (mxC c xs) (mxC c ys)) hi).congr fun j hj => hst i j hi hj
  have z2 : SubSp (r + s) (r + s) c (stkX r (mxC c xs) (mxC c ys)) (mxC c zs) := fun i hi => (InSp.row (A := mxC c zs) hi).congr fun j hj => (hst i j hi hj).symm
  have xz : SubSp r (r + s) c (mxC c xs) (mxC c zs) := stk_left.trans z2
  have yz : SubSp s (r + s) c (mxC c ys) (mxC c zs) := stk_right.trans z2
  have ac : SubSp r (r + s) c (mxC c us) (mxC c ws) := ta.trans (xz.trans fc)
  have bc : SubSp s (r + s) c (mxC c vs) (mxC c ws) := tb.trans (yz.trans fc)
  rw [Bool.eq_iff_iff, sameTop_iff hx hxn hy hyn ha hb, Bool.and_eq_true, decide_eq_true_eq, decide_eq_true_eq]
  constructor
  · rintro ⟨h1, h2⟩
    have zx : SubSp (r + s) r c (mxC c zs) (mxC c xs) := z1.trans (stk_sub (SubSp.refl _ _ _) h2)
    have zy : SubSp (r + s) s c (mxC c zs) (mxC c ys) := z1.trans (stk_sub h1 (SubSp.refl _ _ _))
    have a1 := ea.count ec ac
    have a2 := ec.count ea (tc.trans (zx.trans fa))
    have b1 := eb.count ec bc
    have b2 := ec.count eb (tc.trans (zy.trans fb))
    exact ⟨by omega, by omega⟩
  · rintro ⟨h1, h2⟩
    have ca : SubSp (r + s) r c (mxC c ws) (mxC c us) := by
      rw [← h1] at ec
      exact ea.whole ec ac
    have cb : SubSp (r + s) s c (mxC c ws) (mxC c vs) := by
      rw [← h2] at ec
      exact eb.whole ec bc
    exact ⟨xz.trans (fc.trans (cb.trans tb)), yz.trans (fc.trans (ca.trans ta))⟩
end Go.Proofs.Ytgemkfcapkfdbaa
end

section
/-
  Chapter 7, in the model: the elimination.
-/
namespace Go.Proofs.Ytgemkfcapkfdbaa
set_option maxRecDepth 100000
open Go.RowKit

def pvI (pv : List Nat) : List Int := pv.map fun (k : Nat) => (k : Int)
/-- The worlds of the walk: the copy, the result's block, the pivots. -/
structure EcSt (w : World) (B b rb r c g N cap : Nat) (ys : List Int) (v : Value) (pv : List Nat) (wr : World) : Prop where
  blk : Blk3 wr b 34 (.int .i64 r) (.int .i64 c) (.slice (some ⟨g, 0, none⟩) N cap)
  ret : Blk3 wr rb 34 (.int .i64 0) (.int .i64 0) (.slice none 0 0)
  ints : Ints wr g ys
  own : OwnQ B wr v (pvI pv)
  bel : Below w.heap.size w wr
  le : B ≤ wr.heap.size
theorem EcSt.one {w : World} {B b rb r c g N cap : Nat} {ys ys' : List Int} {v : Value} {pv : List Nat} {wr w' : World} (h : EcSt w B b rb r c g N cap ys v pv wr) (hi : Ints w' g ys') (hg : wr.grownBy w' (some g)) (hb : b ≠ g) (hr : rb ≠ g) (hB : g < B) (hw : w.heap.size ≤ g) : EcSt w B b rb r c g N cap ys' v pv w' :=
  ⟨h.blk.keepOne hg hb, h.ret.keepOne hg hr, hi, h.own.one hg hB, h.bel.trans (below_of_one hg hw h.bel.size), Nat.le_trans h.le hg.size⟩
theorem EcSt.put {w : World} {B b rb r c g N cap : Nat} {ys : List Int} {v : Value} {pv : List Nat} {wr : World} (h : EcSt w B b rb r c g N cap ys v pv wr) (hb : b ≠ g) (hr : rb ≠ g) (hB : g < B) (hw : w.heap.size ≤ g) (P : Nat) (z : Int) : EcSt w B b rb r c g N cap (ys.set P z) v pv (wr.setCell ⟨g, P, none⟩ (.int .i64 z)) :=
  h.one (h.ints.set P z) (grown_set_one (World.grownBy.refl _ _) rfl _) hb hr hB hw
theorem EcSt.drewN {w : World} {B b rb r c g N cap : Nat} {ys : List Int} {v : Value} {pv : List Nat} {wr : World} (h : EcSt w B b rb r c g N cap ys v pv wr) (n : Nat) : EcSt w B b rb r c g N cap ys v pv (wr.drewN n) :=
  ⟨h.blk.drewN n, h.ret.drewN n, h.ints.drewN n, h.own.drewN n, below_drewN h.bel n, h.le⟩
theorem prL_self {r c i : Nat} {xs : List Int} (hx : xs.length = r * c) (h : i < r → Norm c (mxC c xs i)) : prL r c i xs = xs := by
  rw [prL_row]
  exact rowL_self hx fun hi q hq => prV_id (h hi) hq
theorem EcSt.drew {w : World} {B b rb r c g N cap : Nat} {ys : List Int} {v : Value} {pv : List Nat} {wr : World} (h : EcSt w B b rb r c g N cap ys v pv wr) : EcSt w B b rb r c g N cap ys v pv wr.drew := h.drewN 1
/-- What the elimination gives. -/
def EchP (w : World) (r c : Nat) (o : Option (List Int × List Nat)) (e : Ending) (w' : World) : Prop :=
  (∃ (va vb : Value) (ys : List Int) (pv : List Nat), o = some (ys, pv) ∧ e = .returned (.tuple #[.agg #[.int .i64 r, .int .i64 c, va], vb, .bool true]) ∧ Own w.heap.size w' va ys ∧ Own w.heap.size w' vb (pvI pv) ∧ (∀ k, va.ownBlock = some k → vb.ownBlock ≠ some k) ∧ Below w.heap.size w w')
  ∨ (∃ vb : Value, o = none ∧ e = .returned (.tuple #[.agg #[.int .i64 0, .int .i64 0, .slice none 0 0], vb, .bool false]) ∧ Own w.heap.size w' vb [] ∧ Below w.heap.size w w')
theorem OwnQ.far {B : Nat} {w : World} {v : Value} {zs : List Int} (h : OwnQ B w v zs) {a : Addr} (ha : a.block < B) (u : Value) : OwnQ B (w.setCell a u) v zs :=
  h.move fun k hk => Below.heap_setCell w a u k (by have := h.le hk; omega)
theorem pvI_length (pv : List Nat) : (pvI pv).length = pv.length := List.length_map ..
theorem EcSt.end_ {w : World} {B b rb r c g N cap : Nat} {ys : List Int} {q : Option Addr} {n qc : Nat} {pv : List Nat} {wr : World} (h : EcSt w B b rb r c g N cap ys (.slice q n qc) pv wr) (hl : ys.length = N) (hcap : N ≤ cap) (hN : N ≤ 576) (hpv : pv.length ≤ 24) (hgB : g < B) (hw : w.heap.size ≤ g) (hrw : w.heap.size ≤ rb) (hrg : rb ≠ g) (hrB : rb < B) (x y z : Value) :
    EchP w r c (some (ys, pv)) (.returned (.tuple #[.agg #[.int .i64 r, .int .i64 c, .slice (some ⟨g, 0, none⟩) N cap], .slice q n qc, .bool true])) (((wr.setCell ⟨rb, 0, none⟩ x).setCell ⟨rb, 1, none⟩ y).setCell ⟨rb, 2, none⟩ z) := by
  refine .inl ⟨_, _, ys, pv, rfl, rfl, .inr ⟨g, cap, by rw [hl], hw, ?_, by omega, by omega⟩, ?_, fun k hk e => ?_, ?_⟩
  · exact ((h.ints.far (a := ⟨rb, 0, none⟩) hrg.symm x).far (a := ⟨rb, 1, none⟩) hrg.symm y).far (a := ⟨rb, 2, none⟩) hrg.symm z
  · exact ((((h.own.far (a := ⟨rb, 0, none⟩) hrB x).far (a := ⟨rb, 1, none⟩) hrB y).far (a := ⟨rb, 2, none⟩) hrB z).lower (by omega)).own (by rw [pvI_length]; omega)
  · simp only [Value.ownBlock, Option.some.injEq] at hk
    have := h.own.le e
    omega
  · exact ((h.bel.setCell hrw x).setCell hrw y).setCell hrw z
theorem EcSt.bad {w : World} {B b rb r c g N cap : Nat} {ys : List Int} {v : Value} {pv : List Nat} {wr : World} (h : EcSt w B b rb r c g N cap ys v pv wr) (hw : w.heap.size ≤ B) (hrw : w.heap.size ≤ rb) (hrB : rb < B) (x y z : Value) :
    EchP w r c none (.returned (.tuple #[.agg #[.int .i64 0, .int .i64 0, .slice none 0 0], .slice (some ⟨wr.heap.size, 0, none⟩) 0 0, .bool false])) ((((wr.alloc (.cells #[] 3)).setCell ⟨rb, 0, none⟩ x).setCell ⟨rb, 1, none⟩ y).setCell ⟨rb, 2, none⟩ z) := by
  have hl := h.le
  have o : OwnQ B (wr.alloc (.cells #[] 3)) (.slice (some ⟨wr.heap.size, 0, none⟩) 0 0) [] := OwnQ.none_ h.le ⟨Nat.zero_le _, [], rfl, heap_alloc_new wr _⟩
  refine .inr ⟨_, rfl, rfl, ?_, ?_⟩
  · exact ((((o.far (a := ⟨rb, 0, none⟩) hrB x).far (a := ⟨rb, 1, none⟩) hrB y).far (a := ⟨rb, 2, none⟩) hrB z).lower hw).own (by simp)
  · exact (((h.bel.alloc h.bel.size _).setCell hrw x).setCell hrw y).setCell hrw z
theorem tdiv_bb {x y b : Int} (h1 : -b ≤ x) (h2 : x ≤ b) : -b ≤ x.tdiv y ∧ x.tdiv y ≤ b := by
  have h := Int.natAbs_tdiv_le_natAbs x y
  omega
theorem swC_nums {r c p t : Nat} {xs : List Int} (hx : xs.length = r * c) (hn : nums xs = true) (hp : p < r) (ht : t < r) : nums (swC p t c xs) = true := nums_true fun k hk => by
  rw [swC_length, hx] at hk
  have hc : 0 < c := by
    rcases Nat.eq_zero_or_pos c with e | e
    · subst e; omega
    · exact e
  have e : k = k / c * c + k % c := by rw [Nat.mul_comm]; exact (Nat.div_add_mod k c).symm
  have h1 : k / c < r := Nat.div_lt_of_lt_mul (by rw [Nat.mul_comm]; exact hk)
  have := swC_at (p := p) (t := t) hx h1 (Nat.mod_lt k hc)
  unfold mxC at this
  rw [e, this]
  refine mx_nums hx hn ?_ (Nat.mod_lt k hc)
  split
  · exact ht
  · split <;> omega
theorem EcSt.app {w : World} {B b rb r c g N cap : Nat} {ys : List Int} {v v' : Value} {pv pv' : List Nat} {wr w' : World} (h : EcSt w B b rb r c g N cap ys v pv wr) {o : Obj} (hg : (wr.alloc o).grownBy w' v.ownBlock) (ho : OwnQ B w' v' (pvI pv')) (hb : b < B) (hr : rb < B) (hgB : g < B) (hw : w.heap.size ≤ B) : EcSt w B b rb r c g N cap ys v' pv' w' := by
  have keep : ∀ k, k < B → k < wr.heap.size → w'.heap[k]? = wr.heap[k]? := fun k hk hl => (hg.block k (by simp; omega) (fun e => by have := h.own.le e.symm; omega)).trans (Below.heap_alloc wr o k hl)
  have hs := hg.size
  simp at hs
  have hl := h.le
  exact ⟨(keep b hb h.blk.lt).trans h.blk, (keep rb hr h.ret.lt).trans h.ret, h.ints.move (keep g hgB h.ints.lt), ho, h.bel.trans ⟨hg.os, hg.tape, hg.output, by omega, fun k hk => keep k (by omega) (by omega)⟩, by omega⟩
end Go.Proofs.Ytgemkfcapkfdbaa
end

section
/-
  Chapter 8, in the model: the elimination over residues.
-/
namespace Go.Proofs.Ytgemkfcapkfdbaa
set_option maxRecDepth 100000
open Go.RowKit

theorem ivM_can {p x : Int} (h : prmB p = true) (h0 : 0 ≤ x) (h1 : x < p) (hx : x ≠ 0) : ivM p x = (invF p x, true) := by
  obtain ⟨hp, hp2⟩ := prmB_says h
  have e : x % p = x := Int.emod_eq_of_lt h0 h1
  exact ivM_yes h (by unfold NumP; omega) e hx
theorem CanL.at_ {p : Int} {xs : List Int} (h : CanL p xs) {k : Nat} (hk : k < xs.length) : 0 ≤ xs.getD k 0 ∧ xs.getD k 0 < p := h k hk
/-- What the elimination gives. -/
def ElP (w : World) (r c : Nat) (R : List Int × List Nat × Int) (e : Ending) (w' : World) : Prop :=
  ∃ (va vb : Value), e = .returned (.tuple #[.agg #[.int .i64 r, .int .i64 c, va], vb, .int .i64 R.2.2]) ∧ Own w.heap.size w' va R.1 ∧ Own w.heap.size w' vb (pvI R.2.1) ∧ (∀ k, va.ownBlock = some k → vb.ownBlock ≠ some k) ∧ Below w.heap.size w w'
theorem EcSt.endM {w : World} {B b rb r c g N cap : Nat} {ys : List Int} {q : Option Addr} {n qc : Nat} {pv : List Nat} {wr : World} (h : EcSt w B b rb r c g N cap ys (.slice q n qc) pv wr) (hl : ys.length = N) (hcap : N ≤ cap) (hN : N ≤ 576) (hpv : pv.length ≤ 24) (hgB : g < B) (hw : w.heap.size ≤ g) (hrw : w.heap.size ≤ rb) (hrg : rb ≠ g) (hrB : rb < B) (d : Int) (x y z : Value) :
    ElP w r c (ys, pv, d) (.returned (.tuple #[.agg #[.int .i64 r, .int .i64 c, .slice (some ⟨g, 0, none⟩) N cap], .slice q n qc, .int .i64 d])) (((wr.setCell ⟨rb, 0, none⟩ x).setCell ⟨rb, 1, none⟩ y).setCell ⟨rb, 2, none⟩ z) := by
  refine ⟨_, _, rfl, .inr ⟨g, cap, by rw [hl], hw, ?_, by rw [hl]; exact hcap, by rw [hl]; omega⟩, ?_, fun k hk e => ?_, ?_⟩
  · exact ((h.ints.far (a := ⟨rb, 0, none⟩) hrg.symm x).far (a := ⟨rb, 1, none⟩) hrg.symm y).far (a := ⟨rb, 2, none⟩) hrg.symm z
  · exact ((((h.own.far (a := ⟨rb, 0, none⟩) hrB x).far (a := ⟨rb, 1, none⟩) hrB y).far (a := ⟨rb, 2, none⟩) hrB z).lower (by omega)).own (by rw [pvI_length]; omega)
  · simp only [Value.ownBlock, Option.some.injEq] at hk
    have := h.own.le e
    omega
  · exact ((h.bel.setCell hrw x).setCell hrw y).setCell hrw z
theorem mul_bd {a b p : Int} (ha : 0 ≤ a) (ha2 : a < p) (hb : 0 ≤ b) (hb2 : b < p) (hp : p ≤ 10000) : 0 ≤ a * b ∧ a * b ≤ 100000000 := by
  refine ⟨Int.mul_nonneg ha hb, ?_⟩
  have : a * b ≤ 10000 * 10000 := Int.mul_le_mul (by omega) (by omega) hb (by omega)
  omega
set_option maxHeartbeats 4000000 in
theorem sEl (r c n N : Nat) (p : Int) (a : Option Addr) (m : Nat) (xs : List Int) (w : World) (h : Rd w a xs) (ha : Spot a) (hx : xs.length = N) (hN : N = r * c) (hr : r ≤ 24) (hc : c ≤ 24) (hnc : n ≤ c) (hp : prmB p = true) (hcan : CanL p xs) :
    Calls Try.prog 90 #[.agg #[.int .i64 r, .int .i64 c, .slice a N m], .int .i64 p, .int .i64 n] w (ElP w r c (elP p r c n 0 xs [] 1)) := by
  have hle : r * c ≤ 24 * 24 := Nat.mul_le_mul hr hc
  rw [← hN] at hle
  obtain ⟨pp, hp2⟩ := prmB_says hp
  have hp1 := pp.1
  have np : ¬ p = 0 := by omega
  have PP := Lib.hid pp
  have PB := Lib.hid hp
  have CP : Hid (∀ w', Below w.heap.size w w' → Calls Try.prog 104 #[.agg #[.int .i64 r, .int .i64 c, .slice a N m]] w' (fun e w2 => ∃ g cap : Nat, e = .returned (.agg #[.int .i64 r, .int .i64 c, .slice (some ⟨g, 0, none⟩) N cap]) ∧ w'.heap.size ≤ g ∧ IntsC w2 g cap xs ∧ Below w'.heap.size w' w2)) := fun w' hb => sCopyA r c a m N xs w' (h.below hb) ha hx (by omega)
  have IX : Hid (∀ i j, i < r → j < c → ∃ P : Nat, i * c + j = P ∧ P < N ∧ IntKind.i64.wrap ((i : Int) * (c : Int)) = (i : Int) * (c : Int) ∧ IntKind.i64.wrap ((i : Int) * (c : Int) + (j : Int)) = (P : Int)) := fun i j hi hj => by
    have h1 : i * c + j < r * c := idx_lt hi hj
    have c1 : (i : Int) * (c : Int) = ((i * c : Nat) : Int) := (Int.natCast_mul _ _).symm
    refine ⟨i * c + j, rfl, by omega, IntWalk.i64_in _ (by rw [c1]; omega), ?_⟩
    rw [show (i : Int) * (c : Int) + (j : Int) = ((i * c + j : Nat) : Int) by rw [c1]; omega]
    exact IntWalk.i64_in _ (by omega)
  have HR : Hid (elP p r c n 0 xs [] 1 = elP p r c n 0 xs [] 1) := rfl
  obtain ⟨RES, hRES⟩ : ∃ RES, elP p r c n 0 xs [] 1 = RES := ⟨_, rfl⟩
  rw [hRES] at HR ⊢
  clear HR
  have HR : Hid (elP p r c n 0 xs [] 1 = RES) := hRES
  have HN := Lib.hid hN
  have HX := Lib.hid hx
  have CX := Lib.hid hcan
  clear hN hx hcan h ha pp hRES hp
  go_enter Try.func90, Try.ntmps90
  go_upto_region 1 with fail
  have K0 : Hid (Blk3 ((w.alloc (.cells #[.int .i64 r, .int .i64 c, .slice a N m] 34)).alloc (.cells #[.int .i64 0, .int .i64 0, .slice none 0 0] 34)) w.heap.size 34 (.int .i64 r) (.int .i64 c) (.slice a N m)) := (Blk3.at_ _ _ _ _ rfl).old _
  have R0 : Hid (Blk3 ((w.alloc (.cells #[.int .i64 r, .int .i64 c, .slice a N m] 34)).alloc (.cells #[.int .i64 0, .int .i64 0, .slice none 0 0] 34)) (w.heap.size + 1) 34 (.int .i64 0) (.int .i64 0) (.slice none 0 0)) := Blk3.at_ _ _ _ _ (by simp)
  have B0 : Hid (Below w.heap.size w ((w.alloc (.cells #[.int .i64 r, .int .i64 c, .slice a N m] 34)).alloc (.cells #[.int .i64 0, .int .i64 0, .slice none 0 0] 34))) := ((Below.refl _ _).alloc (Nat.le_refl _) _).alloc (by simp) _
  have S0 : Hid (((w.alloc (.cells #[.int .i64 r, .int .i64 c, .slice a N m] 34)).alloc (.cells #[.int .i64 0, .int .i64 0, .slice none 0 0] 34)).heap.size = w.heap.size + 2) := by show _ = _; simp
  generalize (w.alloc (.cells #[.int .i64 r, .int .i64 c, .slice a N m] 34)).alloc (.cells #[.int .i64 0, .int .i64 0, .slice none 0 0] 34) = W0 at K0 R0 B0 S0 ⊢
  obtain ⟨p0, p1, p2, -, -, -⟩ := K0.out.all
  go_wp2_with fail
  refine (CP.out _ B0.out).mono ?_
  rintro e w1 ⟨g, cap, rfl, hg, hi, hb⟩
  have gl := hi.lt
  have hcap := hi.le
  have s0 := S0.out
  have I0 := Lib.hid (hi.ints.old (.cells #[.int .i64 r, .int .i64 c, .slice (some ⟨g, 0, none⟩) N cap] 34))
  have R1 := Lib.hid ((R0.out.step hb).old (.cells #[.int .i64 r, .int .i64 c, .slice (some ⟨g, 0, none⟩) N cap] 34))
  have K1 : Hid (Blk3 (w1.alloc (.cells #[.int .i64 r, .int .i64 c, .slice (some ⟨g, 0, none⟩) N cap] 34)) w1.heap.size 34 (.int .i64 r) (.int .i64 c) (.slice (some ⟨g, 0, none⟩) N cap)) := Blk3.at_ _ _ _ _ rfl
  have Bx := B0.out.trans (hb.mono (by omega))
  have B1 := Lib.hid (Bx.alloc Bx.size (.cells #[.int .i64 r, .int .i64 c, .slice (some ⟨g, 0, none⟩) N cap] 34))
  have S1 : Hid ((w1.alloc (.cells #[.int .i64 r, .int .i64 c, .slice (some ⟨g, 0, none⟩) N cap] 34)).heap.size = w1.heap.size + 1) := by show _ = _; simp
  rw [HX.out] at hcap
  have sb := hb.size
  clear hb hi Bx K0 R0 B0 S0 p0 p1 p2
  go_upto_region 2 with fail
  generalize w1.alloc (.cells #[.int .i64 r, .int .i64 c, .slice (some ⟨g, 0, none⟩) N cap] 34) = W at I0 R1 K1 B1 S1 ⊢
  obtain ⟨b, hbb⟩ : ∃ b, w1.heap.size = b := ⟨_, rfl⟩
  rw [hbb] at K1 S1 gl sb ⊢
  have lgb : g < b := gl
  have lrb : w.heap.size + 1 < g := by omega
  have lwg : w.heap.size < g := by omega
  have s1 := S1.out
  clear hbb S1 s0 gl sb hg
  obtain ⟨rb, hrb⟩ : ∃ rb, w.heap.size + 1 = rb := ⟨_, rfl⟩
  rw [hrb] at R1 lrb ⊢
  clear w1
  have lwr : w.heap.size < rb := by omega
  clear hrb
  go_upto_region 3 with fail
  have ST : Hid (EcSt w (b + 1) b rb r c g N cap xs (.slice (some ⟨b + 1, 0, none⟩) 0 0) [] (W.alloc (.cells #[] 3))) := ⟨K1.out.old _, R1.out.old _, I0.out.old _, OwnQ.none_ (Nat.le_refl _) ⟨Nat.zero_le _, [], rfl, by rw [← s1]; exact heap_alloc_new W _⟩, B1.out.alloc B1.out.size _, by simp; omega⟩
  generalize W.alloc (.cells #[] 3) = W2 at ST ⊢
  clear K1 R1 I0 B1 s1
  go_wp2_with fail
  go_loopw [10, 11, 12, 13, 14, 15, 16, 17, 18, 19, 20] (fun v10 v11 v12 _ _ _ _ _ _ _ _ wr => ∃ (j k : Nat) (ys : List Int) (q : Option Addr) (qc : Nat) (pv : List Nat) (d : Int), v10 = .slice q pv.length qc ∧ v11 = .int .i64 d ∧ v12 = .int .i64 j ∧ j + k = n ∧ ys.length = N ∧ CanL p ys ∧ pv.length ≤ r ∧ 0 ≤ d ∧ d < p ∧ elP p r c k j ys pv d = RES ∧ EcSt w (b + 1) b rb r c g N cap ys (.slice q pv.length qc) pv wr) (fun _ _ v12 _ _ _ _ _ _ _ _ _ => n - (intOf v12).toNat)
  case atStart => exact ⟨0, n, xs, _, _, [], 1, rfl, rfl, rfl, by omega, HX.out, CX.out, by simp, by decide, by omega, HR.out, ST.out⟩
  case round =>
    clear ST HR CX
    obtain ⟨j, k, ys, q, qc, pv, d, rfl, rfl, rfl, hjk, hl, hn, hpv, hd0, hd1, hR, hst⟩ := hrel
    have ST := Lib.hid hst
    have HL := Lib.hid hl
    have HY := Lib.hid hn
    have HR := Lib.hid hR
    clear hst hl hn hR
    obtain ⟨t, ht⟩ : ∃ t, pv.length = t := ⟨_, rfl⟩
    have PT := Lib.hid ht
    rw [ht] at ST hpv ⊢
    clear ht
    obtain ⟨p0, p1, p2, -, -, -⟩ := ST.out.blk.all
    by_cases hjn : j < n
    · have hjc : j < c := by omega
      by_cases htr : t < r
      · obtain ⟨k, rfl⟩ : ∃ k', k = k' + 1 := ⟨k - 1, by omega⟩
        go_wp2_with fail
        go_loopw [14] (fun v14 wq => ∃ s : Nat, v14 = .int .i64 s ∧ t ≤ s ∧ s ≤ r ∧ (∀ i, t ≤ i → i < s → mxC c ys i j = 0) ∧ wq = wr) (fun v14 _ => r - (intOf v14).toNat)
        case atStart => exact ⟨t, rfl, Nat.le_refl _, by omega, fun i h1 h2 => by omega, rfl⟩
        case round =>
          obtain ⟨s, rfl, hs1, hs2, hs0, rfl⟩ := hrel
          have P0 := Lib.hid hs0
          clear hs0
          by_cases hsr : s < r
          · obtain ⟨P, hP, hPN, u1, u2⟩ := IX.out s j hsr hjc
            have Pa : (0 : Int) ≤ (P : Int) := by omega
            have Pb : (P : Int) < (N : Int) := by omega
            have hcell := ST.out.ints.cell (i := P) (by rw [HL.out]; exact hPN)
            rw [← hP, show ys.getD (s * c + j) 0 = mxC c ys s j from rfl, hP] at hcell
            obtain ⟨x, hxx⟩ : ∃ x, mxC c ys s j = x := ⟨_, rfl⟩
            have X := Lib.hid hxx
            rw [hxx] at hcell
            clear hxx hP
            by_cases h0 : x = 0
            · have n1 : (x == 0) = true := by simp [h0]
              have P1 : Hid (∀ i, t ≤ i → i < s + 1 → mxC c ys i j = 0) := fun i h1 h2 => by
                rcases Nat.lt_or_ge i s with h3 | h3
                · exact P0.out i h1 h3
                · obtain rfl : i = s := by omega
                  rw [X.out, h0]
              clear h0
              go_wp2_with fail
              go_roundw
              case rel => exact ⟨s + 1, by go_num, by omega, by omega, P1.out, trivial⟩
              case measure => simp [intOf]; omega
            · have n1 : (x == 0) = false := by simpa using h0
              have FS : Hid (fstR c j ys (r - pv.length) pv.length = s) := fstR_eq (by rw [PT.out]; omega) (by rw [PT.out]; omega) (fun i h1 h2 => P0.out i (by rw [← PT.out]; exact h1) h2) (fun _ => by rw [X.out]; exact h0)
              have ZL : Hid ((swC s t c ys).length = N) := by show _ = _; rw [swC_length, HL.out]
              have ZC : Hid (CanL p (swC s t c ys)) := HY.out.sw (by rw [HL.out, HN.out]) hsr htr
              have ZX : Hid (mxC c (swC s t c ys) t j = x) := by
                show _ = _
                rw [swC_at (by rw [HL.out, HN.out]) htr hjc, ← X.out]
                by_cases e : t = s
                · rw [if_pos e, e]
                · rw [if_neg e, if_pos rfl]
              have hx0 : 0 ≤ x ∧ x < p := by rw [← X.out]; exact HY.out.mx (by rw [HL.out, HN.out]) hsr hjc
              have EO : Hid (elP p r c k (j + 1) (clP p r c t j r 0 (rowL r c t (scV p (invF p x) (mxC c (swC s t c ys) t)) (swC s t c ys))) (pv ++ [j]) (((if s = t then d else (-d) % p) * x) % p) = RES) := by
                have h1 := HR.out
                rw [elP_on (s := s) (by rw [PT.out]; exact htr) FS.out (by omega), PT.out, ZX.out] at h1
                exact h1
              have SW : Hid (s ≠ t → opL 0 s t 0 c ys = swC s t c ys) := fun h => by unfold swC; rw [if_neg h]
              have SN : Hid (s = t → ys = swC s t c ys) := fun h => by unfold swC; rw [if_pos h]
              obtain ⟨IV1, IV2, IV3⟩ := PP.out.hasInv.inv PP.out (can_nd hx0 h0)
              have IM := Lib.hid (ivM_can PB.out hx0.1 hx0.2 h0)
              have IVp := Lib.hid IV1
              clear IV1
              generalize swC s t c ys = zs at ZL ZC ZX EO SW SN
              have n3 : ((s : Int) == (r : Int)) = false := by simp; omega
              have hcx := hx0.1
              have hcx2 := hx0.2
              clear hx0
              obtain ⟨d2, hd2⟩ : ∃ d2, (if s = t then d else (-d) % p) = d2 := ⟨_, rfl⟩
              have D2 := Lib.hid hd2
              rw [hd2] at EO
              have d20 : 0 ≤ d2 ∧ d2 < p := by
                rw [← hd2]
                split
                · exact ⟨hd0, hd1⟩
                · exact ⟨Int.emod_nonneg _ (by omega), Int.emod_lt_of_pos _ (by omega)⟩
              obtain ⟨d21, d22⟩ := d20
              clear hd2
              go_upto_if 64 with fail
              go_cut [11] (fun v11 wx => v11 = .int .i64 d2 ∧ EcSt w (b + 1) b rb r c g N cap zs (.slice q t qc) pv wx)
              case first =>
                by_cases hst : s = t
                · have n2 : ((s : Int) != (t : Int)) = false := by simp [hst]
                  have hs := ST.out
                  rw [SN.out hst] at hs
                  have S2 := Lib.hid hs
                  have DD : Hid (d = d2) := by show _ = _; rw [← D2.out, if_pos hst]
                  clear hs hst
                  go_wp2_with fail
                  go_meet
                  exact ⟨by rw [DD.out], S2.out⟩
                · have n2 : ((s : Int) != (t : Int)) = true := by simp; omega
                  have DD : Hid ((-d) % p = d2) := by show _ = _; rw [← D2.out, if_neg hst]
                  have w9 : IntKind.i64.wrap (-d) = -d := IntWalk.i64_in _ (by omega)
                  go_wp2_with fail
                  refine (sDo r c s t g N cap 0 0 ys _ ST.out.ints HL.out HN.out hr hc hsr htr (.inl rfl) (fun _ => hst)).mono ?_
                  rintro e w4 ⟨rfl, hi4, hg4⟩
                  have hs := ST.out.one hi4 hg4 (by omega) (by omega) (by omega) (by omega)
                  rw [SW.out hst] at hs
                  have S2 := Lib.hid hs
                  clear hs hi4 hg4
                  go_wp2_with fail
                  refine (sMod (-d) p _ (by omega) (by omega)).mono ?_
                  rintro e w5 ⟨rfl, rfl⟩
                  go_wp2_with fail
                  go_meet
                  exact ⟨by rw [DD.out], S2.out⟩
              case rest =>
                clear ST SW SN HR FS P0 X HY HL
                obtain ⟨rfl, hst⟩ := hcut
                have ST := Lib.hid hst
                clear hst hcell p0 p1 p2
                obtain ⟨p0, p1, p2, -, -, -⟩ := ST.out.blk.all
                obtain ⟨P', hP', hPN', u1', u2'⟩ := IX.out t j htr hjc
                have Pa' : (0 : Int) ≤ (P' : Int) := by omega
                have Pb' : (P' : Int) < (N : Int) := by omega
                have hcell := ST.out.ints.cell (i := P') (by rw [ZL.out]; exact hPN')
                rw [← hP', show zs.getD (t * c + j) 0 = mxC c zs t j from rfl, ZX.out, hP'] at hcell
                obtain ⟨m1, m2⟩ := mul_bd d21 d22 hcx hcx2 hp2
                obtain ⟨y, hy⟩ : ∃ y, d2 * x = y := ⟨_, rfl⟩
                have w1 : IntKind.i64.wrap (d2 * x) = y := by rw [← hy]; exact IntWalk.i64_in _ (by omega)
                rw [hy] at m1 m2 EO
                clear hP' hy
                go_upto_region 16 with fail
                go_wp2_with fail
                refine (sInvM x p _).mono ?_
                rintro e w4 ⟨rfl, nq, rfl⟩
                rw [IM.out]
                have ST := Lib.hid (ST.out.drewN nq)
                generalize wc.drewN nq = wz at ST ⊢
                have HV : Hid (invF p x = invF p x) := rfl
                obtain ⟨v, hv⟩ : ∃ v, invF p x = v := ⟨_, rfl⟩
                rw [hv] at EO IV2 IV3 ⊢
                clear IM IVp HV hv hcell p0 p1 p2
                obtain ⟨p0, p1, p2, -, -, -⟩ := ST.out.blk.all
                have ZT : Hid (∀ q, q < c → 0 ≤ mxC c zs t q ∧ mxC c zs t q < p) := fun q hq => ZC.out.mx (by rw [ZL.out, HN.out]) htr hq
                have UL : Hid ((rowL r c t (scV p v (mxC c zs t)) zs).length = N) := by show _ = _; rw [rowL_length, HN.out]
                have UC : Hid (CanL p (rowL r c t (scV p v (mxC c zs t)) zs)) := ZC.out.row (by rw [ZL.out, HN.out]) fun q _ => ⟨Int.emod_nonneg _ (by omega), Int.emod_lt_of_pos _ (by omega)⟩
                have RT : Hid (∀ k, k < c → (rowTo r c t (scV p v (mxC c zs t)) zs k).set (t * c + k) ((mxC c zs t k * v) % p) = rowTo r c t (scV p v (mxC c zs t)) zs (k + 1)) := fun k hk => rowTo_step htr hk
                have RX : Hid (∀ k, k < c → (rowTo r c t (scV p v (mxC c zs t)) zs k).getD (t * c + k) 0 = mxC c zs t k) := fun k hk => rowTo_old htr hk (.inr (Nat.le_refl _))
                have RL : Hid (∀ k, (rowTo r c t (scV p v (mxC c zs t)) zs k).length = N) := fun k => by rw [rowTo_length, HN.out]
                have RA : Hid (rowTo r c t (scV p v (mxC c zs t)) zs c = rowL r c t (scV p v (mxC c zs t)) zs) := rowTo_all
                rw [← rowTo_zero (r := r) (c := c) (i := t) (v := scV p v (mxC c zs t)) (xs := zs) (by rw [ZL.out, HN.out])] at ST
                go_wp2_with fail
                clear p0 p1 p2
                go_loopw [17] (fun v17 wv => ∃ h : Nat, v17 = .int .i64 h ∧ h ≤ c ∧ EcSt w (b + 1) b rb r c g N cap (rowTo r c t (scV p v (mxC c zs t)) zs h) (.slice q t qc) pv wv) (fun v17 _ => c - (intOf v17).toNat)
                case atStart => exact ⟨0, rfl, by omega, by first | exact ST.out | (have h := ST.out; rw [rowTo_zero (by rw [rowTo_length])] at h; exact h)⟩
                case round =>
                  clear ST
                  obtain ⟨h, rfl, hh, hst⟩ := hrel
                  have ST := Lib.hid hst
                  clear hst
                  obtain ⟨p0, p1, p2, -, -, -⟩ := ST.out.blk.all
                  by_cases hhc : h < c
                  · obtain ⟨P, hP, hPN, u1, u2⟩ := IX.out t h htr hhc
                    have Pa : (0 : Int) ≤ (P : Int) := by omega
                    have Pb : (P : Int) < (N : Int) := by omega
                    have hcell := ST.out.ints.cell (i := P) (by rw [RL.out]; exact hPN)
                    have hfr := ST.out.ints.free P
                    rw [← hP, RX.out h hhc, hP] at hcell
                    obtain ⟨z1, z2⟩ := ZT.out h hhc
                    have RS := Lib.hid (RT.out h hhc)
                    rw [hP] at RS
                    generalize mxC c zs t h = ea at hcell z1 z2 RS
                    obtain ⟨m3, m4⟩ := mul_bd z1 z2 IV2 IV3 hp2
                    obtain ⟨y2, hy2⟩ : ∃ y2, ea * v = y2 := ⟨_, rfl⟩
                    have w2 : IntKind.i64.wrap (ea * v) = y2 := by rw [← hy2]; exact IntWalk.i64_in _ (by omega)
                    rw [hy2] at m3 m4 RS
                    have e2 : Int.tmod y2 p = y2 % p := Int.tmod_eq_emod_of_nonneg m3
                    clear hy2 hP
                    go_wp2_with fail
                    go_still_tail 23, (by kernel_rfl)
                    go_wp2_with fail
                    go_roundw
                    case rel => exact ⟨h + 1, by go_num, by omega, by rw [← RS.out]; exact (ST.out.drew).put (by omega) (by omega) (by omega) (by omega) P (y2 % p)⟩
                    case measure => simp [intOf]; omega
                  · obtain rfl : c = h := by omega
                    clear hhc
                    rw [RA.out] at ST
                    generalize rowL r c t (scV p v (mxC c zs t)) zs = vs at ST EO UL UC
                    clear RT RX RL RA ZT ZL ZC ZX
                    obtain ⟨E, hE⟩ : ∃ E, clP p r c t j r 0 vs = E := ⟨_, rfl⟩
                    rw [hE] at EO
                    have EE := Lib.hid hE
                    clear hE
                    go_wp2_with fail
                    clear p0 p1 p2
                    go_loopw [18, 19, 20] (fun v18 _ _ wu => ∃ (i l : Nat) (us : List Int), v18 = .int .i64 i ∧ i + l = r ∧ us.length = N ∧ CanL p us ∧ clP p r c t j l i us = E ∧ EcSt w (b + 1) b rb r c g N cap us (.slice q t qc) pv wu) (fun v18 _ _ _ => r - (intOf v18).toNat)
                    case atStart => exact ⟨0, r, vs, rfl, by omega, UL.out, UC.out, EE.out, ST.out⟩
                    case round =>
                      clear ST UL UC EE
                      obtain ⟨i, l, us, rfl, hil, hul, hun, hue, hst⟩ := hrel
                      have ST := Lib.hid hst
                      have UL := Lib.hid hul
                      have UN := Lib.hid hun
                      have UE := Lib.hid hue
                      clear hst hul hun hue
                      obtain ⟨p0, p1, p2, -, -, -⟩ := ST.out.blk.all
                      by_cases hir : i < r
                      · obtain ⟨l, rfl⟩ : ∃ l', l = l' + 1 := ⟨l - 1, by omega⟩
                        obtain ⟨P, hP, hPN, u1, u2⟩ := IX.out i j hir hjc
                        have Pa : (0 : Int) ≤ (P : Int) := by omega
                        have Pb : (P : Int) < (N : Int) := by omega
                        have hcell := ST.out.ints.cell (i := P) (by rw [UL.out]; exact hPN)
                        rw [← hP, show us.getD (i * c + j) 0 = mxC c us i j from rfl, hP] at hcell
                        obtain ⟨x0, x1⟩ := UN.out.mx (by rw [UL.out, HN.out]) hir hjc
                        obtain ⟨z, hxx⟩ : ∃ x, mxC c us i j = x := ⟨_, rfl⟩
                        have X := Lib.hid hxx
                        rw [hxx] at hcell x0 x1
                        clear hxx hP
                        by_cases hs : i = t ∨ z = 0
                        · have UE2 : Hid (clP p r c t j l (i + 1) us = E) := by
                            have h1 := UE.out
                            rw [clP_skip (by rw [X.out]; exact hs)] at h1
                            exact h1
                          by_cases hit : i = t
                          · have n2 : ((i : Int) != (t : Int)) = false := by simp [hit]
                            clear hs hit
                            go_wp2_with fail
                            go_loopw [20] (fun v20 wv => v20 = .int .i64 0 ∧ wv = wr) (fun _ _ => 0)
                            case atStart => exact ⟨rfl, rfl⟩
                            case round =>
                              obtain ⟨rfl, rfl⟩ := hrel
                              go_wp2_with fail
                              all_goals
                                go_roundw
                                case rel => exact ⟨i + 1, l, us, by go_num, by omega, UL.out, UN.out, UE2.out, ST.out⟩
                                case measure => simp [intOf]; omega
                          · have n2 : ((i : Int) != (t : Int)) = true := by simp; omega
                            have n3 : (z != 0) = false := by simp [hs.resolve_left hit]
                            clear hs hit
                            go_wp2_with fail
                            go_loopw [20] (fun v20 wv => v20 = .int .i64 0 ∧ wv = wr) (fun _ _ => 0)
                            case atStart => exact ⟨rfl, rfl⟩
                            case round =>
                              obtain ⟨rfl, rfl⟩ := hrel
                              go_wp2_with fail
                              all_goals
                                go_roundw
                                case rel => exact ⟨i + 1, l, us, by go_num, by omega, UL.out, UN.out, UE2.out, ST.out⟩
                                case measure => simp [intOf]; omega
                        · have hit : i ≠ t := fun e => hs (.inl e)
                          have hx0 : z ≠ 0 := fun e => hs (.inr e)
                          have n2 : ((i : Int) != (t : Int)) = true := by simp; omega
                          have n3 : (z != 0) = true := by simpa using hx0
                          have UO : Hid (clP p r c t j l (i + 1) (rowL r c i (lsV p z (mxC c us i) (mxC c us t)) us) = E) := by
                            have h1 := UE.out
                            rw [clP_on (by rw [X.out]; exact hs), X.out] at h1
                            exact h1
                          have RT : Hid (∀ k, k < c → (rowTo r c i (lsV p z (mxC c us i) (mxC c us t)) us k).set (i * c + k) ((mxC c us i k - z * mxC c us t k) % p) = rowTo r c i (lsV p z (mxC c us i) (mxC c us t)) us (k + 1)) := fun k hk => rowTo_step hir hk
                          have RX : Hid (∀ k, k < c → (rowTo r c i (lsV p z (mxC c us i) (mxC c us t)) us k).getD (i * c + k) 0 = mxC c us i k) := fun k hk => rowTo_old hir hk (.inr (Nat.le_refl _))
                          have RY : Hid (∀ k, k < c → (rowTo r c i (lsV p z (mxC c us i) (mxC c us t)) us k).getD (t * c + k) 0 = mxC c us t k) := fun k hk => rowTo_old htr hk (.inl (fun e => hit e.symm))
                          have RL : Hid (∀ k, (rowTo r c i (lsV p z (mxC c us i) (mxC c us t)) us k).length = N) := fun k => by rw [rowTo_length, HN.out]
                          have RA : Hid (rowTo r c i (lsV p z (mxC c us i) (mxC c us t)) us c = rowL r c i (lsV p z (mxC c us i) (mxC c us t)) us) := rowTo_all
                          have VC : Hid (CanL p (rowL r c i (lsV p z (mxC c us i) (mxC c us t)) us)) := UN.out.row (by rw [UL.out, HN.out]) fun q _ => ⟨Int.emod_nonneg _ (by omega), Int.emod_lt_of_pos _ (by omega)⟩
                          have VL : Hid ((rowL r c i (lsV p z (mxC c us i) (mxC c us t)) us).length = N) := by show _ = _; rw [rowL_length, HN.out]
                          have NI : Hid (∀ k, k < c → 0 ≤ mxC c us i k ∧ mxC c us i k < p) := fun k hk => UN.out.mx (by rw [UL.out, HN.out]) hir hk
                          have NT : Hid (∀ k, k < c → 0 ≤ mxC c us t k ∧ mxC c us t k < p) := fun k hk => UN.out.mx (by rw [UL.out, HN.out]) htr hk
                          rw [← rowTo_zero (r := r) (c := c) (i := i) (v := lsV p z (mxC c us i) (mxC c us t)) (xs := us) (by rw [UL.out, HN.out])] at ST
                          clear hs
                          go_wp2_with fail
                          clear p0 p1 p2 hcell
                          go_loopw [20] (fun v20 wv => ∃ h : Nat, v20 = .int .i64 h ∧ h ≤ c ∧ EcSt w (b + 1) b rb r c g N cap (rowTo r c i (lsV p z (mxC c us i) (mxC c us t)) us h) (.slice q t qc) pv wv) (fun v20 _ => c - (intOf v20).toNat)
                          case atStart => exact ⟨0, rfl, by omega, by first | exact ST.out | (have h := ST.out; rw [rowTo_zero (by rw [rowTo_length])] at h; exact h)⟩
                          case round =>
                            clear ST
                            obtain ⟨h, rfl, hh, hst⟩ := hrel
                            have ST := Lib.hid hst
                            clear hst
                            obtain ⟨p0, p1, p2, -, -, -⟩ := ST.out.blk.all
                            by_cases hhc : h < c
                            · obtain ⟨P, hP, hPN, u1, u2⟩ := IX.out i h hir hhc
                              have Pa : (0 : Int) ≤ (P : Int) := by omega
                              have Pb : (P : Int) < (N : Int) := by omega
                              have hcell := ST.out.ints.cell (i := P) (by rw [RL.out]; exact hPN)
                              have hfr := ST.out.ints.free P
                              rw [← hP, RX.out h hhc, hP] at hcell
                              obtain ⟨Q, hQ, hQN, y1, y2⟩ := IX.out t h htr hhc
                              have Qa : (0 : Int) ≤ (Q : Int) := by omega
                              have Qb : (Q : Int) < (N : Int) := by omega
                              have hcell2 := ST.out.ints.cell (i := Q) (by rw [RL.out]; exact hQN)
                              rw [← hQ, RY.out h hhc, hQ] at hcell2
                              have na := NI.out h hhc
                              have nb := NT.out h hhc
                              have RS := Lib.hid (RT.out h hhc)
                              rw [hP] at RS
                              generalize mxC c us i h = ea at hcell na RS
                              generalize mxC c us t h = eb at hcell2 nb RS
                              obtain ⟨m3, m4⟩ := mul_bd x0 x1 nb.1 nb.2 hp2
                              obtain ⟨o, ho⟩ : ∃ o, z * eb = o := ⟨_, rfl⟩
                              have v2 : IntKind.i64.wrap (z * eb) = o := by rw [← ho]; exact IntWalk.i64_in _ (by omega)
                              rw [ho] at RS m3 m4
                              obtain ⟨f, hf⟩ : ∃ f, ea - o = f := ⟨_, rfl⟩
                              have v3 : IntKind.i64.wrap (ea - o) = f := by rw [← hf]; exact IntWalk.i64_in _ (by omega)
                              rw [hf] at RS
                              have f0 : -200000000 ≤ f ∧ f ≤ 200000000 := by omega
                              obtain ⟨f1, f2⟩ := f0
                              clear na nb hP hQ ho hf
                              go_wp2_with fail
                              refine wp_region_still_tail 34 (by kernel_rfl) (by kernel_rfl) ?_
                              simp only [List.take_succ_cons, List.take_zero, List.drop_succ_cons, List.drop_zero]
                              repeat still_step
                              still_call ((sMod f p _ (by omega) (by omega)).mono fun _ _ h => ⟨h.1, h.2.symm⟩)
                              repeat still_step
                              try refine wpStill_nil ?_
                              go_wp2_with fail
                              go_roundw
                              case rel => exact ⟨h + 1, by go_num, by omega, by rw [← RS.out]; exact (ST.out.drew).put (by omega) (by omega) (by omega) (by omega) P (f % p)⟩
                              case measure => simp [intOf]; omega
                            · obtain rfl : c = h := by omega
                              clear hhc
                              rw [RA.out] at ST
                              go_wp2_with fail
                              go_roundw
                              case rel => exact ⟨i + 1, l, _, by go_num, by omega, VL.out, VC.out, UO.out, ST.out⟩
                              case measure => simp [intOf]; omega
                      · obtain rfl : l = 0 := by omega
                        have UF : Hid (us = E) := UE.out
                        have UR : Hid (elP p r c k (j + 1) us (pv ++ [j]) (y % p) = RES) := by
                          have h1 := EO.out
                          rw [← UF.out] at h1
                          exact h1
                        have y0 : 0 ≤ y % p ∧ y % p < p := ⟨Int.emod_nonneg _ (by omega), Int.emod_lt_of_pos _ (by omega)⟩
                        obtain ⟨fi, hfi, hz0, hz1, hz2⟩ := facts_int
                        have HO : Hid ((wr.alloc (.cells #[.int .i64 j] 3)).ownsRow (b + 1) 3 1 (.slice q t qc) t ((pvI pv).map (Value.int .i64))) := by
                          have h1 := ST.out.own.keep ((Below.refl _ _).alloc (Nat.le_refl _) (.cells #[.int .i64 j] 3))
                          unfold OwnQ at h1
                          rw [pvI_length, PT.out] at h1
                          exact h1
                        have le := ST.out.le
                        go_wp2_with (at_builtin; refine wpList_append_own_at _ rfl _ _ 24 rfl (b + 1) 3 fi (.int .i64 0) 1 8 underlying_ints hfi hz0 hz1 hz2 rfl (by decide) _ _ _ rfl HO.out ⟨wr.heap.size, 0, none⟩ 1 1 [.int .i64 j] ?hx ?hl ?hnews ?h1 ?h63 ?hbytes ?hbase ?hnext)
                        case hx => rfl
                        case hl => rfl
                        case hnews => exact cell_one_new _ _ _
                        case h1 => intro v hv; simp at hv; subst hv; rfl
                        case h63 => unfold maxLen; omega
                        case hbytes => omega
                        case hbase => simp; omega
                        case hnext =>
                          rintro v' w7 ho hg7 - -
                          have O7 : OwnQ (b + 1) w7 v' (pvI (pv ++ [j])) := by
                            unfold OwnQ pvI
                            rw [List.map_append, List.length_append, List.map_append, List.length_map, PT.out]
                            exact ho
                          have hs := ST.out.app hg7 O7 (by omega) (by omega) (by omega) (by omega)
                          obtain ⟨q', qc', rfl⟩ := O7.form
                          rw [pvI_length] at hs ⊢
                          have S7 := Lib.hid hs
                          clear hs O7 ho hg7
                          go_wp2_with fail
                          go_roundw
                          case rel => exact ⟨j + 1, k, us, q', qc', pv ++ [j], y % p, rfl, rfl, by go_num, by omega, UL.out, UN.out, by rw [List.length_append, PT.out]; simp; omega, y0.1, y0.2, UR.out, S7.out⟩
                          case measure => simp [intOf]; omega
          · have hpe : s = r := by omega
            have FS : Hid (fstR c j ys (r - pv.length) pv.length = r) := fstR_eq (by rw [PT.out]; omega) (by rw [PT.out]; omega) (fun i h1 h2 => P0.out i (by rw [← PT.out]; exact h1) (by omega)) (fun h => by rw [PT.out] at h; omega)
            have RN : Hid (elP p r c k (j + 1) ys pv d = RES) := by
              have h1 := HR.out
              rw [elP_skip (by rw [PT.out]; exact htr) FS.out] at h1
              exact h1
            have n1 : decide ((s : Int) < (r : Int)) = false := by simpa using hsr
            have n2 : ((s : Int) == (r : Int)) = true := by simp [hpe]
            clear hpe
            go_wp2_with fail
            go_roundw
            case rel => exact ⟨j + 1, k, ys, q, qc, pv, d, by rw [PT.out], rfl, by go_num, by omega, HL.out, HY.out, by rw [PT.out]; exact hpv, hd0, hd1, RN.out, by rw [PT.out]; exact ST.out⟩
            case measure => simp [intOf]; omega
      · have RF : Hid ((ys, pv, d) = RES) := by
          have h1 := HR.out
          rw [elP_end (by rw [PT.out]; exact htr)] at h1
          exact h1
        obtain ⟨r0, r1, r2, h0, h1, h2⟩ := ST.out.ret.all
        go_wp2_with fail
        obtain ⟨E0, E1, E2, -, -, -⟩ := (((ST.out.ret.set0 (.int .i64 r)).set1 (.int .i64 c)).set2 (.slice (some ⟨g, 0, none⟩) N cap)).all
        exact bodyPost_ret (v := .tuple #[.agg #[.int .i64 r, .int .i64 c, .slice (some ⟨g, 0, none⟩) N cap], .slice q t qc, .int .i64 d]) (by simp [results, Try.results90, go_sem, E0, E1, E2]) rfl (by rw [← RF.out]; exact ST.out.endM HL.out hcap (by omega) (by rw [PT.out]; omega) (by omega) (by omega) (by omega) (by omega) (by omega) d _ _ _)
    · obtain rfl : k = 0 := by omega
      have RF : Hid ((ys, pv, d) = RES) := HR.out
      obtain ⟨r0, r1, r2, h0, h1, h2⟩ := ST.out.ret.all
      go_wp2_with fail
      obtain ⟨E0, E1, E2, -, -, -⟩ := (((ST.out.ret.set0 (.int .i64 r)).set1 (.int .i64 c)).set2 (.slice (some ⟨g, 0, none⟩) N cap)).all
      exact bodyPost_ret (v := .tuple #[.agg #[.int .i64 r, .int .i64 c, .slice (some ⟨g, 0, none⟩) N cap], .slice q t qc, .int .i64 d]) (by simp [results, Try.results90, go_sem, E0, E1, E2]) rfl (by rw [← RF.out]; exact ST.out.endM HL.out hcap (by omega) (by rw [PT.out]; omega) (by omega) (by omega) (by omega) (by omega) (by omega) d _ _ _)
end Go.Proofs.Ytgemkfcapkfdbaa
end

section
/-
  Plain mathematics of chapter 8: what ranks, determinants and inverses over residues are. Nothing of a program is used.
-/
namespace Go.Proofs.Ytgemkfcapkfdbaa

/-- A reduced form with as many pivots as columns, and as many rows, is the unit matrix. -/
theorem inc_id {n : Nat} {q : Nat → Nat} (hc : ∀ k, k < n → q k < n) (hi : ∀ k l, k < l → l < n → q k < q l) : ∀ k, k < n → q k = k := by
  have low : ∀ k, k < n → k ≤ q k := by
    intro k
    induction k with
    | zero => intro _; exact Nat.zero_le _
    | succ k ih =>
      intro hk
      have h1 := ih (by omega)
      have h2 := hi k (k + 1) (by omega) hk
      omega
  have up : ∀ m k, k + m + 1 = n → q k ≤ k := by
    intro m
    induction m with
    | zero => intro k hk; have := hc k (by omega); omega
    | succ m ih =>
      intro k hk
      have h1 := ih (k + 1) (by omega)
      have h2 := hi k (k + 1) (by omega) (by omega)
      omega
  intro k hk
  have h1 := low k hk
  have h2 := up (n - k - 1) k (by omega)
  omega
theorem RefP.unit {n : Nat} {A : Mx} {q : Nat → Nat} (h : RefP n n A q n) {i j : Nat} (hi : i < n) (hj : j < n) : A i j = idX i j := by
  have e := inc_id h.col h.inc
  unfold idX
  by_cases hij : i = j
  · rw [if_pos hij]
    have := h.one j hj
    rw [e j hj] at this
    rw [hij]; exact this
  · rw [if_neg hij]
    have := h.only j i hj hi hij
    rw [e j hj] at this
    exact this
/-- The elimination of a matrix over the residues of p. -/
def elM (p : Int) (r c : Nat) (xs : List Int) : List Int × List Nat × Int := elP p r c c 0 (resL p xs) [] 1
theorem resL_length (p : Int) (xs : List Int) : (resL p xs).length = xs.length := List.length_map ..
theorem resL_cg {p : Int} {c : Nat} {xs : List Int} (i j : Nat) : Cg p (mxC c (resL p xs) i j) (mxC c xs i j) := by
  unfold mxC
  rw [resL_at]
  exact Cg.emod p _
/-- What it ends in. -/
theorem elM_says {p : Int} (hp : Prm p) {r c : Nat} {xs : List Int} (hx : xs.length = r * c) :
    RefP r c (mxC c (elM p r c xs).1) (fun k => (elM p r c xs).2.1.getD k 0) (elM p r c xs).2.1.length ∧ SubP p r r c (mxC c (elM p r c xs).1) (mxC c xs) ∧ SubP p r r c (mxC c xs) (mxC c (elM p r c xs).1) ∧ (0 ≤ (elM p r c xs).2.2 ∧ (elM p r c xs).2.2 < p) ∧ (r = c → Cg p (det r (mxC c xs)) ((elM p r c xs).2.2 * det r (mxC c (elM p r c xs).1))) := by
  have hp0 : 0 < p := by have := hp.1; omega
  have hr : (resL p xs).length = r * c := by rw [resL_length, hx]
  have st := PInv.start (p := p) (M := mxC c xs) hr (Nat.le_refl c) (fun i q hi hq => (resL_can hp0 xs).mx hr hi hq) (fun i q _ _ => resL_cg i q)
  obtain ⟨⟨j', h1, h2⟩, h3, h4⟩ := PInv.all hp hp.hasInv c 0 (resL p xs) [] 1 (by omega) st ⟨by decide, by have := hp.1; omega⟩
  refine ⟨h1.ref h2, h1.toM, h1.ofM, h3, fun hrc => ?_⟩
  subst hrc
  refine h4 rfl ?_
  unfold DInv
  rw [Int.one_mul]
  exact det_cg fun i j _ _ => (resL_cg i j).symm
/-- The determinant over the residues, and whether the rank is full. -/
theorem elM_det {p : Int} (hp : Prm p) {n : Nat} {xs : List Int} (hx : xs.length = n * n) :
    ((elM p n n xs).2.1.length < n ↔ det n (mxC n xs) % p = 0) ∧ (if (elM p n n xs).2.1.length < n then 0 else (elM p n n xs).2.2) = det n (mxC n xs) % p := by
  have hp0 : 0 < p := by have := hp.1; omega
  obtain ⟨h1, h2, h3, h4, h5⟩ := elM_says hp hx
  have h5 := h5 rfl
  generalize elM p n n xs = E at h1 h2 h3 h4 h5 ⊢
  by_cases hl : E.2.1.length < n
  · have e0 : Cg p (det n (mxC n E.1)) 0 := det_zero_row (i := E.2.1.length) hl fun j hj => Cg.of_eq (h1.rest _ j (Nat.le_refl _) hl hj)
    have e1 : Cg p (det n (mxC n xs)) 0 := h5.trans ((Cg.mul_left _ e0).trans (Cg.of_eq (Int.mul_zero _)))
    have e2 : det n (mxC n xs) % p = 0 := by rw [Cg.emod_eq hp0 e1]; exact Int.zero_emod p
    exact ⟨⟨fun _ => e2, fun _ => hl⟩, by rw [if_pos hl, e2]⟩
  · have hle := h1.le
    have en : E.2.1.length = n := by omega
    rw [en] at h1
    have eu : ∀ i j, i < n → j < n → mxC n E.1 i j = idX i j := fun i j hi hj => h1.unit hi hj
    have ed : det n (mxC n E.1) = 1 := by rw [det_congr (B := idX) eu, det_id]
    rw [ed, Int.mul_one] at h5
    have e1 : det n (mxC n xs) % p = E.2.2 := by
      rw [Cg.emod_eq hp0 h5]
      exact Int.emod_eq_of_lt h4.1 h4.2
    -- the unit matrix is a combination of the rows: the determinant is not 0
    have hK : ∀ i, ∃ k : Nat → Int, i < n → ∀ j, j < n → Cg p (mxC n E.1 i j) (sumN n fun a => k a * mxC n xs a j) := fun i => by
      by_cases hi : i < n
      · obtain ⟨k, hk⟩ := h2 i hi
        exact ⟨k, fun _ => hk⟩
      · exact ⟨fun _ => 0, fun h => absurd h hi⟩
    obtain ⟨K, hKK⟩ := Classical.skolem.mp hK
    have hI : InvX p n (mxC n xs) K := fun i j hi hj => (hKK i hi j hj).symm.trans (Cg.of_eq (eu i j hi hj))
    have hne := hI.ne hp
    refine ⟨⟨fun h => absurd h hl, fun h => absurd ?_ hne⟩, by rw [if_neg hl, e1]⟩
    exact Int.dvd_of_emod_eq_zero h
/-- The matrix with the unit matrix beside it. -/
def wideL (p : Int) (n : Nat) (xs : List Int) : List Int := tab n (2 * n) fun i j => if j < n then (resL p xs).getD (i * n + j) 0 else if j = n + i then 1 else 0
/-- The same, over the numbers. -/
def wideX (n : Nat) (M : Mx) : Mx := fun i j => if j < n then M i j else if j = n + i then 1 else 0
def elW (p : Int) (n : Nat) (xs : List Int) : List Int × List Nat × Int := elP p n (2 * n) n 0 (wideL p n xs) [] 1
def ivL (p : Int) (n : Nat) (xs : List Int) : List Int := tab n n fun i j => (elW p n xs).1.getD (i * (2 * n) + (n + j)) 0
theorem wideL_can {p : Int} (hp : Prm p) {n : Nat} {xs : List Int} (hx : xs.length = n * n) : CanL p (wideL p n xs) := CanL.of (tab_length _ _ _) fun i j hi hj => by
  have hp0 := hp.1
  show 0 ≤ (wideL p n xs).getD (i * (2 * n) + j) 0 ∧ (wideL p n xs).getD (i * (2 * n) + j) 0 < p
  unfold wideL
  rw [tab_at n (2 * n) _ hi hj]
  by_cases h1 : j < n
  · rw [if_pos h1]
    exact resL_can (by omega) xs _ (by rw [resL_length, hx]; exact idx_lt hi h1)
  · rw [if_neg h1]
    split <;> omega
theorem elW_says {p : Int} (hp : Prm p) {n : Nat} {xs : List Int} (hx : xs.length = n * n) :
    RefP n n (mxC (2 * n) (elW p n xs).1) (fun k => (elW p n xs).2.1.getD k 0) (elW p n xs).2.1.length ∧ SubP p n n (2 * n) (mxC (2 * n) (elW p n xs).1) (wideX n (mxC n xs)) ∧ SubP p n n (2 * n) (wideX n (mxC n xs)) (mxC (2 * n) (elW p n xs).1) ∧ (∀ i j, i < n → j < 2 * n → 0 ≤ mxC (2 * n) (elW p n xs).1 i j ∧ mxC (2 * n) (elW p n xs).1 i j < p) := by
  have hp0 : 0 < p := by have := hp.1; omega
  have hl : (wideL p n xs).length = n * (2 * n) := tab_length _ _ _
  have hM : ∀ i q, i < n → q < 2 * n → Cg p (mxC (2 * n) (wideL p n xs) i q) (wideX n (mxC n xs) i q) := fun i q hi hq => by
    have e : mxC (2 * n) (wideL p n xs) i q = if q < n then (resL p xs).getD (i * n + q) 0 else if q = n + i then 1 else 0 := tab_at n (2 * n) _ hi hq
    rw [e]
    unfold wideX
    split
    · exact resL_cg i q
    · exact Cg.refl _ _
  have st := PInv.start (p := p) (M := wideX n (mxC n xs)) hl (by omega : n ≤ 2 * n) (fun i q hi hq => (wideL_can hp hx).mx hl hi hq) hM
  obtain ⟨⟨j', h1, h2⟩, -, -⟩ := PInv.all hp hp.hasInv n 0 (wideL p n xs) [] 1 (by omega) st ⟨by decide, by have := hp.1; omega⟩
  exact ⟨h1.ref h2, h1.toM, h1.ofM, h1.can⟩
/-- There is an inverse exactly if the determinant is not 0, and it is what stands behind. -/
theorem elW_inv {p : Int} (hp : Prm p) {n : Nat} {xs : List Int} (hx : xs.length = n * n) :
    ((elW p n xs).2.1.length < n ↔ det n (mxC n xs) % p = 0) ∧ (¬ (elW p n xs).2.1.length < n → InvX p n (mxC n xs) (mxC n (ivL p n xs))) ∧ CanL p (ivL p n xs) ∧ (ivL p n xs).length = n * n := by
  have hp0 : 0 < p := by have := hp.1; omega
  obtain ⟨h1, h2, h3, h4⟩ := elW_says hp hx
  have at_ : ∀ i j, i < n → j < n → mxC n (ivL p n xs) i j = mxC (2 * n) (elW p n xs).1 i (n + j) := fun i j hi hj => tab_at n n _ hi hj
  have can : CanL p (ivL p n xs) := CanL.of (tab_length _ _ _) fun i j hi hj => by rw [at_ i j hi hj]; exact h4 i (n + j) hi (by omega)
  have inv : ¬ (elW p n xs).2.1.length < n → InvX p n (mxC n xs) (mxC n (ivL p n xs)) := fun hl i j hi hj => by
    have hle := h1.le
    have en : (elW p n xs).2.1.length = n := by omega
    rw [en] at h1
    obtain ⟨k, hk⟩ := h2 i hi
    have e1 : ∀ b, b < n → Cg p (mxC n (ivL p n xs) i b) (k b) := fun b hb => by
      rw [at_ i b hi hb]
      refine (hk (n + b) (by omega)).trans (Cg.of_eq ?_)
      rw [sumN_one (a := b) hb (fun a ha hne => by unfold wideX; rw [if_neg (by omega), if_neg (by omega), Int.mul_zero])]
      unfold wideX
      rw [if_neg (by omega), if_pos rfl, Int.mul_one]
    have e2 : Cg p (mxC (2 * n) (elW p n xs).1 i j) (sumN n fun a => k a * mxC n xs a j) := (hk j (by omega)).trans (Cg.of_eq (sumN_congr fun a _ => by unfold wideX; rw [if_pos hj]))
    rw [h1.unit hi hj] at e2
    exact (Cg.trans (Cg.sum fun a ha => (e1 a ha).mul (Cg.refl p _)) e2.symm)
  refine ⟨?_, inv, can, tab_length _ _ _⟩
  by_cases hl : (elW p n xs).2.1.length < n
  · refine ⟨fun _ => ?_, fun _ => hl⟩
    have hK : ∀ i, ∃ k : Nat → Int, i < n → ∀ j, j < 2 * n → Cg p (wideX n (mxC n xs) i j) (sumN n fun a => k a * mxC (2 * n) (elW p n xs).1 a j) := fun i => by
      by_cases hi : i < n
      · obtain ⟨k, hk⟩ := h3 i hi
        exact ⟨k, fun _ => hk⟩
      · exact ⟨fun _ => 0, fun h => absurd h hi⟩
    obtain ⟨K, hKK⟩ := Classical.skolem.mp hK
    have e1 : Cg p (det n (mxC n xs)) (det n (mulX n K (mxC (2 * n) (elW p n xs).1))) := det_cg fun i j hi hj => by
      have := hKK i hi j (by omega)
      unfold wideX at this
      rw [if_pos hj] at this
      exact this
    rw [det_mul] at e1
    have e0 : Cg p (det n (mxC (2 * n) (elW p n xs).1)) 0 := det_zero_row (i := (elW p n xs).2.1.length) hl fun j hj => Cg.of_eq (h1.rest _ j (Nat.le_refl _) hl hj)
    have e2 : Cg p (det n (mxC n xs)) 0 := e1.trans ((Cg.mul_left _ e0).trans (Cg.of_eq (Int.mul_zero _)))
    rw [Cg.emod_eq hp0 e2]
    exact Int.zero_emod p
  · exact ⟨fun h => absurd h hl, fun h => absurd (Int.dvd_of_emod_eq_zero h) ((inv hl).ne hp)⟩
/-- No other list of residues is an inverse. -/
theorem ivL_uniq {p : Int} {n : Nat} {xs us vs : List Int} (hu : us.length = n * n) (hv : vs.length = n * n) (cu : CanL p us) (cv : CanL p vs) (h : InvX p n (mxC n xs) (mxC n us)) (h' : InvX p n (mxC n xs) (mxC n vs)) : us = vs :=
  mx_ext hu hv fun i j hi hj => Cg.eq (cu.mx hu hi hj) (cv.mx hv hi hj) (h.uniq h' i j hi hj)
end Go.Proofs.Ytgemkfcapkfdbaa
end

section
/-
  Chapter 7, in the model: EchelonOf, RankOf.
-/
namespace Go.Proofs.Ytgemkfcapkfdbaa
set_option maxRecDepth 100000
open Go.RowKit

/-- What EchelonOf gives: a matrix, its pivots, whether there is such a form in range. -/
structure ER where
  r : Int
  c : Int
  zs : List Int
  pv : List Int
  ok : Bool
def ER.no : ER := ⟨0, 0, [], [], false⟩
def ER.of (r c : Int) : Option (List Int × List Nat) → ER
  | some (ys, pv) => ⟨r, c, ys, pvI pv, true⟩
  | none => ER.no
def echR (r c : Int) (xs : List Int) : ER := if isMat r c xs = true then ER.of r c (echM r.toNat c.toNat xs) else ER.no
def EchG (w : World) (R : ER) (e : Ending) (w' : World) : Prop :=
  ∃ (va vb : Value), e = .returned (.tuple #[.agg #[.int .i64 R.r, .int .i64 R.c, va], vb, .bool R.ok]) ∧ Own w.heap.size w' va R.zs ∧ Own w.heap.size w' vb R.pv ∧ (∀ k, va.ownBlock = some k → vb.ownBlock ≠ some k) ∧ Below w.heap.size w w'
theorem EchP.g {w : World} {r c : Nat} {o : Option (List Int × List Nat)} {e : Ending} {w' : World} (h : EchP w r c o e w') : EchG w (ER.of r c o) e w' := by
  rcases h with ⟨va, vb, ys, pv, rfl, rfl, h1, h2, h3, h4⟩ | ⟨vb, rfl, rfl, h2, h4⟩
  · exact ⟨va, vb, rfl, h1, h2, h3, h4⟩
  · exact ⟨_, vb, rfl, .inl ⟨rfl, rfl⟩, h2, fun k hk => by simp [Value.ownBlock] at hk, h4⟩
theorem Own.far' {B : Nat} {w : World} {v : Value} {zs : List Int} (h : Own B w v zs) {a : Addr} (ha : a.block < B) (u : Value) : Own B (w.setCell a u) v zs := by
  rcases h with h | ⟨g, cap, hv, hB, hi, hl, hc⟩
  · exact .inl h
  · exact .inr ⟨g, cap, hv, hB, hi.far (by omega) u, hl, hc⟩
theorem Own.far3' {B b : Nat} {w : World} {v : Value} {zs : List Int} (h : Own B w v zs) (hb : b < B) (x y z : Value) : Own B (((w.setCell ⟨b, 0, none⟩ x).setCell ⟨b, 1, none⟩ y).setCell ⟨b, 2, none⟩ z) v zs :=
  ((h.far' (a := ⟨b, 0, none⟩) hb x).far' (a := ⟨b, 1, none⟩) hb y).far' (a := ⟨b, 2, none⟩) hb z
end Go.Proofs.Ytgemkfcapkfdbaa
end

section
/-
  Chapter 8, in the model: RankMod, DeterminantMod.
-/
namespace Go.Proofs.Ytgemkfcapkfdbaa
set_option maxRecDepth 100000
open Go.RowKit

/-- What RankMod gives. -/
def rkM (r c p : Int) (xs : List Int) : Int × Bool := if (isMat r c xs && prmB p) = true then (((elM p r.toNat c.toNat xs).2.1.length : Int), true) else (0, false)
/-- What DeterminantMod gives. -/
def dtM (r c p : Int) (xs : List Int) : Int × Bool := if (isMat r c xs && prmB p && decide (r = c)) = true then (if (elM p r.toNat c.toNat xs).2.1.length < r.toNat then 0 else (elM p r.toNat c.toNat xs).2.2, true) else (0, false)
theorem rkM_no {r c p : Int} {xs : List Int} (h : (isMat r c xs && prmB p) = false) : rkM r c p xs = (0, false) ∧ redM r c p xs = MR.no ∧ dtM r c p xs = (0, false) := by
  unfold rkM redM dtM
  rw [h]
  exact ⟨rfl, rfl, rfl⟩
theorem rkM_yes {r c p : Int} {xs : List Int} (h : (isMat r c xs && prmB p) = true) : ∃ (R C N : Nat), r = R ∧ c = C ∧ N = R * C ∧ R ≤ 24 ∧ C ≤ 24 ∧ xs.length = N ∧ (resL p xs).length = N ∧ prmB p = true ∧ CanL p (resL p xs) ∧ redM r c p xs = ⟨true, R, C, resL p xs⟩ ∧ rkM r c p xs = (((elM p R C xs).2.1.length : Int), true) ∧ dtM r c p xs = (if R = C then (if (elM p R C xs).2.1.length < R then 0 else (elM p R C xs).2.2, true) else (0, false)) := by
  have h0 := h
  rw [Bool.and_eq_true] at h
  obtain ⟨hm, hp⟩ := h
  obtain ⟨⟨r0, r1⟩, ⟨c0, c1⟩, hl, nx⟩ := isMat_says hm
  obtain ⟨R, rfl⟩ := Int.eq_ofNat_of_zero_le r0
  obtain ⟨C, rfl⟩ := Int.eq_ofNat_of_zero_le c0
  have hx : xs.length = R * C := by rw [← Int.natCast_mul] at hl; omega
  refine ⟨R, C, R * C, rfl, rfl, rfl, by omega, by omega, hx, by rw [resL_length, hx], hp, resL_can (by have := (prmB_says hp).1.1; omega) xs, ?_, ?_, ?_⟩
  · unfold redM; rw [if_pos h0]
  · unfold rkM; rw [if_pos h0]; rfl
  · unfold dtM
    rw [h0, Bool.true_and]
    by_cases e : R = C
    · rw [if_pos e, if_pos (by simp [e])]; rfl
    · rw [if_neg e, if_neg (by simp; omega)]
/-- Own cells as the elimination wants them. -/
theorem Own.elim {B N cap : Nat} {w : World} {q : Option Addr} {zs : List Int} (h : Own B w (.slice q N cap) zs) : Rd w q zs ∧ Spot q := by
  rcases h with ⟨hv, rfl⟩ | ⟨g, cap, hv, _, hi, _⟩
  · injection hv with e
    exact ⟨Rd.nil _ _, .inl e⟩
  · injection hv with e
    exact ⟨by rw [e]; exact hi.rd, .inr ⟨g, 0, e⟩⟩
end Go.Proofs.Ytgemkfcapkfdbaa
end

section
/-
  Plain mathematics of chapter 9: the primes that DeterminantByImages takes, and what it joins. Nothing of a program is used.
-/
namespace Go.Proofs.Ytgemkfcapkfdbaa
open Go.RowKit

/-- The determinant over the residues of a square matrix. -/
theorem dtM_sq {n : Nat} {xs : List Int} {p : Int} (hs : isSq n n xs = true) (hp : prmB p = true) : dtM n n p xs = (det n (mxL n xs) % p, true) := by
  obtain ⟨m, hm, -, h6, hl, -⟩ := isSq_says hs
  obtain rfl : n = m := by omega
  have hi : isMat n n xs = true := by
    unfold isSq at hs
    rw [Bool.and_eq_true, Bool.and_eq_true] at hs
    exact hs.1.1
  obtain ⟨R, C, N, hR, hC, hN, -, -, hx, -, -, -, -, -, e3⟩ := rkM_yes (r := n) (c := n) (p := p) (xs := xs) (by rw [hi, hp]; rfl)
  obtain rfl : n = R := by omega
  obtain rfl : n = C := by omega
  rw [if_pos rfl, (elM_det (prmB_says hp).1 hl).2] at e3
  exact e3
/-- Where the search for the k-th prime begins. -/
def lo9 : Nat → Nat
  | 0 => 101
  | 1 => 102
  | 2 => 104
  | 3 => 108
  | _ => 110
theorem pr9_prime : ∀ k, prmB (pr9 k) = true
  | 0 => by decide +kernel
  | 1 => by decide +kernel
  | 2 => by decide +kernel
  | 3 => by decide +kernel
  | _ + 4 => by show prmB 113 = true; decide +kernel
/-- Where a search for primes is: k are taken, p is the next to look at, P is their product. -/
structure At9 (k p : Nat) (P : Int) : Prop where
  le : k ≤ 4
  lo : lo9 k ≤ p
  hi : (p : Int) ≤ pr9 k
  prod : P = pp9 k
theorem At9.zero : At9 0 101 1 := ⟨by decide, by decide, by decide, rfl⟩
theorem pp9_num : ∀ k, 1 ≤ pp9 k ∧ pp9 k ≤ 121330189
  | 0 => by decide
  | 1 => by decide
  | 2 => by decide
  | 3 => by decide
  | _ + 4 => (by decide : (1 : Int) ≤ 121330189 ∧ (121330189 : Int) ≤ 121330189)
theorem pr9_num : ∀ k, 101 ≤ pr9 k ∧ pr9 k ≤ 113
  | 0 => by decide
  | 1 => by decide
  | 2 => by decide
  | 3 => by decide
  | _ + 4 => (by decide : (101 : Int) ≤ 113 ∧ (113 : Int) ≤ 113)
theorem lo9_num : ∀ k, 101 ≤ lo9 k
  | 0 => by decide
  | 1 => by decide
  | 2 => by decide
  | 3 => by decide
  | _ + 4 => (by decide : 101 ≤ 110)
theorem At9.num {k p : Nat} {P : Int} (h : At9 k p P) : 101 ≤ p ∧ p ≤ 113 ∧ 1 ≤ P ∧ P ≤ 121330189 := by
  obtain ⟨h1, h2, h3, rfl⟩ := h
  have := pr9_num k
  have := pp9_num k
  have := lo9_num k
  exact ⟨by omega, by omega, by omega, by omega⟩
/-- The number is a prime exactly if it is the k-th one. -/
theorem At9.test {k p : Nat} {P : Int} (h : At9 k p P) (hp : prmB (p : Int) = true) : (p : Int) = pr9 k := by
  obtain ⟨h1, h2, h3, -⟩ := h
  have q := pr9_gap p (by have := lo9_num k; omega) (by have := pr9_num k; omega) hp
  rcases (show k = 0 ∨ k = 1 ∨ k = 2 ∨ k = 3 ∨ k = 4 by omega) with rfl | rfl | rfl | rfl | rfl
  · have : lo9 0 = 101 := rfl
    have : pr9 0 = 101 := rfl
    omega
  · have : lo9 1 = 102 := rfl
    have : pr9 1 = 103 := rfl
    omega
  · have : lo9 2 = 104 := rfl
    have : pr9 2 = 107 := rfl
    omega
  · have : lo9 3 = 108 := rfl
    have : pr9 3 = 109 := rfl
    omega
  · have : lo9 4 = 110 := rfl
    have : pr9 4 = 113 := rfl
    omega
theorem At9.skip {k p : Nat} {P : Int} (h : At9 k p P) (hp : prmB (p : Int) = false) : At9 k (p + 1) P := by
  have hne : (p : Int) ≠ pr9 k := fun e => by rw [e, pr9_prime k] at hp; cases hp
  obtain ⟨h1, h2, h3, h4⟩ := h
  exact ⟨h1, by omega, by omega, h4⟩
theorem At9.next {k p : Nat} {P : Int} (h : At9 k p P) (hp : prmB (p : Int) = true) (hk : k < 4) : At9 (k + 1) (p + 1) (P * p) ∧ P * p ≤ 121330189 := by
  have e := h.test hp
  obtain ⟨h1, h2, h3, rfl⟩ := h
  rw [e]
  rcases (show k = 0 ∨ k = 1 ∨ k = 2 ∨ k = 3 by omega) with rfl | rfl | rfl | rfl
  · have e1 : pr9 0 = 101 := rfl
    obtain rfl : p = 101 := by omega
    exact ⟨⟨by decide, by decide, by decide, rfl⟩, by decide⟩
  · have e1 : pr9 1 = 103 := rfl
    obtain rfl : p = 103 := by omega
    exact ⟨⟨by decide, by decide, by decide, rfl⟩, by decide⟩
  · have e1 : pr9 2 = 107 := rfl
    obtain rfl : p = 107 := by omega
    exact ⟨⟨by decide, by decide, by decide, rfl⟩, by decide⟩
  · have e1 : pr9 3 = 109 := rfl
    obtain rfl : p = 109 := by omega
    exact ⟨⟨by decide, by decide, by decide, rfl⟩, by decide⟩
theorem At9.last {k p : Nat} {P : Int} (h : At9 k p P) (hp : prmB (p : Int) = true) (hk : ¬ k < 4) : p = 113 ∧ P = 121330189 ∧ 400000000 < P * p := by
  have e := h.test hp
  obtain ⟨h1, h2, h3, rfl⟩ := h
  obtain rfl : k = 4 := by omega
  have e1 : pr9 4 = 113 := rfl
  obtain rfl : p = 113 := by omega
  exact ⟨rfl, rfl, by decide⟩
/-- What has been taken. -/
def mo9 (k : Nat) : List Int := (List.range k).map pr9
def re9 (D : Int) (k : Nat) : List Int := (List.range k).map fun i => D % pr9 i
theorem mo9_length (k : Nat) : (mo9 k).length = k := by simp [mo9]
theorem re9_length (D : Int) (k : Nat) : (re9 D k).length = k := by simp [re9]
theorem mo9_snoc (k : Nat) : mo9 (k + 1) = mo9 k ++ [pr9 k] := by unfold mo9; rw [List.range_succ, List.map_append]; rfl
theorem re9_snoc (D : Int) (k : Nat) : re9 D (k + 1) = re9 D k ++ [D % pr9 k] := by unfold re9; rw [List.range_succ, List.map_append]; rfl
theorem mo9_at {k i : Nat} (h : i < k) : atL (mo9 k) i = pr9 i := by simp [atL, mo9, List.getD, h]
theorem re9_at {D : Int} {k i : Nat} (h : i < k) : atL (re9 D k) i = D % pr9 i := by simp [atL, re9, List.getD, h]
theorem mo9_ok {k : Nat} (h : k ≤ 4) : modB (mo9 k) = true := by
  rcases (show k = 0 ∨ k = 1 ∨ k = 2 ∨ k = 3 ∨ k = 4 by omega) with rfl | rfl | rfl | rfl | rfl <;> decide +kernel
theorem re9_num (D : Int) (k : Nat) : nums (re9 D k) = true := nums_true fun j hj => by
  rw [re9_length] at hj
  have e : (re9 D k).getD j 0 = D % pr9 j := re9_at hj
  rw [e]
  have := pr9_num j
  have h0 : 0 ≤ D % pr9 j := Int.emod_nonneg _ (by omega)
  have h1 : D % pr9 j < pr9 j := Int.emod_lt_of_pos _ (by omega)
  exact ⟨by omega, by omega⟩
theorem chi9 {D : Int} {k : Nat} (h : k ≤ 4) : ∃ x, ChiP (fun i => D % pr9 i) pr9 k x ∧ chiX (re9 D k) (mo9 k) = (x, pp9 k, true) := by
  obtain ⟨x, hx⟩ := chi_ex (rs := fun i => D % pr9 i) (pr9_modu h)
  refine ⟨x, hx, ?_⟩
  have eP : prodI (atL (mo9 k)) (mo9 k).length = pp9 k := by
    rw [mo9_length, ← pp9_prod h]
    exact prodI_congr fun i hi => mo9_at hi
  rw [← eP]
  refine chiX_yes (mo9_ok h) (by rw [re9_length, mo9_length]) (re9_num D k) ?_
  obtain ⟨⟨x0, x1⟩, hc⟩ := hx
  refine ⟨⟨x0, by rw [eP, ← pp9_prod h]; exact x1⟩, fun i hi => ?_⟩
  rw [mo9_length] at hi
  rw [mo9_at hi, re9_at hi]
  exact hc i hi
/-- Where the product is greater than twice the bound. -/
theorem im9_yes {n : Nat} {xs : List Int} {k : Nat} {b : Int} (hk : k ≤ 4) (h : bndX n n xs = (b, true)) (hb : 2 * b < pp9 k) :
    ∃ x, chiX (re9 (det n (mxL n xs)) k) (mo9 k) = (x, pp9 k, true) ∧ symX x (pp9 k) = imX n n xs ∧ (imX n n xs).2 = true ∧ (0 ≤ x ∧ x ≤ 121330189) := by
  obtain ⟨x, hx, e⟩ := chi9 (D := det n (mxL n xs)) hk
  have p1 := pp9_num k
  obtain ⟨x0, x1⟩ := hx.1
  rw [pp9_prod hk] at x1
  have ei := imX_yes hk (by rw [h]) (by rw [h]; exact hb) hx
  refine ⟨x, e, ?_, by rw [ei], x0, by omega⟩
  rw [ei]
  exact symX_yes ⟨⟨by omega, by omega⟩, by omega, by omega⟩
theorem im9_no {n : Nat} {xs : List Int} {b : Int} (h : bndX n n xs = (b, true)) (hb : 121330189 ≤ 2 * b) : imX n n xs = (0, false) := imX_no (.inr (by rw [h]; exact hb))
theorem imX_sq {r c : Int} {xs : List Int} (h : isSq r c xs = false) : bndX r c xs = (0, false) ∧ imX r c xs = (0, false) := by
  have := bndX_sq h
  exact ⟨this, imX_no (.inl (by rw [this]))⟩
theorem bnd_case {n : Nat} {xs : List Int} (h : isSq n n xs = true) : (bndX n n xs = (0, false) ∧ imX n n xs = (0, false)) ∨ ∃ b, bndX n n xs = (b, true) ∧ 0 ≤ b ∧ b ≤ 400000000 := by
  cases hb : bndTo n xs n with
  | none =>
    have := bndX_no h hb
    exact .inl ⟨this, imX_no (.inl (by rw [this]))⟩
  | some P => exact .inr ⟨P, bndX_yes h hb, (bndTo_says hb).1, (bndTo_says hb).2.1⟩
end Go.Proofs.Ytgemkfcapkfdbaa
end
