/-
  Chapter 7, in the program: a row made primitive (the closure of EchelonOf).
-/
import Derived.Test.YtbdofgkcedpamaaLdI
import Derived.Test.YtbdofgkcedpamaaRow3
import Derived.StillTailTactics
namespace Go.Proofs.Ytbdofgkcedpamaa
set_option maxRecDepth 100000
open Go.RowKit

/-- The cells of a matrix: nil, or all of what shows in block g. -/
def Cel (w : World) (q : Option Addr) (N cap g : Nat) (xs : List Int) : Prop := (q = none ∧ cap = 0 ∧ N = 0 ∧ xs = []) ∨ (q = some ⟨g, 0, none⟩ ∧ N ≤ cap ∧ xs.length = N ∧ Ints w g xs)
theorem Cel.spot {w : World} {q : Option Addr} {N cap g : Nat} {xs : List Int} (h : Cel w q N cap g xs) : Spot q := by
  rcases h with ⟨h, -⟩ | ⟨h, -⟩
  · exact .inl h
  · exact .inr ⟨g, 0, h⟩
theorem Cel.le {w : World} {q : Option Addr} {N cap g : Nat} {xs : List Int} (h : Cel w q N cap g xs) : N ≤ cap := by
  rcases h with ⟨-, h1, h2, -⟩ | ⟨-, h, -⟩ <;> omega
theorem Cel.nil {w : World} {q : Option Addr} {N cap g : Nat} {xs : List Int} (h : Cel w q N cap g xs) (hq : q = none) : cap = 0 := by
  rcases h with ⟨-, h1, -⟩ | ⟨h, -⟩
  · exact h1
  · rw [hq] at h; cases h
theorem Cel.len {w : World} {q : Option Addr} {N cap g : Nat} {xs : List Int} (h : Cel w q N cap g xs) : xs.length = N := by
  rcases h with ⟨-, -, h1, h2⟩ | ⟨-, -, h, -⟩
  · rw [h1, h2]; rfl
  · exact h
theorem Cel.ints {w : World} {q : Option Addr} {N cap g : Nat} {xs : List Int} (h : Cel w q N cap g xs) (h0 : 0 < N) : q = some ⟨g, 0, none⟩ ∧ Ints w g xs := by
  rcases h with ⟨-, -, h1, -⟩ | ⟨h1, -, -, h2⟩
  · omega
  · exact ⟨h1, h2⟩
theorem Cel.rd {w : World} {q : Option Addr} {N cap g : Nat} {xs : List Int} (h : Cel w q N cap g xs) : Rd w q xs := by
  rcases h with ⟨-, -, -, rfl⟩ | ⟨rfl, -, -, h⟩
  · exact Rd.nil _ _
  · exact h.rd
theorem Cel.move {w w' : World} {q : Option Addr} {N cap g : Nat} {xs : List Int} (h : Cel w q N cap g xs) (e : g < w.heap.size → w'.heap[g]? = w.heap[g]?) : Cel w' q N cap g xs := by
  rcases h with h | ⟨h1, h2, h3, h4⟩
  · exact .inl h
  · exact .inr ⟨h1, h2, h3, h4.move (e h4.lt)⟩
theorem Cel.keep {w w' : World} {q : Option Addr} {N cap g : Nat} {xs : List Int} (h : Cel w q N cap g xs) (hb : Below w.heap.size w w') : Cel w' q N cap g xs := h.move fun hl => hb.block g hl
theorem Cel.drewN {w : World} {q : Option Addr} {N cap g : Nat} {xs : List Int} (h : Cel w q N cap g xs) (n : Nat) : Cel (w.drewN n) q N cap g xs := h
theorem Cel.put {w w' : World} {q : Option Addr} {N cap g : Nat} {xs ys : List Int} (h : Cel w q N cap g xs) (h0 : 0 < N) (hl : ys.length = N) (hi : Ints w' g ys) : Cel w' q N cap g ys :=
  .inr ⟨(h.ints h0).1, h.le, hl, hi⟩
theorem Cel.own {w : World} {q : Option Addr} {N cap g B : Nat} {xs : List Int} (h : Cel w q N cap g xs) (hB : B ≤ g) (hN : N ≤ 16777216) : Own B w (.slice q N cap) xs := by
  rcases h with ⟨rfl, rfl, rfl, rfl⟩ | ⟨rfl, h1, h2, h3⟩
  · exact .inl ⟨rfl, rfl⟩
  · exact .inr ⟨g, cap, by rw [h2], hB, h3, by omega, by omega⟩
set_option maxHeartbeats 2000000 in
theorem iPrim (r c i N ob cap g : Nat) (q : Option Addr) (xs : List Int) (w : World) (hN : N = r * c) (hr : r ≤ 24) (hc : c ≤ 24) (hi : i < r) (nx : nums xs = true) (K : Blk3 w ob 26 (.int .i64 r) (.int .i64 c) (.slice q N cap)) (hg : Cel w q N cap g xs) :
    Calls Try.prog 51 #[.int .i64 i, .pointer (some ⟨ob, 0, none⟩)] w (fun e w' => Void e ∧ Cel w' q N cap g (prL r c i xs) ∧ w.grownBy w' (some g)) := by
  have hle : r * c ≤ 24 * 24 := Nat.mul_le_mul hr hc
  rw [← hN] at hle
  have hx := hg.len
  obtain ⟨D, hD⟩ : ∃ D, i * c = D := ⟨_, rfl⟩
  have hDN : D + c ≤ N := by
    rw [hN, ← hD, ← Nat.succ_mul]; exact Nat.mul_le_mul_right _ hi
  have RW : Hid (∀ w', Calls Try.prog 52 #[.agg #[.int .i64 r, .int .i64 c, .slice q N cap], .int .i64 i] w' (RowAt q D c w')) := fun w' => iRowIn r c i D N cap q w' hg.spot hD hDN hg.le hg.nil (by omega) (by omega)
  obtain ⟨v, hv⟩ : ∃ v, mxC c xs i = v := ⟨_, rfl⟩
  have VN : Hid (∀ j, j < c → NumP (v j)) := fun j hj => by rw [← hv]; exact mx_nums (by rw [hx, hN]) nx hi hj
  have RD : Hid (∀ w' q', Cel w' q N cap g xs → (∀ g o : Nat, q = some ⟨g, o, none⟩ → 0 < c → q' = some ⟨g, o + D, none⟩) → Rd w' q' (rwL c v)) := fun w' q' h hq => by
    rw [← hv]
    exact h.rd.row (by rw [hx, hN]) hi (by rw [hD]; exact hq)
  have PV : Hid (prL r c i xs = rowTo r c i (prV c v) xs c) := by show _ = _; rw [rowTo_all, prL_row, hv]
  have RZ : Hid (rowTo r c i (prV c v) xs 0 = xs) := rowTo_zero (by rw [hx, hN])
  have DV : Hid (∀ j, (v j).tdiv (sgD c v) = prV c v j) := fun j => sgD_div j
  have SG : Hid (∀ w' q' m', Rd w' q' (rwL c v) → Calls Try.prog 53 #[.slice q' c m'] w' (fun e w2 => e = .returned (.int .i64 (sgD c v)) ∧ ∃ n, w2 = w'.drewN n)) := fun w' q' m' h => iSgD c m' q' v w' h hc VN.out
  have d0 := sgD_ne c v
  have dn := sgD_num (c := c) (v := v) VN.out
  have RT : Hid (∀ k, k < c → (rowTo r c i (prV c v) xs k).set (D + k) (prV c v k) = rowTo r c i (prV c v) xs (k + 1)) := fun k hk => by rw [← hD]; exact rowTo_step hi hk
  have RX : Hid (∀ k, k < c → (rowTo r c i (prV c v) xs k).getD (D + k) 0 = v k) := fun k hk => by rw [← hD, rowTo_old hi hk (.inr (Nat.le_refl _)), ← hv]; rfl
  have RL : Hid (∀ k, (rowTo r c i (prV c v) xs k).length = N) := fun k => by rw [rowTo_length, hN]
  have PN : Hid (∀ j, j < c → NumP (prV c v j)) := fun j hj => prV_num VN.out hj
  have CG := Lib.hid hg
  generalize sgD c v = d at DV SG d0 dn
  clear hx nx hg hv hN
  generalize prV c v = u at PV RZ DV RT RX RL PN
  unfold NumP at dn
  obtain ⟨p0, p1, p2, -, -, -⟩ := K.all
  clear K hD
  go_enter Try.func51, Try.ntmps51
  go_wp2_with fail
  refine (RW.out _).mono ?_
  rintro e w1 ⟨q', m', rfl, hcm, hq1, hq2, hb1⟩
  have C1 := Lib.hid (CG.out.keep hb1)
  have G1 := Lib.hid (grown_of_below hb1 (some g))
  have R1 := Lib.hid (RD.out _ _ C1.out hq1)
  have Q1 := Lib.hid hq1
  clear hb1 hq1 hq2 p0 p1 p2
  go_wp2_with fail
  refine (SG.out _ _ _ R1.out).mono ?_
  rintro e w2 ⟨rfl, n, rfl⟩
  have C2 := Lib.hid (C1.out.drewN n)
  have G2 := Lib.hid (grown_drewN_one G1.out n)
  clear C1 G1 R1 SG RD RW
  generalize w1.drewN n = w2 at C2 G2 ⊢
  go_wp2_with fail
  go_loopw [5, 13] (fun _ v13 wr => ∃ j : Nat, v13 = .int .i64 j ∧ j ≤ c ∧ Cel wr q N cap g (rowTo r c i u xs j) ∧ w.grownBy wr (some g)) (fun _ v13 _ => c - (intOf v13).toNat)
  case atStart => exact ⟨0, rfl, by omega, by rw [RZ.out]; exact C2.out, G2.out⟩
  case round =>
    clear C2 G2
    obtain ⟨j, rfl, hj, hcel, hgr⟩ := hrel
    have CL := Lib.hid hcel
    have G := Lib.hid hgr
    clear hcel hgr
    by_cases hlt : j < c
    · obtain ⟨e1, hi1⟩ := CL.out.ints (by omega)
      have e2 := Q1.out g 0 e1 (by omega)
      rw [Nat.zero_add] at e2
      subst e2
      have hcell := hi1.cell (i := D + j) (by rw [RL.out]; omega)
      rw [RX.out j hlt] at hcell
      have hfr := hi1.free (D + j)
      have hb := VN.out j hlt
      have ho := PN.out j hlt
      have RS := Lib.hid (RT.out j hlt)
      have dv := DV.out j
      generalize v j = x at hcell hb dv
      obtain ⟨y, hy⟩ : ∃ y, u j = y := ⟨_, rfl⟩
      rw [hy] at RS ho dv
      unfold NumP at hb ho
      have z2 : IntKind.i64.wrap y = y := IntWalk.i64_in _ (by omega)
      have z3 : (d == 0) = false := by simpa using d0
      have I1 := Lib.hid hi1
      clear hy hi1 e1
      go_wp2_with fail
      go_roundw
      case rel =>
        refine ⟨j + 1, by go_num, by omega, ?_, ?_⟩
        · rw [← RS.out]
          exact CL.out.put (by omega) (by rw [List.length_set, RL.out]) (I1.out.set (D + j) y)
        · exact grown_set_one (a := ⟨g, D + j, none⟩) G.out rfl _
      case measure => simp [intOf]; omega
    · obtain rfl : c = j := by omega
      clear hlt
      go_wp2_with fail
      go_end0
      exact ⟨rfl, by rw [PV.out]; exact CL.out, G.out⟩
end Go.Proofs.Ytbdofgkcedpamaa
