/-
  Chapter 7, in the program: EchelonOf and RankOf of any matrix.
-/
import Derived.Test.YtbdofgkcedpamaaEcJ
import Derived.Test.YtbdofgkcedpamaaEchSp
namespace Go.Proofs.Ytbdofgkcedpamaa
set_option maxRecDepth 100000
open Go.RowKit

theorem echR_zs (r c : Int) (xs : List Int) : (echR r c xs).zs.length ≤ 600 := by
  rcases Bool.eq_false_or_eq_true (echR r c xs).ok with h | h
  · obtain ⟨-, R, C, ys, pv, -, -, h1, h2, -, -, -, e, h4, -⟩ := echR_ok h
    rw [e]
    show ys.length ≤ 600
    have : R * C ≤ 24 * 24 := Nat.mul_le_mul h1 h2
    omega
  · unfold echR at h ⊢
    split
    · rename_i hm
      rw [if_pos hm] at h
      cases he : echM r.toNat c.toNat xs with
      | none => exact Nat.zero_le _
      | some o =>
        rw [he] at h
        exact absurd h (by simp [ER.of])
    · exact Nat.zero_le _
theorem iEch_no (r c : Int) (a : Option Addr) (m : Nat) (xs : List Int) (w : World) (h : Rd w a xs) (hn : xs.length ≤ 16777216) (hm : isMat r c xs = false) :
    Calls Try.prog 15 #[.agg #[.int .i64 r, .int .i64 c, .slice a xs.length m]] w (EchG w ER.no) := by
  have IM : Hid (∀ w', Below w.heap.size w w' → Calls Try.prog 49 #[.agg #[.int .i64 r, .int .i64 c, .slice a xs.length m]] w' (Gives (.bool false) w')) := fun w' hb => by
    have := iIsMat r c a m xs w' (h.below hb) hn
    rw [hm] at this
    exact this
  clear h hn hm
  generalize xs.length = L at IM ⊢
  go_enter Try.func15, Try.ntmps15
  go_upto_region 1 with fail
  have K0 : Hid (Blk3 ((w.alloc (.cells #[.int .i64 r, .int .i64 c, .slice a L m] 26)).alloc (.cells #[.int .i64 0, .int .i64 0, .slice none 0 0] 26)) w.heap.size 26 (.int .i64 r) (.int .i64 c) (.slice a L m)) := (Blk3.at_ _ _ _ _ rfl).old _
  have R0 : Hid (Blk3 ((w.alloc (.cells #[.int .i64 r, .int .i64 c, .slice a L m] 26)).alloc (.cells #[.int .i64 0, .int .i64 0, .slice none 0 0] 26)) (w.heap.size + 1) 26 (.int .i64 0) (.int .i64 0) (.slice none 0 0)) := Blk3.at_ _ _ _ _ (by simp)
  have B0 : Hid (Below w.heap.size w ((w.alloc (.cells #[.int .i64 r, .int .i64 c, .slice a L m] 26)).alloc (.cells #[.int .i64 0, .int .i64 0, .slice none 0 0] 26))) := ((Below.refl _ _).alloc (Nat.le_refl _) _).alloc (by simp) _
  have S0 : Hid (((w.alloc (.cells #[.int .i64 r, .int .i64 c, .slice a L m] 26)).alloc (.cells #[.int .i64 0, .int .i64 0, .slice none 0 0] 26)).heap.size = w.heap.size + 2) := by show _ = _; simp
  generalize (w.alloc (.cells #[.int .i64 r, .int .i64 c, .slice a L m] 26)).alloc (.cells #[.int .i64 0, .int .i64 0, .slice none 0 0] 26) = W0 at K0 R0 B0 S0 ⊢
  obtain ⟨p0, p1, p2, -, -, -⟩ := K0.out.all
  go_wp2_with fail
  refine (IM.out _ B0.out).mono ?_
  rintro e w1 ⟨rfl, hb⟩
  have s0 := S0.out
  have sb := hb.size
  have R1 := Lib.hid (R0.out.step hb)
  have B1 := Lib.hid (B0.out.trans (hb.mono (by omega)))
  clear hb K0 R0 B0 S0 p0 p1 p2
  obtain ⟨r0, r1, r2, f0, f1, f2⟩ := R1.out.all
  go_wp2_with fail
  obtain ⟨E0, E1, E2, -, -, -⟩ := (((R1.out.set0 (.int .i64 0)).set1 (.int .i64 0)).set2 (.slice none 0 0)).all
  refine bodyPost_ret (v := .tuple #[.agg #[.int .i64 0, .int .i64 0, .slice none 0 0], .slice none 0 0, .bool false]) (by simp [results, Try.results15, go_sem, E0, E1, E2]) rfl ?_
  exact ⟨_, _, rfl, .inl ⟨rfl, rfl⟩, .inl ⟨rfl, rfl⟩, fun k hk => by simp [Value.ownBlock] at hk, ((B1.out.setCell (by simp) _).setCell (by simp) _).setCell (by simp) _⟩
theorem iEchelonOf (r c : Int) (a : Option Addr) (m : Nat) (xs : List Int) (w : World) (h : Rd w a xs) (hn : xs.length ≤ 16777216) :
    Calls Try.prog 15 #[.agg #[.int .i64 r, .int .i64 c, .slice a xs.length m]] w (EchG w (echR r c xs)) := by
  rcases Bool.eq_false_or_eq_true (isMat r c xs) with hm | hm
  · obtain ⟨⟨r0, r1⟩, ⟨c0, c1⟩, hl, nx⟩ := isMat_says hm
    unfold echR
    rw [if_pos hm]
    obtain ⟨R, rfl⟩ := Int.eq_ofNat_of_zero_le r0
    obtain ⟨C, rfl⟩ := Int.eq_ofNat_of_zero_le c0
    exact (iEch R C xs.length a m xs w h rfl (by rw [← Int.natCast_mul] at hl; omega) (by omega) (by omega) nx hm).mono fun _ _ h => h.g
  · unfold echR
    rw [if_neg (by rw [hm]; decide)]
    exact iEch_no r c a m xs w h hn hm
theorem iRankOf (r c : Int) (a : Option Addr) (m : Nat) (xs : List Int) (w : World) (h : Rd w a xs) (hn : xs.length ≤ 16777216) :
    Calls Try.prog 23 #[.agg #[.int .i64 r, .int .i64 c, .slice a xs.length m]] w (Gives (.tuple #[.int .i64 ((echR r c xs).pv.length : Int), .bool (echR r c xs).ok]) w) := by
  have EC : Hid (∀ w', Below w.heap.size w w' → Calls Try.prog 15 #[.agg #[.int .i64 r, .int .i64 c, .slice a xs.length m]] w' (EchG w' (echR r c xs))) := fun w' hb => iEchelonOf r c a m xs w' (h.below hb) hn
  generalize echR r c xs = RES at EC ⊢
  clear h hn
  generalize xs.length = L at EC ⊢
  have B0 : Hid (Below w.heap.size w (w.alloc (.cells #[.int .i64 r, .int .i64 c, .slice a L m] 26))) := (Below.refl _ _).alloc (Nat.le_refl _) _
  go_enter Try.func23, Try.ntmps23
  go_wp2_with fail
  refine (EC.out _ B0.out).mono ?_
  rintro e w2 ⟨va, vb, rfl, oa, ob, hd, hb⟩
  obtain ⟨qa, ca, hva, -, -⟩ := oa.form
  obtain ⟨qb, cb, hvb, -, -⟩ := ob.form
  subst hva hvb
  have sb := hb.size
  simp at sb
  have B1 := Lib.hid (B0.out.trans (hb.mono (by simp)))
  clear hb oa ob hd
  have B2 := Lib.hid (B1.out.alloc B1.out.size (.cells #[.int .i64 RES.r, .int .i64 RES.c, .slice qa RES.zs.length ca] 26))
  go_wp2_with fail
  exact bodyPost_ret (v := .tuple #[.int .i64 (RES.pv.length : Int), .bool RES.ok]) (by simp [results, Try.results23, go_sem]) rfl ⟨rfl, B2.out⟩
end Go.Proofs.Ytbdofgkcedpamaa
