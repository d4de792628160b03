/-
  Chapter 7, in the model: RankOf.
-/
import Derived.Test.YtbdofgkcedpamaaEchT
namespace Go.Proofs.Ytbdofgkcedpamaa
set_option maxRecDepth 100000
open Go.RowKit

theorem sRankOf (r c : Int) (a : Option Addr) (m : Nat) (xs : List Int) (w : World) (h : Rd w a xs) (hn : xs.length ≤ 16777216) (ha : Spot a) :
    Calls Try.prog 22 #[.agg #[.int .i64 r, .int .i64 c, .slice a xs.length m]] w (Gives (.tuple #[.int .i64 ((echR r c xs).pv.length : Int), .bool (echR r c xs).ok]) w) := by
  have EC : Hid (∀ w', Below w.heap.size w w' → Calls Try.prog 13 #[.agg #[.int .i64 r, .int .i64 c, .slice a xs.length m]] w' (EchG w' (echR r c xs))) := fun w' hb => sEchelonOf r c a m xs w' (h.below hb) hn ha
  generalize echR r c xs = RES at EC ⊢
  clear h hn ha
  generalize xs.length = L at EC ⊢
  have B0 : Hid (Below w.heap.size w (w.alloc (.cells #[.int .i64 r, .int .i64 c, .slice a L m] 26))) := (Below.refl _ _).alloc (Nat.le_refl _) _
  go_enter Try.func22, Try.ntmps22
  go_wp2_with fail
  refine (EC.out _ B0.out).mono ?_
  rintro e w2 ⟨va, vb, rfl, oa, ob, hd, hb⟩
  obtain ⟨qa, ca, hva, -, -⟩ := oa.form
  obtain ⟨qb, cb, hvb, -, -⟩ := ob.form
  subst hva hvb
  have sb := hb.size
  simp at sb
  have B1 := Lib.hid (B0.out.trans (hb.mono (by simp)))
  clear hb oa ob hd
  have B2 := Lib.hid (B1.out.alloc B1.out.size (.cells #[.int .i64 RES.r, .int .i64 RES.c, .slice qa RES.zs.length ca] 26))
  go_wp2_with fail
  exact bodyPost_ret (v := .tuple #[.int .i64 (RES.pv.length : Int), .bool RES.ok]) (by simp [results, Try.results22, go_sem]) rfl ⟨rfl, B2.out⟩
end Go.Proofs.Ytbdofgkcedpamaa
