/-
  Texts of this seat, joined: DrawU
-/
import Derived.Test.YtdnajkoeojlnbaaPk6

section
/-
  The drawing of matrices that are unimodular, or square, or spoilt.
-/
namespace Go.Proofs.Ytdnajkoeojlnbaa
set_option maxRecDepth 100000
open Go.RowKit

set_option maxRecDepth 100000 in
set_option maxHeartbeats 1000000 in
theorem l6Draw (w : World) (a : Option Addr) (len cap : Nat) (hc : CodeIn w a len) : Calls Try.prog 97 #[.slice a len cap] w (AnyMat w) := by
  have HC := Lib.hid hc
  clear hc
  go_enter Try.func97, Try.ntmps97
  go_wp2_with fail
  refine (l1New _ a len cap (HC.out.below ((Below.refl _ _).alloc (Nat.le_refl _) _))).mono ?_
  rintro e w1 ⟨cb, rfl, hcb, hc1, hb1⟩
  have CB : w.heap.size < cb := by simp at hcb; omega
  have K2 : Hid (Blk3 w1 w.heap.size 27 (.int .i64 0) (.int .i64 0) (.slice none 0 0)) := (Blk3.at_ _ _ _ _ rfl).keep hb1 (by simp)
  have F1 : Hid (FrS (fun k => w.heap.size ≤ k) w w1) := ((FrS.refl _ w).alloc _).trans (FrS.of_below hb1)
  have C1 := Lib.hid hc1
  clear hcb hc1 hb1
  go_wp2_with fail
  refine (l1Once _ cb 3 C1.out (by omega)).mono ?_
  rintro e w2 ⟨b, rfl, hc2, hg2⟩
  have K2 := Lib.hid (K2.out.keepOne hg2 (by omega))
  have F2 := Lib.hid (F1.out.trans (FrS.of_one hg2 (by omega)))
  have C2 := Lib.hid hc2
  clear hc2 hg2 F1 C1
  have s2 := F2.out.size
  have lk := K2.out.lt
  cases b with
  | true =>
    go_wp2_with fail
    refine (l3Square _ cb C2.out).mono ?_
    rintro e w3 ⟨r, c, v, xs, rfl, own, hl, hc3, hf⟩
    have K2 := Lib.hid (K2.out.frs hf (by omega))
    have F3 := Lib.hid (F2.out.trans (hf.mono2 (q := fun k => w.heap.size ≤ k) (fun k _ hk => by omega)))
    obtain ⟨q, qc, rfl, en⟩ := AnyMat.end_ (w := w) (r := r) (c := c) own (by omega) K2.out (by omega) (Nat.le_refl _) F3.out (fun k hk => hk)
    have EN := Lib.hid en
    clear own hc3 hf en
    obtain ⟨y0, y1, y2, y3, y4, y5⟩ := K2.out.all
    go_wp2_with fail
    obtain ⟨E0, E1, E2, -, -, -⟩ := (((K2.out.set0 (.int .i64 r)).set1 (.int .i64 c)).set2 (.slice q xs.length qc)).all
    exact bodyPost_ret (v := .agg #[.int .i64 r, .int .i64 c, .slice q xs.length qc]) (by simp [results, Try.results97, go_sem, E0, E1, E2]) rfl EN.out
  | false =>
    go_wp2_with fail
    refine (l1Below _ cb 5 C2.out (by omega)).mono ?_
    rintro e w3 ⟨n, ⟨n0, n1⟩, rfl, hc3, hg3⟩
    obtain ⟨n, rfl⟩ := Int.eq_ofNat_of_zero_le n0
    have K2 := Lib.hid (K2.out.keepOne hg3 (by omega))
    have F3 := Lib.hid (F2.out.trans (FrS.of_one hg3 (by omega)))
    have C3 := Lib.hid hc3
    have s3 := F3.out.size
    clear hc3 hg3
    go_wp2_with fail
    refine (l6Uni _ cb n C3.out (by omega)).mono ?_
    rintro e w4 ⟨g, zs, rfl, hg, hz, hi, hc4, hf4⟩
    have hle : n * n ≤ 4 * 4 := Nat.mul_le_mul (show n ≤ 4 by omega) (show n ≤ 4 by omega)
    have lk3 := K2.out.lt
    have K2 := Lib.hid (K2.out.frs hf4 (by omega))
    have F4 := Lib.hid (F3.out.trans (hf4.mono2 (q := fun k => w.heap.size ≤ k) (fun k _ hk => by omega)))
    have C4 := Lib.hid hc4
    have s4 := hf4.size
    have gl := hi.lt
    have I4 := Lib.hid hi
    have c3 := C3.out.lt
    have hg : cb + 1 ≤ g := by omega
    obtain ⟨N, hN⟩ : ∃ N, n * n = N := ⟨_, rfl⟩
    rw [hN] at I4 hz hle ⊢
    have HZ := Lib.hid hz
    clear hi hc4 hf4 hN hz
    go_wp2_with fail
    refine (l3Spoil _ cb (cb + 1) g N N n n zs C4.out (by omega) (by omega) hg I4.out HZ.out (by omega)).mono ?_
    rintro e w9 ⟨r, c, v, xs, rfl, own, hl, hc9, hf⟩
    have lk9 := K2.out.lt
    have K2 := Lib.hid (K2.out.frs hf (by omega))
    have F9 := Lib.hid (F4.out.trans (hf.mono2 (q := fun k => w.heap.size ≤ k) (fun k _ hk => by omega)))
    obtain ⟨q, qc, rfl, en⟩ := AnyMat.end_ (w := w) (r := r) (c := c) own (by omega) K2.out (by omega) (Nat.le_refl _) F9.out (fun k hk => hk)
    have EN := Lib.hid en
    clear own hc9 hf en
    obtain ⟨y0, y1, y2, y3, y4, y5⟩ := K2.out.all
    go_wp2_with fail
    obtain ⟨E0, E1, E2, -, -, -⟩ := (((K2.out.set0 (.int .i64 r)).set1 (.int .i64 c)).set2 (.slice q xs.length qc)).all
    exact bodyPost_ret (v := .agg #[.int .i64 r, .int .i64 c, .slice q xs.length qc]) (by simp [results, Try.results97, go_sem, E0, E1, E2]) rfl EN.out
set_option maxRecDepth 100000 in
set_option maxHeartbeats 1000000 in
theorem drawUni (w : World) (a : Option Addr) (len cap : Nat) (hc : CodeIn w a len) : Calls Try.prog 47 #[.slice a len cap] w (AnyMat w) := by
  have HC := Lib.hid hc
  clear hc
  go_enter Try.func47, Try.ntmps47
  go_wp2_with fail
  refine (l6Draw _ a len cap (HC.out.below ((Below.refl _ _).alloc (Nat.le_refl _) _))).mono ?_
  rintro e w1 ⟨r, c, q, qc, xs, rfl, own, hl, hb⟩
  have K2 : Hid (Blk3 w1 w.heap.size 27 (.int .i64 0) (.int .i64 0) (.slice none 0 0)) := (Blk3.at_ _ _ _ _ rfl).keep hb (by simp)
  have B : Hid (Below w.heap.size w w1) := ((Below.refl _ _).alloc (Nat.le_refl _) _).trans (hb.mono (by simp))
  have O := Lib.hid own
  have HL := Lib.hid hl
  clear hb own hl
  obtain ⟨y0, y1, y2, y3, y4, y5⟩ := K2.out.all
  go_wp2_with fail
  obtain ⟨E0, E1, E2, -, -, -⟩ := (((K2.out.set0 (.int .i64 r)).set1 (.int .i64 c)).set2 (.slice q xs.length qc)).all
  refine bodyPost_ret (v := .agg #[.int .i64 r, .int .i64 c, .slice q xs.length qc]) (by simp [results, Try.results47, go_sem, E0, E1, E2]) rfl ⟨r, c, q, qc, xs, rfl, ?_, HL.out, ?_⟩
  · exact (((O.out.far (by simp) _).far (by simp) _).far (by simp) _).le (by simp)
  · exact ((B.out.setCell (Nat.le_refl _) _).setCell (Nat.le_refl _) _).setCell (Nat.le_refl _) _
set_option maxRecDepth 100000 in
set_option maxHeartbeats 1000000 in
theorem drawInv (w : World) (a : Option Addr) (len cap : Nat) (hc : CodeIn w a len) : Calls Try.prog 49 #[.slice a len cap] w (AnyMat w) := by
  have HC := Lib.hid hc
  clear hc
  go_enter Try.func49, Try.ntmps49
  go_wp2_with fail
  refine (l6Draw _ a len cap (HC.out.below ((Below.refl _ _).alloc (Nat.le_refl _) _))).mono ?_
  rintro e w1 ⟨r, c, q, qc, xs, rfl, own, hl, hb⟩
  have K2 : Hid (Blk3 w1 w.heap.size 27 (.int .i64 0) (.int .i64 0) (.slice none 0 0)) := (Blk3.at_ _ _ _ _ rfl).keep hb (by simp)
  have B : Hid (Below w.heap.size w w1) := ((Below.refl _ _).alloc (Nat.le_refl _) _).trans (hb.mono (by simp))
  have O := Lib.hid own
  have HL := Lib.hid hl
  clear hb own hl
  obtain ⟨y0, y1, y2, y3, y4, y5⟩ := K2.out.all
  go_wp2_with fail
  obtain ⟨E0, E1, E2, -, -, -⟩ := (((K2.out.set0 (.int .i64 r)).set1 (.int .i64 c)).set2 (.slice q xs.length qc)).all
  refine bodyPost_ret (v := .agg #[.int .i64 r, .int .i64 c, .slice q xs.length qc]) (by simp [results, Try.results49, go_sem, E0, E1, E2]) rfl ⟨r, c, q, qc, xs, rfl, ?_, HL.out, ?_⟩
  · exact (((O.out.far (by simp) _).far (by simp) _).far (by simp) _).le (by simp)
  · exact ((B.out.setCell (Nat.le_refl _) _).setCell (Nat.le_refl _) _).setCell (Nat.le_refl _) _
end Go.Proofs.Ytdnajkoeojlnbaa
end
