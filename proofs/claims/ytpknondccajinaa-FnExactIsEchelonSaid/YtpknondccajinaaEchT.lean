/-
  Chapter 7, in the model: EchelonOf, RankOf.
-/
import Derived.Test.YtpknondccajinaaEchS
import Derived.Test.YtpknondccajinaaStp
namespace Go.Proofs.Ytpknondccajinaa
set_option maxRecDepth 100000
open Go.RowKit

/-- What EchelonOf gives: a matrix, its pivots, whether there is such a form in range. -/
structure ER where
  r : Int
  c : Int
  zs : List Int
  pv : List Int
  ok : Bool
def ER.no : ER := ⟨0, 0, [], [], false⟩
def ER.of (r c : Int) : Option (List Int × List Nat) → ER
  | some (ys, pv) => ⟨r, c, ys, pvI pv, true⟩
  | none => ER.no
def echR (r c : Int) (xs : List Int) : ER := if isMat r c xs = true then ER.of r c (echM r.toNat c.toNat xs) else ER.no
def EchG (w : World) (R : ER) (e : Ending) (w' : World) : Prop :=
  ∃ (va vb : Value), e = .returned (.tuple #[.agg #[.int .i64 R.r, .int .i64 R.c, va], vb, .bool R.ok]) ∧ Own w.heap.size w' va R.zs ∧ Own w.heap.size w' vb R.pv ∧ (∀ k, va.ownBlock = some k → vb.ownBlock ≠ some k) ∧ Below w.heap.size w w'
theorem EchP.g {w : World} {r c : Nat} {o : Option (List Int × List Nat)} {e : Ending} {w' : World} (h : EchP w r c o e w') : EchG w (ER.of r c o) e w' := by
  rcases h with ⟨va, vb, ys, pv, rfl, rfl, h1, h2, h3, h4⟩ | ⟨vb, rfl, rfl, h2, h4⟩
  · exact ⟨va, vb, rfl, h1, h2, h3, h4⟩
  · exact ⟨_, vb, rfl, .inl ⟨rfl, rfl⟩, h2, fun k hk => by simp [Value.ownBlock] at hk, h4⟩
theorem Own.far' {B : Nat} {w : World} {v : Value} {zs : List Int} (h : Own B w v zs) {a : Addr} (ha : a.block < B) (u : Value) : Own B (w.setCell a u) v zs := by
  rcases h with h | ⟨g, cap, hv, hB, hi, hl, hc⟩
  · exact .inl h
  · exact .inr ⟨g, cap, hv, hB, hi.far (by omega) u, hl, hc⟩
theorem Own.far3' {B b : Nat} {w : World} {v : Value} {zs : List Int} (h : Own B w v zs) (hb : b < B) (x y z : Value) : Own B (((w.setCell ⟨b, 0, none⟩ x).setCell ⟨b, 1, none⟩ y).setCell ⟨b, 2, none⟩ z) v zs :=
  ((h.far' (a := ⟨b, 0, none⟩) hb x).far' (a := ⟨b, 1, none⟩) hb y).far' (a := ⟨b, 2, none⟩) hb z
set_option maxHeartbeats 2000000 in
theorem sEchelonOf (r c : Int) (a : Option Addr) (m : Nat) (xs : List Int) (w : World) (h : Rd w a xs) (hn : xs.length ≤ 16777216) (ha : Spot a) :
    Calls Try.prog 12 #[.agg #[.int .i64 r, .int .i64 c, .slice a xs.length m]] w (EchG w (echR r c xs)) := by
  have IM : Hid (∀ w', Below w.heap.size w w' → Calls Try.prog 44 #[.agg #[.int .i64 r, .int .i64 c, .slice a xs.length m]] w' (Gives (.bool (isMat r c xs)) w')) := fun w' hb => sIsMat r c a m xs w' (h.below hb) hn
  have EC : Hid (isMat r c xs = true → ∀ w', Below w.heap.size w w' → Calls Try.prog 45 #[.agg #[.int .i64 r, .int .i64 c, .slice a xs.length m]] w' (EchG w' (echR r c xs))) := fun hm w' hb => by
    obtain ⟨⟨r0, r1⟩, ⟨c0, c1⟩, hl, nx⟩ := isMat_says hm
    unfold echR
    rw [if_pos hm]
    obtain ⟨R, rfl⟩ := Int.eq_ofNat_of_zero_le r0
    obtain ⟨C, rfl⟩ := Int.eq_ofNat_of_zero_le c0
    exact (sEch R C xs.length a m xs w' (h.below hb) ha rfl (by rw [← Int.natCast_mul] at hl; omega) (by omega) (by omega) nx).mono fun _ _ h => h.g
  have NO : Hid (isMat r c xs = false → echR r c xs = ER.no) := fun hm => by unfold echR; rw [if_neg (by rw [hm]; decide)]
  generalize isMat r c xs = ok at IM EC NO
  generalize echR r c xs = RES at EC NO ⊢
  clear h hn ha
  generalize xs.length = L at IM EC ⊢
  go_enter Try.func12, Try.ntmps12
  go_upto_region 1 with fail
  have K0 : Hid (Blk3 ((w.alloc (.cells #[.int .i64 r, .int .i64 c, .slice a L m] 26)).alloc (.cells #[.int .i64 0, .int .i64 0, .slice none 0 0] 26)) w.heap.size 26 (.int .i64 r) (.int .i64 c) (.slice a L m)) := (Blk3.at_ _ _ _ _ rfl).old _
  have R0 : Hid (Blk3 ((w.alloc (.cells #[.int .i64 r, .int .i64 c, .slice a L m] 26)).alloc (.cells #[.int .i64 0, .int .i64 0, .slice none 0 0] 26)) (w.heap.size + 1) 26 (.int .i64 0) (.int .i64 0) (.slice none 0 0)) := Blk3.at_ _ _ _ _ (by simp)
  have B0 : Hid (Below w.heap.size w ((w.alloc (.cells #[.int .i64 r, .int .i64 c, .slice a L m] 26)).alloc (.cells #[.int .i64 0, .int .i64 0, .slice none 0 0] 26))) := ((Below.refl _ _).alloc (Nat.le_refl _) _).alloc (by simp) _
  have S0 : Hid (((w.alloc (.cells #[.int .i64 r, .int .i64 c, .slice a L m] 26)).alloc (.cells #[.int .i64 0, .int .i64 0, .slice none 0 0] 26)).heap.size = w.heap.size + 2) := by show _ = _; simp
  generalize (w.alloc (.cells #[.int .i64 r, .int .i64 c, .slice a L m] 26)).alloc (.cells #[.int .i64 0, .int .i64 0, .slice none 0 0] 26) = W0 at K0 R0 B0 S0 ⊢
  obtain ⟨p0, p1, p2, -, -, -⟩ := K0.out.all
  go_wp2_with fail
  refine (IM.out _ B0.out).mono ?_
  rintro e w1 ⟨rfl, hb⟩
  have s0 := S0.out
  have sb := hb.size
  have K1 := Lib.hid (K0.out.step hb)
  have R1 := Lib.hid (R0.out.step hb)
  have B1 := Lib.hid (B0.out.trans (hb.mono (by omega)))
  clear hb K0 R0 B0 S0 p0 p1 p2
  obtain ⟨p0, p1, p2, -, -, -⟩ := K1.out.all
  cases ok with
  | false =>
    have RN := Lib.hid (NO.out rfl)
    clear p0 p1 p2
    obtain ⟨r0, r1, r2, f0, f1, f2⟩ := R1.out.all
    obtain ⟨e0, e1, e2, l0, l1, l2⟩ := (R1.out.old (.cells #[] 3)).all
    go_wp2_with fail
    obtain ⟨E0, E1, E2, -, -, -⟩ := ((((R1.out.old (.cells #[] 3)).set0 (.int .i64 0)).set1 (.int .i64 0)).set2 (.slice none 0 0)).all
    refine bodyPost_ret (v := .tuple #[.agg #[.int .i64 0, .int .i64 0, .slice none 0 0], .slice (some ⟨w1.heap.size, 0, none⟩) 0 0, .bool false]) (by simp [results, Try.results12, go_sem, E0, E1, E2]) rfl ?_
    rw [RN.out]
    refine ⟨_, _, rfl, .inl ⟨rfl, rfl⟩, ?_, fun k hk => by simp [Value.ownBlock] at hk, ?_⟩
    · exact (((OwnQ.none_ (B := w1.heap.size) (Nat.le_refl _) ⟨Nat.zero_le _, [], rfl, heap_alloc_new w1 _⟩).own (by simp)).far3' (b := w.heap.size + 1) (by omega) _ _ _).le (by omega)
    · exact (((B1.out.alloc B1.out.size _).setCell (by simp) _).setCell (by simp) _).setCell (by simp) _
  | true =>
    go_wp2_with fail
    refine (EC.out trivial _ B1.out).mono ?_
    rintro e w2 ⟨va, vb, rfl, oa, ob, hd, hb⟩
    obtain ⟨qa, ca, hva, -, -⟩ := oa.form
    subst hva
    have sb2 := hb.size
    have R2 := Lib.hid ((R1.out.step hb).old (.cells #[.int .i64 RES.r, .int .i64 RES.c, .slice qa RES.zs.length ca] 26))
    have B2 := Lib.hid (B1.out.trans (hb.mono (by omega)))
    have A2 : Hid (Blk3 (w2.alloc (.cells #[.int .i64 RES.r, .int .i64 RES.c, .slice qa RES.zs.length ca] 26)) w2.heap.size 26 (.int .i64 RES.r) (.int .i64 RES.c) (.slice qa RES.zs.length ca)) := Blk3.at_ _ _ _ _ rfl
    have OA := Lib.hid (oa.keep ((Below.refl _ _).alloc (Nat.le_refl _) (.cells #[.int .i64 RES.r, .int .i64 RES.c, .slice qa RES.zs.length ca] 26)))
    have OB := Lib.hid (ob.keep ((Below.refl _ _).alloc (Nat.le_refl _) (.cells #[.int .i64 RES.r, .int .i64 RES.c, .slice qa RES.zs.length ca] 26)))
    have B3 := Lib.hid (B2.out.alloc B2.out.size (.cells #[.int .i64 RES.r, .int .i64 RES.c, .slice qa RES.zs.length ca] 26))
    have HD := Lib.hid hd
    clear hb oa ob hd p0 p1 p2 K1
    go_upto_region 4 with fail
    generalize w2.alloc (.cells #[.int .i64 RES.r, .int .i64 RES.c, .slice qa RES.zs.length ca] 26) = W3 at R2 A2 OA OB B3 ⊢
    obtain ⟨p0, p1, p2, -, -, -⟩ := A2.out.all
    obtain ⟨r0, r1, r2, f0, f1, f2⟩ := R2.out.all
    go_wp2_with fail
    obtain ⟨E0, E1, E2, -, -, -⟩ := (((R2.out.set0 (.int .i64 RES.r)).set1 (.int .i64 RES.c)).set2 (.slice qa RES.zs.length ca)).all
    refine bodyPost_ret (v := .tuple #[.agg #[.int .i64 RES.r, .int .i64 RES.c, .slice qa RES.zs.length ca], vb, .bool RES.ok]) (by simp [results, Try.results12, go_sem, E0, E1, E2]) rfl ?_
    refine ⟨_, vb, rfl, ?_, ?_, HD.out, ?_⟩
    · exact (OA.out.far3' (b := w.heap.size + 1) (by omega) _ _ _).le (by omega)
    · exact (OB.out.far3' (b := w.heap.size + 1) (by omega) _ _ _).le (by omega)
    · exact ((B3.out.setCell (by simp) _).setCell (by simp) _).setCell (by simp) _
end Go.Proofs.Ytpknondccajinaa
