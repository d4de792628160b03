/-
  Chapter 4, in the program: the reader's ratio, readAll over ratios, ParseRatio.
-/
import Derived.Test.YtihgcccdahmmmaaDoorRead1
import Derived.Test.YtihgcccdahmmmaaDoorRatI2
import Derived.Defers
import Derived.Recover
namespace Go.Proofs.YtihgcccdahmmmaaDoor
open Go.RowKit
open Go.Lib (decDigits itoa nDigits)

/-- The reader has read a value and gone on, or the call ends in its panic. -/
def WentO (rb : Nat) (o : Option (Value × List UInt8)) (w : World) (e : Ending) (w' : World) : Prop :=
  w.grownBy w' (some rb) ∧ match o with | some (v, l') => e = .returned v ∧ Rdr w' rb l' | none => Boom e
/-- What the reader's ratio is, and what is left of the text. -/
noncomputable def goR1 (s : List UInt8) : Option (Value × List UInt8) :=
  if (numT (headN s)).2 = true then
    if tailN s = [] then some (ratV ((numT (headN s)).1, 1), [])
    else if Lib.hasPrefix (tailN s) [47] = true then
      if (numT (headN (Lib.trimPrefix (tailN s) [47]))).2 = true then
        if isRat (numT (headN s)).1 (numT (headN (Lib.trimPrefix (tailN s) [47]))).1 = true ∧ (numT (headN (Lib.trimPrefix (tailN s) [47]))).1 ≠ 1 then
          some (ratV ((numT (headN s)).1, (numT (headN (Lib.trimPrefix (tailN s) [47]))).1), tailN (Lib.trimPrefix (tailN s) [47]))
        else none
      else none
    else none
  else none

theorem goR1_at (l : List UInt8) (n d : Int) (ok1 hp ok2 : Bool) (t q t2 : List UInt8) (hn : (numT (headN l)).1 = n) (h1 : (numT (headN l)).2 = ok1) (ht : tailN l = t) (hq : Lib.trimPrefix t [47] = q) (hh : Lib.hasPrefix t [47] = hp) (hd : (numT (headN q)).1 = d) (h2 : (numT (headN q)).2 = ok2) (ht2 : tailN q = t2) :
    goR1 l = if ok1 = true then if t = [] then some (ratV (n, 1), []) else if hp = true then if ok2 = true then if isRat n d = true ∧ d ≠ 1 then some (ratV (n, d), t2) else none else none else none else none := by
  unfold goR1
  rw [hn, h1, ht, hq, hh, hd, h2, ht2]
theorem wentO_no {rb : Nat} {o : Option (Value × List UInt8)} {w w' : World} {e : Ending} (h : o = none) (g : w.grownBy w' (some rb)) (he : Boom e) : WentO rb o w e w' := ⟨g, by rw [h]; exact he⟩
theorem wentO_yes {rb : Nat} {o : Option (Value × List UInt8)} {v : Value} {l' : List UInt8} {w w' : World} {e : Ending} (h : o = some (v, l')) (g : w.grownBy w' (some rb)) (he : e = .returned v) (hr : Rdr w' rb l') : WentO rb o w e w' := ⟨g, by rw [h]; exact ⟨he, hr⟩⟩
theorem grown_alloc_one {w w' : World} {row : Option Nat} (h : w.grownBy w' row) (o : Obj) : w.grownBy (w'.alloc o) row :=
  h.trans (World.grownBy_alloc w' o row)

set_option maxHeartbeats 1000000 in
theorem iRatioR (rb : Nat) (l : List UInt8) (w : World) (h : Rdr w rb l) (hl : l.length ≤ 16777216) (tb : Tab w) (hr : 1 < rb) :
    Calls Tryd.prog 52 #[.pointer (some ⟨rb, 0, none⟩)] w (WentO rb (goR1 l) w) := by
  have hlt := Blk1.lt h
  have NU := iNumber rb l (w.alloc (.cells #[.int .i64 0, .int .i64 0] 35)) (Blk1.old h _) hl (tb.below ((Below.refl _ _).alloc (Nat.le_refl _) _))
  have TB := Lib.hid (tb.below ((Below.refl _ _).alloc (Nat.le_refl _) (.cells #[.int .i64 0, .int .i64 0] 35)))
  obtain ⟨o, ho⟩ : ∃ o, goR1 l = o := ⟨_, rfl⟩
  obtain ⟨n, hn⟩ : ∃ o, (numT (headN l)).1 = o := ⟨_, rfl⟩
  obtain ⟨ok1, h1⟩ : ∃ o, (numT (headN l)).2 = o := ⟨_, rfl⟩
  obtain ⟨t, ht⟩ : ∃ o, tailN l = o := ⟨_, rfl⟩
  obtain ⟨q, hq⟩ : ∃ o, Lib.trimPrefix t [47] = o := ⟨_, rfl⟩
  obtain ⟨hp, hh⟩ : ∃ o, Lib.hasPrefix t [47] = o := ⟨_, rfl⟩
  obtain ⟨d, hd⟩ : ∃ o, (numT (headN q)).1 = o := ⟨_, rfl⟩
  obtain ⟨ok2, h2⟩ : ∃ o, (numT (headN q)).2 = o := ⟨_, rfl⟩
  obtain ⟨t2, ht2⟩ : ∃ o, tailN q = o := ⟨_, rfl⟩
  have HO := Lib.hid (ho.symm.trans (goR1_at l n d ok1 hp ok2 t q t2 hn h1 ht hq hh hd h2 ht2))
  have lq : q.length ≤ 16777216 := by
    have := trimPrefix_len t [47]
    have := tailN_len l
    rw [hq] at *
    rw [ht] at *
    omega
  have WO : ∀ w, Rdr w rb t → Calls Tryd.prog 74 #[.pointer (some ⟨rb, 0, none⟩), .string ⟨#[47]⟩] w (Went rb (.tuple #[]) q hp w) := fun w h => by
    rw [← hq, ← hh]; exact iWord rb t [47] w h
  have N2 : ∀ w, Rdr w rb q → Tab w → Calls Tryd.prog 75 #[.pointer (some ⟨rb, 0, none⟩)] w (Went rb (.int .i64 d) t2 ok2 w) := fun w h tb => by
    rw [← hd, ← h2, ← ht2]; exact iNumber rb q w h lq tb
  rw [ho]
  rw [hn, h1, ht] at NU
  have WOH := Lib.hid WO
  have N2H := Lib.hid N2
  have LT := Lib.hid hlt
  have HR := Lib.hid hr
  have hne : w.heap.size ≠ rb := by omega
  clear ho hn h1 ht hq hh hd h2 ht2 h tb hl lq WO N2 hlt hr
  go_enter Tryd.func52, Tryd.ntmps52
  go_wp2_with fail
  refine NU.mono ?_
  clear NU
  rintro e w1 ⟨g1, h1⟩
  have G1 : Hid ((w.alloc (.cells #[.int .i64 0, .int .i64 0] 35)).grownBy w1 (some rb)) := Lib.hid g1
  have GW1 : Hid (w.grownBy w1 (some rb)) := Lib.hid ((World.grownBy_alloc w _ _).trans g1)
  have K1 : Hid (Blk2 w1 w.heap.size 35 (.int .i64 0) (.int .i64 0)) := Blk2.keepOne (Blk2.at_ _ _ _ rfl) g1 hne
  clear g1
  cases ok1 with
  | false =>
    have E : Hid (o = none) := HO.out
    rw [if_neg (by decide)] at h1
    cases h1
    go_wp2_with fail
    exact ⟨rfl, wentO_no E.out GW1.out rfl⟩
  | true =>
    rw [if_pos rfl] at h1
    obtain ⟨rfl, r1⟩ := h1
    have R1 := Lib.hid r1
    have c1 := Blk1.cell0 r1
    clear r1
    by_cases ht : t = []
    · subst ht
      have E : Hid (o = some (ratV (n, 1), [])) := by rw [HO.out]; rfl
      obtain ⟨k0, k1, k2, k3⟩ := K1.out.all
      go_wp2_with fail
      have KF := (K1.out.set0 (.int .i64 n)).set1 (.int .i64 1)
      have e0 := KF.cell0
      have e1 := KF.cell1
      refine bodyPost_ret (v := ratV (n, 1)) (by simp [results, Tryd.results52, go_sem, ratV, e0, e1]) rfl ?_
      exact wentO_yes E.out (grown_set_new (grown_set_new GW1.out (by simp) _) (by simp) _) rfl (Blk1.far (Blk1.far R1.out hne.symm _) hne.symm _)
    · obtain ⟨c, s, rfl⟩ : ∃ c s, t = c :: s := by
        cases t with
        | nil => exact absurd rfl ht
        | cons c s => exact ⟨c, s, rfl⟩
      clear ht
      have HO2 : Hid (o = if hp = true then if ok2 = true then if isRat n d = true ∧ d ≠ 1 then some (ratV (n, d), t2) else none else none else none) := by rw [HO.out]; rfl
      have eq0 : ((c :: s : List UInt8) == []) = false := rfl
      go_wp2_with fail
      refine (WOH.out _ R1.out).mono ?_
      rintro e w2 ⟨g2, h2⟩
      have GW2 : Hid (w.grownBy w2 (some rb)) := Lib.hid (GW1.out.trans g2)
      have K2 : Hid (Blk2 w2 w.heap.size 35 (.int .i64 0) (.int .i64 0)) := Blk2.keepOne K1.out g2 hne
      have T2 : Hid (Tab w2) := gTab_lt_of TB.out (G1.out.trans g2) HR.out (by have := LT.out; simp; omega)
      clear g2
      cases hp with
      | false =>
        have E : Hid (o = none) := HO2.out
        rw [if_neg (by decide)] at h2
        cases h2
        go_wp2_with fail
        exact ⟨rfl, wentO_no E.out GW2.out rfl⟩
      | true =>
        rw [if_pos rfl] at h2
        obtain ⟨rfl, r2⟩ := h2
        go_wp2_with fail
        refine (N2H.out _ r2 T2.out).mono ?_
        rintro e w3 ⟨g3, h3⟩
        have GW3 : Hid (w.grownBy w3 (some rb)) := Lib.hid (GW2.out.trans g3)
        have K3 : Hid (Blk2 w3 w.heap.size 35 (.int .i64 0) (.int .i64 0)) := Blk2.keepOne K2.out g3 hne
        clear g3
        cases ok2 with
        | false =>
          have E : Hid (o = none) := HO2.out
          rw [if_neg (by decide)] at h3
          cases h3
          go_wp2_with fail
          exact ⟨rfl, wentO_no E.out GW3.out rfl⟩
        | true =>
          rw [if_pos rfl] at h3
          obtain ⟨rfl, r3⟩ := h3
          have R3 := Lib.hid r3
          clear r3
          have A3 : Hid (Blk2 (w3.alloc (.cells #[.int .i64 n, .int .i64 d] 35)) w3.heap.size 35 (.int .i64 n) (.int .i64 d)) := Blk2.at_ _ _ _ rfl
          have KA : Hid (Blk2 (w3.alloc (.cells #[.int .i64 n, .int .i64 d] 35)) w.heap.size 35 (.int .i64 0) (.int .i64 0)) := K3.out.old _
          have RA : Hid (Rdr (w3.alloc (.cells #[.int .i64 n, .int .i64 d] 35)) rb t2) := Blk1.old R3.out _
          have GA : Hid (w.grownBy (w3.alloc (.cells #[.int .i64 n, .int .i64 d] 35)) (some rb)) := grown_alloc_one GW3.out _
          have IS := iIsRat n d (w3.alloc (.cells #[.int .i64 n, .int .i64 d] 35))
          obtain ⟨b, hb⟩ : ∃ b, isRat n d = b := ⟨_, rfl⟩
          rw [hb] at IS
          have HB := Lib.hid hb
          clear hb
          have l3 : w.heap.size < w3.heap.size := K3.out.lt
          have l4 : rb < w3.heap.size := Blk1.lt R3.out
          go_wp2_with fail
          refine IS.mono ?_
          clear IS
          rintro e w4 ⟨rfl, b4⟩
          have A4 : Hid (Blk2 w4 w3.heap.size 35 (.int .i64 n) (.int .i64 d)) := A3.out.keep b4 (by simp)
          have K4 : Hid (Blk2 w4 w.heap.size 35 (.int .i64 0) (.int .i64 0)) := KA.out.keep b4 (by simp; omega)
          have R4 : Hid (Rdr w4 rb t2) := Blk1.keep RA.out b4 (by simp; omega)
          have G4 : Hid (w.grownBy w4 (some rb)) := GA.out.trans (grown_of_below b4 _)
          clear b4
          obtain ⟨a0, a1, a2, a3⟩ := A4.out.all
          obtain ⟨k0, k1, k2, k3⟩ := K4.out.all
          cases b with
          | false =>
            have E : Hid (o = none) := Lib.hid (by have h := HO2.out; simp only [if_true, HB.out] at h; rw [h]; simp)
            go_wp2_with fail
            refine (iNeed_f _ _).mono ?_
            rintro e w5 ⟨rfl, rfl⟩
            go_wp2_with fail
            exact ⟨rfl, wentO_no E.out G4.out rfl⟩
          | true =>
            by_cases hd1 : d = 1
            · subst hd1
              have E : Hid (o = none) := Lib.hid (by have h := HO2.out; simp only [if_true, HB.out] at h; rw [h]; simp)
              go_wp2_with fail
              refine (iNeed_f _ _).mono ?_
              rintro e w5 ⟨rfl, rfl⟩
              go_wp2_with fail
              exact ⟨rfl, wentO_no E.out G4.out rfl⟩
            · have E : Hid (o = some (ratV (n, d), t2)) := Lib.hid (by have h := HO2.out; simp only [if_true, HB.out] at h; rw [h]; simp [hd1])
              have dn : (d == 1) = false := by simpa using hd1
              have dn2 : (d != 1) = true := by simpa using hd1
              clear hd1
              go_wp2_with fail
              refine (iNeed_t _ _).mono ?_
              rintro e w5 ⟨rfl, rfl⟩
              go_wp2_with fail
              have KF := (K4.out.set0 (.int .i64 n)).set1 (.int .i64 d)
              have e0 := KF.cell0
              have e1 := KF.cell1
              refine bodyPost_ret (v := ratV (n, d)) (by simp [results, Tryd.results52, go_sem, ratV, e0, e1]) rfl ?_
              exact wentO_yes E.out (grown_set_new (grown_set_new G4.out (by simp) _) (by simp) _) rfl (Blk1.far (Blk1.far R4.out hne.symm _) hne.symm _)

theorem catchR_panic (x : PanicEntry) (u : TypeId) (pv : Value) (hx : x = { v := .iface u pv, recovered := false }) (older : List PanicEntry) (w : World) :
    CallsD Tryd.prog 78 #[] (.panicking (x :: older)) w fun e u' w' =>
      e = .returned (.tuple #[]) ∧ u' = .panicking ({ v := .iface u pv, recovered := true } :: older) ∧ w' = w := by
  subst hx
  refine callsD_of_wpS Tryd.func78 rfl fun c₀ cs hu => ?_
  apply wpS_region
  simp [wpOpsS, go_sem, recoverD, hu, Tryd.ntmps78, bodyPostS, results, Tryd.results78]
theorem catchR_idle (w : World) :
    CallsD Tryd.prog 78 #[] .returning w fun e u' w' => e = .returned (.tuple #[]) ∧ u' = .returning ∧ w' = w := by
  refine callsD_of_wpS Tryd.func78 rfl fun c₀ cs hu => ?_
  apply wpS_region
  simp [wpOpsS, go_sem, recoverD, hu, Tryd.ntmps78, bodyPostS, results, Tryd.results78]
  cases c₀
  simp_all

theorem goR1_none {l : List UInt8} (h : goR1 l = none) : parR l = ((0, 0), false) := by
  rw [goR_parR]
  have e : goR l = none := by
    unfold goR1 at h
    unfold goR
    split at h
    · split at h
      · cases h
      · rename_i h1 h2
        rw [if_pos h1, if_neg h2]
        split at h
        · rename_i h3
          rw [if_pos h3]
          split at h
          · rename_i h4
            rw [if_pos h4]
            split at h
            · cases h
            · rename_i h5
              rw [if_neg (fun k => h5 k.1)]
          · rename_i h4
            rw [if_neg h4]
        · rename_i h3
          rw [if_neg h3]
    · rename_i h1
      rw [if_neg h1]
  rw [e]
theorem goR1_some {l : List UInt8} {v : Value} {l' : List UInt8} (h : goR1 l = some (v, l')) : ∃ n d : Int, v = ratV (n, d) ∧ (l' = [] → parR l = ((n, d), true)) ∧ (l' ≠ [] → parR l = ((0, 0), false)) := by
  rw [goR_parR]
  unfold goR1 at h
  unfold goR
  split at h
  · rename_i h1
    rw [if_pos h1]
    split at h
    · rename_i h2
      rw [if_pos h2]
      injection h with h
      injection h with hv hl
      exact ⟨_, _, hv.symm, fun _ => rfl, fun k => absurd hl.symm k⟩
    · rename_i h2
      rw [if_neg h2]
      split at h
      · rename_i h3
        rw [if_pos h3]
        split at h
        · rename_i h4
          rw [if_pos h4]
          split at h
          · rename_i h5
            injection h with h
            injection h with hv hl
            refine ⟨_, _, hv.symm, fun k => ?_, fun k => ?_⟩
            · rw [if_pos ⟨h5, hl.trans k⟩]
            · rw [if_neg (fun x => k (hl.symm.trans x.2))]
          · cases h
        · cases h
      · cases h
  · cases h

set_option maxHeartbeats 1000000 in
theorem iReadAllR (l : List UInt8) (w : World) (hl : l.length ≤ 16777216) (tb : Tab w) :
    Calls Tryd.prog 51 #[.string ⟨l.toArray⟩, .func (.func 52) #[] #[]] w (Gives (parV (parR l)) w) := by
  have TB := Lib.hid tb
  have LT := Lib.hid tb.lt
  have HL := Lib.hid hl
  obtain ⟨z, hz⟩ : ∃ z, parR l = z := ⟨_, rfl⟩
  have HZ := Lib.hid hz
  rw [hz]
  clear tb hl hz
  go_enter_defers Tryd.func51, Tryd.ntmps51
  go_wp2_with fail
  have K0 : Hid (Blk2 ((w.alloc (.cells #[.int .i64 0, .int .i64 0] 35)).alloc (.cells #[.string ⟨l.toArray⟩] 91)) w.heap.size 35 (.int .i64 0) (.int .i64 0)) := (Blk2.at_ _ _ _ rfl).old _
  have R0 : Hid (Rdr ((w.alloc (.cells #[.int .i64 0, .int .i64 0] 35)).alloc (.cells #[.string ⟨l.toArray⟩] 91)) (w.heap.size + 1) l) := Blk1.at_ _ _ (by simp)
  have B0 : Hid (Below w.heap.size w ((w.alloc (.cells #[.int .i64 0, .int .i64 0] 35)).alloc (.cells #[.string ⟨l.toArray⟩] 91))) := ((Below.refl _ _).alloc (Nat.le_refl _) _).alloc (by simp) _
  obtain ⟨o, ho⟩ : ∃ o, goR1 l = o := ⟨_, rfl⟩
  have RA := iRatioR (w.heap.size + 1) l _ R0.out HL.out (TB.out.below B0.out) (by have := LT.out; omega)
  rw [ho] at RA
  have HO := Lib.hid ho
  clear ho
  refine RA.mono ?_
  clear RA
  rintro e w1 ⟨g1, h1⟩
  have K1 : Hid (Blk2 w1 w.heap.size 35 (.int .i64 0) (.int .i64 0)) := K0.out.keepOne g1 (by omega)
  have B1 : Hid (Below w.heap.size w w1) := B0.out.trans (below_of_one g1 (by omega) (by simp; omega))
  clear g1
  cases o with
  | none =>
    have E : Hid (z = ((0, 0), false)) := Lib.hid (by rw [← HZ.out]; exact goR1_none HO.out)
    cases h1
    go_wp2_with fail
    refine leaves_cons (f := 78) (args := #[]) (by simp) (by simp [go_sem]) ?_
    refine (catchR_panic _ _ _ rfl [] _).mono ?_
    rintro e u' w'' ⟨rfl, rfl, rfl⟩
    have e0 := K1.out.cell0
    have e1 := K1.out.cell1
    rw [E.out]
    simp [Leaves, settle, results, Tryd.results51, go_sem, e0, e1, Gives, parV, ratV]
    exact B1.out
  | some p =>
    obtain ⟨v, l'⟩ := p
    obtain ⟨rfl, r1⟩ := h1
    obtain ⟨n, d, rfl, ey, en⟩ := goR1_some HO.out
    have EY := Lib.hid ey
    have EN := Lib.hid en
    clear ey en
    have c1 := Blk1.cell0 r1
    have R1 := Lib.hid r1
    have lt1 : w.heap.size < w1.heap.size := K1.out.lt
    have V1 : Hid (Blk2 (w1.alloc (.cells #[.int .i64 n, .int .i64 d] 35)) w1.heap.size 35 (.int .i64 n) (.int .i64 d)) := Blk2.at_ _ _ _ rfl
    have B2 : Hid (Below w.heap.size w (w1.alloc (.cells #[.int .i64 n, .int .i64 d] 35))) := B1.out.alloc B1.out.size _
    have K2 : Hid (Blk2 (w1.alloc (.cells #[.int .i64 n, .int .i64 d] 35)) w.heap.size 35 (.int .i64 0) (.int .i64 0)) := K1.out.old _
    have c2 := Blk1.cell0 (Blk1.old r1 (.cells #[.int .i64 n, .int .i64 d] 35))
    clear r1 c1
    unfold ratV
    simp only
    have EY2 : Hid (l' = [] → z = ((n, d), true)) := fun h => by rw [← HZ.out]; exact EY.out h
    have EN2 : Hid (l' ≠ [] → z = ((0, 0), false)) := fun h => by rw [← HZ.out]; exact EN.out h
    clear EY EN HO
    cases l' with
    | nil =>
      have E : Hid (z = ((n, d), true)) := EY2.out rfl
      obtain ⟨k0, k1, k2, k3⟩ := K1.out.all
      go_wp2_with fail
      refine (iNeed_t _ _).mono ?_
      rintro e w5 ⟨rfl, rfl⟩
      go_wp2_with fail
      refine leaves_cons (f := 78) (args := #[]) (by simp) (by simp [go_sem]) ?_
      refine (catchR_idle _).mono ?_
      rintro e u' w'' ⟨rfl, rfl, rfl⟩
      have KF := ((K1.out.set0 (.int .i64 n)).set1 (.int .i64 d)).old (.cells #[.int .i64 n, .int .i64 d] 35)
      have e0 := KF.cell0
      have e1 := KF.cell1
      rw [E.out]
      simp [Leaves, settle, results, Tryd.results51, go_sem, e0, e1, Gives, parV, ratV]
      have b1 := B1.out.size
      repeat (first | exact B1.out | refine Below.setCell ?_ (by exact Nat.le_refl _) _ | refine Below.alloc ?_ (by first | exact b1 | simpa using b1) _)
    | cons c s =>
      have E : Hid (z = ((0, 0), false)) := EN2.out (by simp)
      have eq0 : ((c :: s : List UInt8) == []) = false := rfl
      go_wp2_with fail
      refine (iNeed_f _ _).mono ?_
      rintro e w5 ⟨rfl, rfl⟩
      go_wp2_with fail
      refine leaves_cons (f := 78) (args := #[]) (by simp) (by simp [go_sem]) ?_
      refine (catchR_panic _ _ _ rfl [] _).mono ?_
      rintro e u' w'' ⟨rfl, rfl, rfl⟩
      have e0 := K2.out.cell0
      have e1 := K2.out.cell1
      rw [E.out]
      simp [Leaves, settle, results, Tryd.results51, go_sem, e0, e1, Gives, parV, ratV]
      exact B2.out

set_option maxHeartbeats 400000 in
theorem iParseRatio (l : List UInt8) (w : World) (hl : l.length ≤ 16777216) (tb : Tab w) :
    Calls Tryd.prog 17 #[.string ⟨l.toArray⟩] w (Gives (parV (parR l)) w) := by
  have B0 : Hid (Below w.heap.size w (w.alloc (.cells #[.int .i64 0, .int .i64 0] 35))) := (Below.refl _ _).alloc (Nat.le_refl _) _
  have K0 : Hid (Blk2 (w.alloc (.cells #[.int .i64 0, .int .i64 0] 35)) w.heap.size 35 (.int .i64 0) (.int .i64 0)) := Blk2.at_ _ _ _ rfl
  have RA := iReadAllR l (w.alloc (.cells #[.int .i64 0, .int .i64 0] 35)) hl (tb.below B0.out)
  obtain ⟨z, hz⟩ : ∃ z, parR l = z := ⟨_, rfl⟩
  rw [hz] at RA ⊢
  obtain ⟨⟨n, d⟩, b⟩ := z
  clear hz hl tb
  unfold parV ratV at RA
  simp only at RA
  go_enter Tryd.func17, Tryd.ntmps17
  go_wp2_with fail
  refine RA.mono ?_
  clear RA
  rintro e w1 ⟨rfl, b1⟩
  have K1 : Hid (Blk2 w1 w.heap.size 35 (.int .i64 0) (.int .i64 0)) := K0.out.keep b1 (by simp)
  have B1 : Hid (Below w.heap.size w w1) := B0.out.trans (b1.mono (by simp))
  obtain ⟨k0, k1, k2, k3⟩ := K1.out.all
  clear b1
  go_wp2_with fail
  have KF := (K1.out.set0 (.int .i64 n)).set1 (.int .i64 d)
  have e0 := KF.cell0
  have e1 := KF.cell1
  refine bodyPost_ret (v := parV ((n, d), b)) (by simp [results, Tryd.results17, go_sem, parV, ratV, e0, e1]) rfl ?_
  exact ⟨rfl, (B1.out.setCell (by simp) _).setCell (by simp) _⟩
end Go.Proofs.YtihgcccdahmmmaaDoor
