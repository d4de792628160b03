/-
  Proved: for every code, the law FnSolved returns true: solutions by determinants, by elimination and by lifting modulo a prime agree, and solve the equations.
  Conditions: none beyond the row's own (the argument reads as data).
-/
import Derived.Test.YtcapddcmnjeloaaGreatDoorRows
import Derived.Test.YtcapddcmnjeloaaGreatDoorTie
import Derived.Test.YtcapddcmnjeloaaGreatDoorCards
import Derived.SevenTiedAt
import Derived.Lay
import Derived.LaidMore
import Derived.LaidHandle
import Derived.LaidSub
import Derived.Stop.Joined
import Derived.ChangeOld
import Derived.Below
import Derived.Deep.RegionHeld3
import Derived.Deep.DeepCutAuto
import Derived.WalkKit
import Derived.ProofKit
import Derived.OpenShut
import Derived.ShutString
import Derived.Carry
import Derived.Lib.SmallJoins
import Derived.Test.YtcapddcmnjeloaaGreatDoorPk13
import Derived.Test.YtcapddcmnjeloaaGreatDoorPk15
import Derived.Test.YtcapddcmnjeloaaGreatDoorPk16
import Derived.Test.YtcapddcmnjeloaaGreatDoorPk19
import Derived.Test.YtcapddcmnjeloaaGreatDoorPk20
import Derived.Test.YtcapddcmnjeloaaGreatDoorPk22

namespace Go.Proofs.YtcapddcmnjeloaaGreatDoor.fnSolved
open Go.ChangeShapes Go.WideShapes Go.ChangeAt Go.RowKit
open Go.ChangeMaps (open_string shut_string)
set_option linter.unusedVariables false

theorem own : ownKnob Tryz.prog.godebug = none := by kernel_rfl
theorem laidOut : laidOutB Tryz.prog = true := by kernel_rfl

/-- What the walk is told of a slice of integers that came in: it is nil; or it leads to a row of 'cap' cells, the numbers 'zs' (the first 'len' are its elements), each fitting its kind. -/
def IsRow (k : IntKind) (w : World) (a : Option Addr) (len cap : Nat) (zs : List Int) : Prop :=
  (a = none ∧ len = 0 ∧ cap = 0 ∧ zs = []) ∨
  ∃ x, a = some x ∧ len ≤ cap ∧ cap ≤ maxLen ∧ zs.length = cap ∧ (∀ i, i < zs.length → w.cell? (x.add i) = some (.int k (zs.getD i 0))) ∧ ∀ n ∈ zs, (Lit.int k n).wf = true
theorem isRow_of {H : Type} {enc : TypeId × Value → H} {P : Program} {W : World} {base : Nat} {held : Bool} {t e : TypeId} {k : IntKind} {a : Option Addr} {len cap fuel : Nat} {x : DataW H × List MemPlace}
    (ht : P.underlying t = some (.slice e)) (he : P.underlying e = some (.int k)) (hc : P.cellsOf e = 1) (hf : DataW.trod enc P W base (fun _ => true) held fuel t [.slice a len cap] = some x) : ∃ zs, IsRow k W a len cap zs := by
  rcases open_ints ht he hc hf with ⟨hcs, _⟩ | ⟨x, l, c, zs, hcs, _, hl, hm, hz, _, hcell, hwz⟩
  · simp at hcs
    obtain ⟨rfl, rfl, rfl⟩ := hcs
    exact ⟨[], .inl ⟨rfl, rfl, rfl, rfl⟩⟩
  · simp at hcs
    obtain ⟨rfl, rfl, rfl⟩ := hcs
    exact ⟨zs, .inr ⟨_, rfl, hl, hm, by simpa using hz, hcell, hwz⟩⟩
theorem _root_.Go.Proofs.YtcapddcmnjeloaaGreatDoor.Own.rdR {B : Nat} {w : World} {a : Option Addr} {n cap : Nat} {zs : List Int} (h : Own B w (.slice a n cap) zs) : Rd w a zs := by
  obtain ⟨a', c', e, hr, -⟩ := h.form
  injection e with e1 e2 e3
  rw [e1]; exact hr
theorem _root_.Go.Proofs.YtcapddcmnjeloaaGreatDoor.Own.spotR {B : Nat} {w : World} {a : Option Addr} {n cap : Nat} {zs : List Int} (h : Own B w (.slice a n cap) zs) : Spot a := by
  rcases h with ⟨e, -⟩ | ⟨g, c, e, -⟩
  · injection e with e1 e2 e3
    exact .inl e1
  · injection e with e1 e2 e3
    rw [e1]; exact Spot.of _ _
theorem _root_.Go.Proofs.YtcapddcmnjeloaaGreatDoor.RdQ.drewN {w : World} {a : Option Addr} {l : List (Int × Int)} (h : RdQ w a l) (n : Nat) : RdQ (w.drewN n) a l := h.below (below_drewN (Below.refl _ _) n)
theorem sd_len {r c : Int} {xs bs : List Int} (h : (sdX r c xs bs).2 = true) : (sdX r c xs bs).1.length ≤ 6 := by
  obtain ⟨n, -, -, h6, -, -, -, l, -⟩ := sdX_says h
  omega
theorem se_len {r c : Int} {xs bs : List Int} (h : (seX r c xs bs).2 = true) : (seX r c xs bs).1.length ≤ 6 := by
  obtain ⟨n, -, -, h6, -, l, -⟩ := seX_says h
  omega
theorem sl_len {r c : Int} {xs bs : List Int} (h : (slX r c xs bs).2 = true) : (slX r c xs bs).1.length ≤ 6 ∧ irB r c xs bs (slX r c xs bs).1 = true := by
  obtain ⟨n, -, -, h6, -, -, l, i⟩ := slX_says h
  exact ⟨by omega, i⟩
theorem codeIn_of_row {w : World} {a : Option Addr} {len cap : Nat} {zs : List Int} (h : IsRow .u8 w a len cap zs) : CodeIn w a len := by
  rcases h with ⟨rfl, rfl, rfl, rfl⟩ | ⟨x, rfl, hl, hm, hz, hcell, hwf⟩
  · exact codeIn_none w
  · exact codeIn_some hl hm hz hcell hwf
set_option maxRecDepth 100000 in
set_option maxHeartbeats 16000000 in

theorem walk (a0 : Option Addr) (len0 cap0 : Nat) (z0 : List Int) (w : World) (w0 : IsRow .u8 w a0 len0 cap0 z0) (tb : TabE w) :
    Calls Tryz.prog 3 #[.slice a0 len0 cap0] w fun e w' => e = .returned (.bool true) ∧ Below w.heap.size w w' := by
  have TB := Lib.hid tb
  clear tb
  have hc : CodeIn w a0 len0 := codeIn_of_row w0
  have hl := hc.1
  have HC := Lib.hid hc
  clear w0 hc
  unfold maxLen at hl
  by_cases hbig : len0 ≤ 1048576
  · go_enter Tryz.func3, Tryz.ntmps3
    go_wp2_with (fail)
    refine (big_no w a0 len0 cap0 hbig).mono ?_
    rintro e w1 ⟨rfl, rfl⟩
    go_wp2_with (fail)
    refine (drawSd w a0 len0 cap0 HC.out).mono ?_
    rintro e w1 ⟨r, c, q, qc, xs, qb, qbc, bs, rfl, o1, l1, o2, l2, hb⟩
    have SP := Lib.hid o1.spotR
    have CE := Lib.hid o1.celA
    have n1 : xs.length ≤ 16777216 := by omega
    have n2 : bs.length ≤ 16777216 := by omega
    have OA : Hid (Own w.heap.size (w1.alloc (.cells #[.int .i64 r, .int .i64 c, .slice q xs.length qc] 26)) (.slice q xs.length qc) xs) := o1.keep ((Below.refl _ _).alloc (Nat.le_refl _) _)
    have OB : Hid (Own w.heap.size (w1.alloc (.cells #[.int .i64 r, .int .i64 c, .slice q xs.length qc] 26)) (.slice qb bs.length qbc) bs) := o2.keep ((Below.refl _ _).alloc (Nat.le_refl _) _)
    have K : Hid (Blk3 (w1.alloc (.cells #[.int .i64 r, .int .i64 c, .slice q xs.length qc] 26)) w1.heap.size 26 (.int .i64 r) (.int .i64 c) (.slice q xs.length qc)) := Blk3.at_ _ _ _ _ rfl
    have B : Hid (Below w.heap.size w (w1.alloc (.cells #[.int .i64 r, .int .i64 c, .slice q xs.length qc] 26))) := hb.alloc hb.size _
    clear hb o1 o2
    obtain ⟨K0, K1, K2, -, -, -⟩ := K.out.all
    obtain ⟨lx, hlx⟩ : ∃ l, (sdX r c xs bs).1 = l := ⟨_, rfl⟩
    obtain ⟨fx, hfx⟩ : ∃ f, (sdX r c xs bs).2 = f := ⟨_, rfl⟩
    have Lx := Lib.hid hlx
    have Fx := Lib.hid hfx
    clear hlx hfx
    obtain ⟨ly, hly⟩ : ∃ l, (seX r c xs bs).1 = l := ⟨_, rfl⟩
    obtain ⟨fy, hfy⟩ : ∃ f, (seX r c xs bs).2 = f := ⟨_, rfl⟩
    have Ly := Lib.hid hly
    have Fy := Lib.hid hfy
    clear hly hfy
    obtain ⟨lz, hlz⟩ : ∃ l, (slX r c xs bs).1 = l := ⟨_, rfl⟩
    obtain ⟨fz, hfz⟩ : ∃ f, (slX r c xs bs).2 = f := ⟨_, rfl⟩
    have Lz := Lib.hid hlz
    have Fz := Lib.hid hfz
    clear hlz hfz
    go_wp2_with (fail)
    refine (iSd r c q qc xs qb qbc bs _ OA.out.rdR n1 OB.out.rdR n2).mono ?_
    rintro e w2 ⟨vx, rfl, ox, hb⟩
    rw [Lx.out] at ox
    rw [Fx.out]
    obtain ⟨ax, cx, rfl⟩ := ox.form
    have X := Lib.hid (ox.rd)
    clear ox
    have OA := Lib.hid (OA.out.keep hb)
    have OB := Lib.hid (OB.out.keep hb)
    have K := Lib.hid (K.out.step hb)
    have B := Lib.hid (B.out.trans (hb.mono B.out.size))
    clear hb
    obtain ⟨K0, K1, K2, -, -, -⟩ := K.out.all
    go_wp2_with (fail)
    refine (sSd r c q qc xs qb qbc bs _ OA.out.rdR SP.out n1 OB.out.rdR n2).mono ?_
    rintro e w3 ⟨vt, rfl, ot, hb⟩
    rw [Fx.out]
    obtain ⟨at0, ct0, rfl⟩ := ot.form
    clear ot
    have X := Lib.hid (X.out.below hb)
    have OA := Lib.hid (OA.out.keep hb)
    have OB := Lib.hid (OB.out.keep hb)
    have K := Lib.hid (K.out.step hb)
    have B := Lib.hid (B.out.trans (hb.mono B.out.size))
    clear hb
    obtain ⟨K0, K1, K2, -, -, -⟩ := K.out.all
    go_wp2_with (fail)
    refine (iSe r c q qc xs qb qbc bs _ OA.out.rdR CE.out n1 OB.out.rdR n2).mono ?_
    rintro e w4 ⟨vy, rfl, oy, hb⟩
    rw [Ly.out] at oy
    rw [Fy.out]
    obtain ⟨ay, cy, rfl⟩ := oy.form
    have X := Lib.hid (X.out.below hb)
    have Y := Lib.hid (oy.rd)
    clear oy
    have OA := Lib.hid (OA.out.keep hb)
    have OB := Lib.hid (OB.out.keep hb)
    have K := Lib.hid (K.out.step hb)
    have B := Lib.hid (B.out.trans (hb.mono B.out.size))
    clear hb
    obtain ⟨K0, K1, K2, -, -, -⟩ := K.out.all
    go_wp2_with (fail)
    refine (iSl r c q qc xs qb qbc bs _ OA.out.rdR CE.out n1 OB.out.rdR n2 (TB.out.below B.out)).mono ?_
    rintro e w5 ⟨vz, rfl, oz, hb⟩
    rw [Lz.out] at oz
    rw [Fz.out]
    obtain ⟨az, cz, rfl⟩ := oz.form
    have X := Lib.hid (X.out.below hb)
    have Y := Lib.hid (Y.out.below hb)
    have Z := Lib.hid (oz.rd)
    clear oz
    have OA := Lib.hid (OA.out.keep hb)
    have OB := Lib.hid (OB.out.keep hb)
    have K := Lib.hid (K.out.step hb)
    have B := Lib.hid (B.out.trans (hb.mono B.out.size))
    clear hb
    obtain ⟨K0, K1, K2, -, -, -⟩ := K.out.all
    have SZ : Hid (fx = true → lx.length ≤ 6) := fun h => by rw [← Lx.out]; exact sd_len (by rw [Fx.out]; exact h)
    have TZ : Hid (fy = true → ly.length ≤ 6) := fun h => by rw [← Ly.out]; exact se_len (by rw [Fy.out]; exact h)
    have UZ : Hid (fz = true → lz.length ≤ 6 ∧ irB r c xs bs lz = true) := fun h => by rw [← Lz.out]; exact sl_len (by rw [Fz.out]; exact h)
    have E1 : Hid (fx = true → fy = true → lx = ly) := fun h1 h2 => by rw [← Lx.out, ← Ly.out]; exact sd_se (by rw [Fx.out]; exact h1) (by rw [Fy.out]; exact h2)
    have E2 : Hid (fx = true → fz = true → lx = lz) := fun h1 h2 => by rw [← Lx.out, ← Lz.out]; exact sd_sl (by rw [Fx.out]; exact h1) (by rw [Fz.out]; exact h2)
    have E3 : Hid (fy = true → fz = true → ly = lz) := fun h1 h2 => by rw [← Ly.out, ← Lz.out]; exact se_sl (by rw [Fy.out]; exact h1) (by rw [Fz.out]; exact h2)
    clear Lx Ly Lz Fx Fy Fz
    cases fx with
    | false =>
      cases fy with
      | false =>
        cases fz with
        | false =>
          go_wp2_with (fail)
          go_ret
          exact ⟨rfl, B.out⟩
        | true =>
          obtain ⟨sz, ir⟩ := UZ.out rfl
          go_wp2_with (fail)
          refine (iRational r c q qc xs qb qbc bs az cz _ _ OA.out.rdR CE.out n1 OB.out.rdR n2 Z.out (by omega)).mono ?_
          rintro e w9 ⟨rfl, hb⟩
          rw [ir]
          have Z := Lib.hid (Z.out.below hb)
          have OA := Lib.hid (OA.out.keep hb)
          have OB := Lib.hid (OB.out.keep hb)
          have K := Lib.hid (K.out.step hb)
          have B := Lib.hid (B.out.trans (hb.mono B.out.size))
          clear hb
          obtain ⟨K0, K1, K2, -, -, -⟩ := K.out.all
          go_wp2_with (fail)
          refine (sRational r c q qc xs qb qbc bs az cz _ _ OA.out.rdR n1 OB.out.rdR n2 Z.out (by omega)).mono ?_
          rintro e w10 ⟨rfl, hb⟩
          rw [ir]
          have OA := Lib.hid (OA.out.keep hb)
          have OB := Lib.hid (OB.out.keep hb)
          have K := Lib.hid (K.out.step hb)
          have B := Lib.hid (B.out.trans (hb.mono B.out.size))
          clear hb
          obtain ⟨K0, K1, K2, -, -, -⟩ := K.out.all
          go_wp2_with (fail)
          go_ret
          exact ⟨rfl, B.out⟩
      | true =>
        cases fz with
        | false =>
          have sy := TZ.out rfl
          go_wp2_with (fail)
          go_ret
          exact ⟨rfl, B.out⟩
        | true =>
          have e3 := E3.out rfl rfl
          subst e3
          have sy := TZ.out rfl
          obtain ⟨sz, ir⟩ := UZ.out rfl
          go_wp2_with (fail)
          refine (sameQ _ _ _ _ _ _ Y.out Z.out (by omega)).mono ?_
          rintro e w6 ⟨rfl, n6, rfl⟩
          have X6 := Lib.hid (X.out.drewN (n6))
          have Y6 := Lib.hid (Y.out.drewN (n6))
          have Z6 := Lib.hid (Z.out.drewN (n6))
          have OA6 := Lib.hid (OA.out.keep (below_drewN (Below.refl _ _) (n6)))
          have OB6 := Lib.hid (OB.out.keep (below_drewN (Below.refl _ _) (n6)))
          have K6 := Lib.hid (K.out.drewN (n6))
          have B6 := Lib.hid (below_drewN B.out (n6))
          obtain ⟨K0, K1, K2, -, -, -⟩ := K6.out.all
          have X := X6
          have Y := Y6
          have Z := Z6
          have OA := OA6
          have OB := OB6
          have K := K6
          have B := B6
          go_wp2_with (fail)
          refine (iRational r c q qc xs qb qbc bs az cz _ _ OA.out.rdR CE.out n1 OB.out.rdR n2 Z.out (by omega)).mono ?_
          rintro e w9 ⟨rfl, hb⟩
          rw [ir]
          have Z := Lib.hid (Z.out.below hb)
          have OA := Lib.hid (OA.out.keep hb)
          have OB := Lib.hid (OB.out.keep hb)
          have K := Lib.hid (K.out.step hb)
          have B := Lib.hid (B.out.trans (hb.mono B.out.size))
          clear hb
          obtain ⟨K0, K1, K2, -, -, -⟩ := K.out.all
          go_wp2_with (fail)
          refine (sRational r c q qc xs qb qbc bs az cz _ _ OA.out.rdR n1 OB.out.rdR n2 Z.out (by omega)).mono ?_
          rintro e w10 ⟨rfl, hb⟩
          rw [ir]
          have OA := Lib.hid (OA.out.keep hb)
          have OB := Lib.hid (OB.out.keep hb)
          have K := Lib.hid (K.out.step hb)
          have B := Lib.hid (B.out.trans (hb.mono B.out.size))
          clear hb
          obtain ⟨K0, K1, K2, -, -, -⟩ := K.out.all
          go_wp2_with (fail)
          go_ret
          exact ⟨rfl, B.out⟩
    | true =>
      cases fy with
      | false =>
        cases fz with
        | false =>
          have sx := SZ.out rfl
          go_wp2_with (fail)
          go_ret
          exact ⟨rfl, B.out⟩
        | true =>
          have e2 := E2.out rfl rfl
          subst e2
          have sx := SZ.out rfl
          obtain ⟨sz, ir⟩ := UZ.out rfl
          go_wp2_with (fail)
          refine (sameQ _ _ _ _ _ _ X.out Z.out (by omega)).mono ?_
          rintro e w6 ⟨rfl, n6, rfl⟩
          have X6 := Lib.hid (X.out.drewN (n6))
          have Y6 := Lib.hid (Y.out.drewN (n6))
          have Z6 := Lib.hid (Z.out.drewN (n6))
          have OA6 := Lib.hid (OA.out.keep (below_drewN (Below.refl _ _) (n6)))
          have OB6 := Lib.hid (OB.out.keep (below_drewN (Below.refl _ _) (n6)))
          have K6 := Lib.hid (K.out.drewN (n6))
          have B6 := Lib.hid (below_drewN B.out (n6))
          obtain ⟨K0, K1, K2, -, -, -⟩ := K6.out.all
          have X := X6
          have Y := Y6
          have Z := Z6
          have OA := OA6
          have OB := OB6
          have K := K6
          have B := B6
          go_wp2_with (fail)
          refine (iRational r c q qc xs qb qbc bs az cz _ _ OA.out.rdR CE.out n1 OB.out.rdR n2 Z.out (by omega)).mono ?_
          rintro e w9 ⟨rfl, hb⟩
          rw [ir]
          have Z := Lib.hid (Z.out.below hb)
          have OA := Lib.hid (OA.out.keep hb)
          have OB := Lib.hid (OB.out.keep hb)
          have K := Lib.hid (K.out.step hb)
          have B := Lib.hid (B.out.trans (hb.mono B.out.size))
          clear hb
          obtain ⟨K0, K1, K2, -, -, -⟩ := K.out.all
          go_wp2_with (fail)
          refine (sRational r c q qc xs qb qbc bs az cz _ _ OA.out.rdR n1 OB.out.rdR n2 Z.out (by omega)).mono ?_
          rintro e w10 ⟨rfl, hb⟩
          rw [ir]
          have OA := Lib.hid (OA.out.keep hb)
          have OB := Lib.hid (OB.out.keep hb)
          have K := Lib.hid (K.out.step hb)
          have B := Lib.hid (B.out.trans (hb.mono B.out.size))
          clear hb
          obtain ⟨K0, K1, K2, -, -, -⟩ := K.out.all
          go_wp2_with (fail)
          go_ret
          exact ⟨rfl, B.out⟩
      | true =>
        cases fz with
        | false =>
          have e1 := E1.out rfl rfl
          subst e1
          have sx := SZ.out rfl
          have sy := TZ.out rfl
          go_wp2_with (fail)
          refine (sameQ _ _ _ _ _ _ X.out Y.out (by omega)).mono ?_
          rintro e w6 ⟨rfl, n6, rfl⟩
          have X6 := Lib.hid (X.out.drewN (n6))
          have Y6 := Lib.hid (Y.out.drewN (n6))
          have Z6 := Lib.hid (Z.out.drewN (n6))
          have OA6 := Lib.hid (OA.out.keep (below_drewN (Below.refl _ _) (n6)))
          have OB6 := Lib.hid (OB.out.keep (below_drewN (Below.refl _ _) (n6)))
          have K6 := Lib.hid (K.out.drewN (n6))
          have B6 := Lib.hid (below_drewN B.out (n6))
          obtain ⟨K0, K1, K2, -, -, -⟩ := K6.out.all
          have X := X6
          have Y := Y6
          have Z := Z6
          have OA := OA6
          have OB := OB6
          have K := K6
          have B := B6
          go_wp2_with (fail)
          go_ret
          exact ⟨rfl, B.out⟩
        | true =>
          have e1 := E1.out rfl rfl
          have e2 := E2.out rfl rfl
          have e3 := E3.out rfl rfl
          subst e1
          subst e2
          have sx := SZ.out rfl
          have sy := TZ.out rfl
          obtain ⟨sz, ir⟩ := UZ.out rfl
          go_wp2_with (fail)
          refine (sameQ _ _ _ _ _ _ X.out Y.out (by omega)).mono ?_
          rintro e w6 ⟨rfl, n6, rfl⟩
          have X6 := Lib.hid (X.out.drewN (n6))
          have Y6 := Lib.hid (Y.out.drewN (n6))
          have Z6 := Lib.hid (Z.out.drewN (n6))
          have OA6 := Lib.hid (OA.out.keep (below_drewN (Below.refl _ _) (n6)))
          have OB6 := Lib.hid (OB.out.keep (below_drewN (Below.refl _ _) (n6)))
          have K6 := Lib.hid (K.out.drewN (n6))
          have B6 := Lib.hid (below_drewN B.out (n6))
          obtain ⟨K0, K1, K2, -, -, -⟩ := K6.out.all
          go_wp2_with (fail)
          refine (sameQ _ _ _ _ _ _ X6.out Z6.out (by omega)).mono ?_
          rintro e w7 ⟨rfl, n7, rfl⟩
          have X7 := Lib.hid (X.out.drewN (n6 + n7))
          have Y7 := Lib.hid (Y.out.drewN (n6 + n7))
          have Z7 := Lib.hid (Z.out.drewN (n6 + n7))
          have OA7 := Lib.hid (OA.out.keep (below_drewN (Below.refl _ _) (n6 + n7)))
          have OB7 := Lib.hid (OB.out.keep (below_drewN (Below.refl _ _) (n6 + n7)))
          have K7 := Lib.hid (K.out.drewN (n6 + n7))
          have B7 := Lib.hid (below_drewN B.out (n6 + n7))
          obtain ⟨K0, K1, K2, -, -, -⟩ := K7.out.all
          go_wp2_with (fail)
          refine (sameQ _ _ _ _ _ _ Y7.out Z7.out (by omega)).mono ?_
          rintro e w8 ⟨rfl, n8, rfl⟩
          have X8 := Lib.hid (X.out.drewN (n6 + n7 + n8))
          have Y8 := Lib.hid (Y.out.drewN (n6 + n7 + n8))
          have Z8 := Lib.hid (Z.out.drewN (n6 + n7 + n8))
          have OA8 := Lib.hid (OA.out.keep (below_drewN (Below.refl _ _) (n6 + n7 + n8)))
          have OB8 := Lib.hid (OB.out.keep (below_drewN (Below.refl _ _) (n6 + n7 + n8)))
          have K8 := Lib.hid (K.out.drewN (n6 + n7 + n8))
          have B8 := Lib.hid (below_drewN B.out (n6 + n7 + n8))
          obtain ⟨K0, K1, K2, -, -, -⟩ := K8.out.all
          have X := X8
          have Y := Y8
          have Z := Z8
          have OA := OA8
          have OB := OB8
          have K := K8
          have B := B8
          go_wp2_with (fail)
          refine (iRational r c q qc xs qb qbc bs az cz _ _ OA.out.rdR CE.out n1 OB.out.rdR n2 Z.out (by omega)).mono ?_
          rintro e w9 ⟨rfl, hb⟩
          rw [ir]
          have Z := Lib.hid (Z.out.below hb)
          have OA := Lib.hid (OA.out.keep hb)
          have OB := Lib.hid (OB.out.keep hb)
          have K := Lib.hid (K.out.step hb)
          have B := Lib.hid (B.out.trans (hb.mono B.out.size))
          clear hb
          obtain ⟨K0, K1, K2, -, -, -⟩ := K.out.all
          go_wp2_with (fail)
          refine (sRational r c q qc xs qb qbc bs az cz _ _ OA.out.rdR n1 OB.out.rdR n2 Z.out (by omega)).mono ?_
          rintro e w10 ⟨rfl, hb⟩
          rw [ir]
          have OA := Lib.hid (OA.out.keep hb)
          have OB := Lib.hid (OB.out.keep hb)
          have K := Lib.hid (K.out.step hb)
          have B := Lib.hid (B.out.trans (hb.mono B.out.size))
          clear hb
          obtain ⟨K0, K1, K2, -, -, -⟩ := K.out.all
          go_wp2_with (fail)
          go_ret
          exact ⟨rfl, B.out⟩
  · have hbig' : 1048576 < len0 := by omega
    clear hbig
    go_enter Tryz.func3, Tryz.ntmps3
    go_wp2_with (fail)
    refine (big_yes w a0 len0 cap0 hbig').mono ?_
    rintro e w1 ⟨rfl, rfl⟩
    go_wp2_with (fail)
    go_ret
    exact ⟨rfl, Below.refl _ _⟩

/-! ### The row's step -/
/-- What the row lists. -/
def tabs : List (String × DataW Unit) := [("errors.errorType", Rows.laid_errors_errorType)]
theorem et_ : Tryz.prog.globalNamed "errors.errorType" = some 0 := by kernel_rfl
theorem rt_ : (Tryz.prog.cutTypes.find? (·.1 == "internal/reflectlite.rtype")).map (·.2) = some 185 := by kernel_rfl
theorem oneRow_ : ((List.range 264).filter fun t => Tryz.prog.rowNamed t [101, 114, 114, 111, 114]) = [93] := by kernel_rfl
theorem size_ : Tryz.prog.types.size = 264 := by kernel_rfl
theorem err_of_laid {W : World} (h0 : laidMetH Tryz.prog tabs W) : TabE W := by
  have h : laidMetH Tryz.prog (tabs.filter fun x => x.1 == "errors.errorType") W := h0.filter _
  have h' : laidMet Tryz.prog [] W ∧ handlesMet Tryz.prog [("errors.errorType", Rows.laid_errors_errorType)] W := h
  obtain ⟨name, u, ty, e1, e2, e3, e4, e5⟩ := h'.2 _ (List.mem_singleton.2 rfl)
  have en : name = [101, 114, 114, 111, 114] := (Option.some.inj e1).symm
  subst en
  obtain rfl := Option.some.inj (rt_.symm.trans e2)
  have hm : ty ∈ (List.range 264).filter fun t => Tryz.prog.rowNamed t [101, 114, 114, 111, 114] := List.mem_filter.2 ⟨List.mem_range.2 (by rw [← size_]; exact e3), e4⟩
  rw [oneRow_] at hm
  obtain rfl := List.mem_singleton.1 hm
  have hh : typeHandle Tryz.prog 93 = .pointer (some ⟨7, 93, none⟩) := by kernel_rfl
  rw [hh] at e5
  have := World.var?_cell et_ e5 0
  unfold TabE
  simpa using this
/-- A world that meets the condition. -/
noncomputable def laidWorld (os : Os) : World :=
  let w0 := World.laidAll Tryz.prog os (tabs.filter fun x => x.2.handleName?.isNone)
  { w0 with heap := w0.heap.modify 0 fun
      | .cells _ t frozen => .cells #[.iface 185 (.agg #[.pointer (some ⟨7, 93, none⟩)])] t frozen
      | o => o }
theorem tab_of_laid {W : World} (h : laidMetH Tryz.prog tabs W) : TabE W := err_of_laid h
set_option maxRecDepth 100000 in
theorem lifted (os : Os) (started : os.Started) (H : Type) (enc : TypeId × Value → H) :
    ReturnsInHanded {} Tryz.checked os 3 .any (fun w args => (Rows.fnSolvedSpec.pre enc Tryz.prog Tryz.f3 [] false w args ∧ laidMetH Tryz.prog tabs w) ∧ sizedMet enc Tryz.prog Tryz.f3 (OpenSpec.ofChange Rows.fnSolvedSpec) false w args)
      (Rows.fnSolvedSpec.post enc Tryz.prog Tryz.f3 false true false false) := by
  refine returnsInHanded_of_change_and (C := Tryz.checked) (X := fun w _ => laidMetH Tryz.prog tabs w) (fun _ _ _ hh h => h.of_heap hh) own started (by kernel_rfl) Tryz.func3
    (ChangeSpec.witness_at (enc := enc) (C := Tryz.checked) (os := os) (X := fun w _ => laidMetH Tryz.prog tabs w) false (laidWorld os) #[.slice none 0 0] 8 rfl (by kernel_rfl) (by kernel_rfl) (by kernel_rfl) (by kernel_rfl) (by kernel_rfl)
      (laidMetH_of_parts (laidMet_nil _ _) (by kernel_rfl))) ?_
  intro W base args ds gs before hval0 hW _ _ hL _
  have tb := tab_of_laid hL
  have hval : ∀ (j : Nat) t v, Tryz.f3.params[j]? = some t → args[j]? = some v → Value.okWide Tryz.prog W .any base t v := hval0
  have hW' := hW
  obtain ⟨p, q, hA0, hV, rfl, hfz, hnd⟩ := hW
  have hA : DataW.TrodAll enc Tryz.prog W 0 (fun _ => true) true Tryz.f3.params.toList args.toList ds p := hA0
  rw [Tryz.params3] at hA hval
  obtain ⟨v0, vs0, d0, ds0, p0, q0, hargs, rfl, rfl, h0, r0⟩ := trodAll_cons hA
  obtain ⟨rfl, rfl, rfl⟩ := trodAll_nil r0
  obtain rfl : args = #[v0] := by cases args; simp_all
  obtain ⟨rfl, rfl⟩ := trodVars_none hV
  have k0 := h0
  have lt0 : ∀ x ∈ p0, x.block < W.heap.size := by obtain ⟨m, hm⟩ := k0; exact DataW.trod_lt m _ _ _ hm
  obtain ⟨a0, len0, cap0, rfl⟩ := okWide_slice Tryz.underlying22 (hval 0 22 v0 rfl rfl)
  obtain ⟨fuel0, hf0⟩ := h0
  obtain ⟨z0, w0⟩ : ∃ zs, IsRow .u8 W a0 len0 cap0 zs := isRow_of Tryz.underlying22 Tryz.underlying5 (by kernel_rfl) (by simpa [Value.cells] using hf0)
  clear hA0 hval0
  refine (walk a0 len0 cap0 z0 W w0 tb).mono fun e W' ⟨he, bel⟩ => ?_
  subst he
  exact ⟨_, rfl, _, _, _, [], _, [], hW', trodAll_mk1 (shut_bool Tryz.underlying4 _), (trodAll_cons_mk (Below.trod laidOut (by kernel_rfl) (of_decide_eq_true (by kernel_rfl)) k0 bel lt0) trodAll_mk0), rfl, bel.frame _, fun h => by cases h⟩

theorem over : Rows.fnSolvedRow.holds Tryz.pinned (OpenSpec.ofChange Rows.fnSolvedSpec) :=
  OpenClaim.holds_of_wide 3 Tryz.f3 rfl rfl rfl rfl rfl rfl rfl ⟨rfl, rfl, rfl, rfl, rfl⟩ rfl rfl rfl rfl rfl (by kernel_rfl) Tryz.func3 (by kernel_rfl)
    (of_decide_eq_true (by kernel_rfl)) (by unfold Func.isWrapper; first | (rw [if_pos (by decide +kernel)]; kernel_rfl) | (rw [if_neg (by decide +kernel)]; exact ⟨rfl, rfl⟩))
    (fun os started H enc _ => lifted os started H enc)

/-- THE TIED CARD. -/
theorem proved : Rows.FnSolvedCardSaid :=
  Claim7.holds_tied_plain_at .later [] [.handle] true (true, "4ab34b3a0f4cd37d6b23f16d655ff7b8bbf254f31dd6992a61f615a2b1f18fb7") true
    over (fun _ h => by cases h) (by kernel_rfl) (fun _ h => by cases h) fnSolved_row_tie rfl ⟨rfl, rfl⟩ (by kernel_rfl) rfl
    (fun f fn hf hfn => by
      obtain rfl : f = 3 := Option.some.inj ((show Tryz.prog.funcNamed "loop.example/g03411/laws.FnSolved" = some 3 by kernel_rfl).symm.trans hf) |>.symm
      obtain rfl : fn = Tryz.f3 := (Option.some.inj (Tryz.func3.symm.trans hfn)).symm
      exact ⟨by kernel_rfl, fun j t ht => by
        rw [Tryz.params3] at ht
        have hm : t ∈ [22] := by simpa using Array.mem_of_getElem? ht
        have hall : ([22].all fun u => !Tryz.prog.wantsStandIn u) = true := by kernel_rfl
        exact (show Tryz.prog.wantsStandIn t = false by simpa using List.all_eq_true.1 hall t hm)⟩)
    (by kernel_rfl)
#print axioms proved
end Go.Proofs.YtcapddcmnjeloaaGreatDoor.fnSolved
