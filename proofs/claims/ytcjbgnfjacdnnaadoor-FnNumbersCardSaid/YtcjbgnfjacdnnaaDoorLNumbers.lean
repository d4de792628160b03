/-
  Proved: for every slice of bytes, the law FnNumbers returns true: the drawn number is read back from its text, and the drawn quotient rounded down leaves a remainder from 0 on that is less than the divisor.
  Conditions: none beyond the row's own (the argument reads as data; the library's tables read as the program's text lays them, which the card ties).
-/
import Derived.Test.YtcjbgnfjacdnnaaDoorRows
import Derived.Test.YtcjbgnfjacdnnaaDoorLaid
import Derived.Test.YtcjbgnfjacdnnaaDoorTie
import Derived.Test.YtcjbgnfjacdnnaaDoorCards
import Derived.SevenTiedAt
import Derived.ChangeOld
import Derived.Below
import Derived.Test.YtcjbgnfjacdnnaaDoorParseI
import Derived.Test.YtcjbgnfjacdnnaaDoorNumIDiv
import Derived.Test.YtcjbgnfjacdnnaaDoorDrawTwo
import Derived.Test.YtcjbgnfjacdnnaaDoorCode
import Derived.WalkKit
import Derived.ProofKit
import Derived.OpenShut
import Derived.ShutString
import Derived.ChangeOld
import Derived.Below
namespace Go.Proofs.YtcjbgnfjacdnnaaDoor.fnNumbers
open Go.ChangeShapes Go.WideShapes Go.ChangeAt Go.RowKit
open Go.ChangeMaps (open_string shut_string)
set_option linter.unusedVariables false


/-- WHAT THE WALK IS TOLD OF A SLICE OF INTEGERS THAT CAME IN: it is nil; or it leads to a row of 'cap' cells, the numbers 'zs' (the first 'len' are its elements, the rest its spare room), each fitting its kind. -/
def IsRow (k : IntKind) (w : World) (a : Option Addr) (len cap : Nat) (zs : List Int) : Prop :=
  (a = none ∧ len = 0 ∧ cap = 0 ∧ zs = []) ∨
  ∃ x, a = some x ∧ len ≤ cap ∧ cap ≤ maxLen ∧ zs.length = cap ∧ (∀ i, i < zs.length → w.cell? (x.add i) = some (.int k (zs.getD i 0))) ∧ ∀ n ∈ zs, (Lit.int k n).wf = true

theorem codeIn_of_row {w : World} {a : Option Addr} {len cap : Nat} {zs : List Int} (h : IsRow .u8 w a len cap zs) : CodeIn w a len := by
  rcases h with ⟨rfl, rfl, rfl, rfl⟩ | ⟨x, rfl, hl, hm, hz, hcell, hwf⟩
  · exact codeIn_none w
  · exact codeIn_some hl hm hz hcell hwf
theorem drawDiv (w : World) (a : Option Addr) (len cap : Nat) (hc : CodeIn w a len) :
    Calls Tryd.prog 13 #[.slice a len cap] w (TwoInts (fun r s => In64 r ∧ In64 s) w) := by
  have HC := Lib.hid hc
  clear hc
  go_enter Tryd.func13, Tryd.ntmps13
  go_wp2_with (fail)
  refine (l1Two w a len cap HC.out).mono ?_
  rintro e w1 ⟨r, s, hrs, rfl, hb⟩
  have R := Lib.hid hrs
  have B := Lib.hid hb
  clear hrs hb
  go_wp2_with (fail)
  go_ret2
  exact ⟨r, s, R.out, rfl, B.out⟩
/-- One int of 64 bits is returned; of what was there nothing has changed. -/
def OneInt (w : World) (e : Ending) (w' : World) : Prop := ∃ r : Int, (-9223372036854775808 ≤ r ∧ r ≤ 9223372036854775807) ∧ e = .returned (.int .i64 r) ∧ Below w.heap.size w w'
theorem drawFmt (w : World) (a : Option Addr) (len cap : Nat) (hc : CodeIn w a len) : Calls Tryd.prog 11 #[.slice a len cap] w (OneInt w) := by
  have HC := Lib.hid hc
  clear hc
  go_enter Tryd.func11, Tryd.ntmps11
  go_wp2_with (fail)
  refine (l1New w a len cap HC.out).mono ?_
  rintro e w1 ⟨cb, rfl, hcb, hc1, hb1⟩
  have CB := Lib.hid hcb
  have C1 := Lib.hid hc1
  have B1 := Lib.hid hb1
  clear hcb hc1 hb1
  go_wp2_with (fail)
  refine (l1Once w1 cb 4 C1.out (by omega)).mono ?_
  rintro e w2 ⟨r, rfl, hc2, hg2⟩
  have C2 := Lib.hid hc2
  have G2 := Lib.hid hg2
  clear hc2 hg2
  cases r with
  | true =>
    go_wp2_with (fail)
    refine (l1Odd w2 cb C2.out).mono ?_
    rintro e w3 ⟨s, hs, rfl, hc3, hg3⟩
    have S := Lib.hid hs
    have G3 := Lib.hid (G2.out.trans hg3)
    clear hc3 hg3 hs
    go_wp2_with (fail)
    go_ret
    exact ⟨s, S.out, rfl, B1.out.trans (below_of_one G3.out CB.out B1.out.size)⟩
  | false =>
    go_wp2_with (fail)
    refine (l1Below w2 cb 1000000 C2.out (by omega)).mono ?_
    rintro e w3 ⟨s, ⟨s0, s1⟩, rfl, hc3, hg3⟩
    have G3 := Lib.hid (G2.out.trans hg3)
    clear hc3 hg3
    go_wp2_with (fail)
    go_ret
    exact ⟨s - 500000, ⟨by omega, by omega⟩, rfl, B1.out.trans (below_of_one G3.out CB.out B1.out.size)⟩
theorem labs_p (n : Int) (w : World) (h1 : 0 ≤ n) (h2 : n ≤ 400000000) :
    Calls Tryd.prog 15 #[.int .i64 n] w fun e w' => e = .returned (.int .i64 n) ∧ w = w' := by
  go_enter Tryd.func15, Tryd.ntmps15
  go_wp2
  all_goals
    go_ret
    exact ⟨ret_int (by omega), rfl⟩
theorem labs_n (n : Int) (w : World) (h1 : 0 < n) (h2 : n ≤ 400000000) :
    Calls Tryd.prog 15 #[.int .i64 (-n)] w fun e w' => e = .returned (.int .i64 n) ∧ w = w' := by
  go_enter Tryd.func15, Tryd.ntmps15
  go_wp2
  all_goals
    go_ret
    exact ⟨ret_int (by omega), rfl⟩
/-- What a quotient rounded down leaves. -/
theorem div_facts (a d : Int) (a1 : -400000000 ≤ a) (a2 : a ≤ 400000000) (d1 : -400000000 ≤ d) (d2 : d ≤ 400000000) (d0 : d ≠ 0) :
    ∃ q r D : Int, (∀ w : World, Calls Tryd.prog 14 #[.int .i64 a, .int .i64 d] w fun e w' => e = .returned (.tuple #[.int .i64 q, .int .i64 r, .bool true]) ∧ ∃ n, w' = w.drewN n) ∧
      (∀ w : World, Calls Tryd.prog 15 #[.int .i64 d] w fun e w' => e = .returned (.int .i64 D) ∧ w = w') ∧ a = q * d + r ∧ 0 ≤ r ∧ r < D ∧ -800000000 ≤ q * d ∧ q * d ≤ 800000000 ∧ r ≤ 400000000 := by
  have e := Int.mul_ediv_add_emod a d
  have r0 := Int.emod_nonneg a d0
  have r1 := Int.emod_lt a d0
  have e' : a / d * d + a % d = a := by rw [Int.mul_comm]; exact e
  rcases Int.lt_or_le 0 d with hd | hd
  · exact ⟨a / d, a % d, d, fun w => iDiv a d w a1 a2 d1 d2 d0, fun w => labs_p d w (by omega) d2, e'.symm, r0, by omega, by omega, by omega, by omega⟩
  · obtain ⟨c, hc⟩ : ∃ c, d = -c := ⟨-d, by omega⟩
    refine ⟨a / d, a % d, c, fun w => iDiv a d w a1 a2 d1 d2 d0, fun w => ?_, e'.symm, r0, by omega, by omega, by omega, by omega⟩
    rw [hc]
    exact labs_n c w (by omega) (by omega)

theorem walk (a0 : Option Addr) (len0 cap0 : Nat) (z0 : List Int) (w : World) (w0 : IsRow .u8 w a0 len0 cap0 z0) (tb : Tab w) :
    Calls Tryd.prog 5 #[.slice a0 len0 cap0] w fun e w' => e = .returned (.bool true) ∧ Below w.heap.size w w' := by
  have hc : CodeIn w a0 len0 := codeIn_of_row w0
  have hl := hc.1
  have HC := Lib.hid hc
  have TB := Lib.hid tb
  clear w0 hc tb
  unfold maxLen at hl
  by_cases hbig : len0 ≤ 1048576
  · go_enter Tryd.func5, Tryd.ntmps5
    go_wp2_with (fail)
    refine (big_no w a0 len0 cap0 hbig).mono ?_
    rintro e w1 ⟨rfl, rfl⟩
    go_wp2_with (fail)
    refine (drawFmt w a0 len0 cap0 HC.out).mono ?_
    rintro e w1 ⟨n, ⟨n1, n2⟩, rfl, hb1⟩
    have B1 := Lib.hid hb1
    have T1 := Lib.hid (TB.out.below hb1)
    clear hb1
    go_wp2_with (fail)
    refine (iFmt n _ n1 n2 T1.out).mono ?_
    rintro e w2 ⟨rfl, hb2⟩
    have B2 := Lib.hid (B1.out.trans (hb2.mono B1.out.size))
    have T2 := Lib.hid (T1.out.below hb2)
    clear hb2
    by_cases hn : -400000000 ≤ n ∧ n ≤ 400000000
    · obtain ⟨m1, m2⟩ := hn
      go_wp2_with (fail)
      refine (iParse_yes _ n m1 m2 (by simp) _ T2.out).mono ?_
      rintro e w3 ⟨rfl, hb3⟩
      have B3 := Lib.hid (B2.out.trans (hb3.mono B2.out.size))
      clear hb3
      go_wp2_with (fail)
      refine (sIsNum_t n _ m1 m2).mono ?_
      rintro e w4 ⟨rfl, rfl⟩
      go_wp2_with (fail)
      refine (drawDiv _ a0 len0 cap0 (HC.out.below B3.out)).mono ?_
      rintro e w4 ⟨a, d, -, rfl, hb4⟩
      have B4 := Lib.hid (B3.out.trans (hb4.mono B3.out.size))
      clear hb4
      by_cases h : (-400000000 ≤ a ∧ a ≤ 400000000) ∧ (-400000000 ≤ d ∧ d ≤ 400000000) ∧ d ≠ 0
      · obtain ⟨⟨a1, a2⟩, ⟨d1, d2⟩, d0⟩ := h
        obtain ⟨q, r, D, hK, hA, e, r0, r1, b1, b2, b3⟩ := div_facts a d a1 a2 d1 d2 d0
        have KK := Lib.hid hK
        have AA := Lib.hid hA
        have E : (a == q * d + r) = true := by rw [beq_iff_eq]; exact e
        clear hK hA e d0
        go_wp2_with (fail)
        refine (KK.out _).mono ?_
        rintro e w5 ⟨rfl, n5, rfl⟩
        go_wp2_with (fail)
        refine (AA.out _).mono ?_
        rintro e w6 ⟨rfl, rfl⟩
        go_wp2_with (fail)
        go_ret
        exact ⟨rfl, below_drewN B4.out _⟩
      · have H := Lib.hid h
        clear h
        go_wp2_with (fail)
        refine (iDiv_f a d _ H.out).mono ?_
        rintro e w5 ⟨rfl, rfl⟩
        go_wp2_with (fail)
        go_ret
        exact ⟨rfl, B4.out⟩
    · have hn' : n < -400000000 ∨ 400000000 < n := by omega
      have hno : ∀ v : Int, -400000000 ≤ v → v ≤ 400000000 → (ByteArray.mk (Lib.itoa n).toArray).data.toList ≠ Lib.itoa v := fun v h1 h2 h => by
        have := itoa_inj n v (by simpa using h)
        omega
      have HN := Lib.hid hno
      clear hn hno
      go_wp2_with (fail)
      refine (iParse_no _ HN.out _ T2.out).mono ?_
      rintro e w3 ⟨rfl, hb3⟩
      have B3 := Lib.hid (B2.out.trans (hb3.mono B2.out.size))
      clear hb3
      go_wp2_with (fail)
      refine (sIsNum_f n _ hn').mono ?_
      rintro e w4 ⟨rfl, rfl⟩
      go_wp2_with (fail)
      refine (drawDiv _ a0 len0 cap0 (HC.out.below B3.out)).mono ?_
      rintro e w4 ⟨a, d, -, rfl, hb4⟩
      have B4 := Lib.hid (B3.out.trans (hb4.mono B3.out.size))
      clear hb4
      by_cases h : (-400000000 ≤ a ∧ a ≤ 400000000) ∧ (-400000000 ≤ d ∧ d ≤ 400000000) ∧ d ≠ 0
      · obtain ⟨⟨a1, a2⟩, ⟨d1, d2⟩, d0⟩ := h
        obtain ⟨q, r, D, hK, hA, e, r0, r1, b1, b2, b3⟩ := div_facts a d a1 a2 d1 d2 d0
        have KK := Lib.hid hK
        have AA := Lib.hid hA
        have E : (a == q * d + r) = true := by rw [beq_iff_eq]; exact e
        clear hK hA e d0
        go_wp2_with (fail)
        refine (KK.out _).mono ?_
        rintro e w5 ⟨rfl, n5, rfl⟩
        go_wp2_with (fail)
        refine (AA.out _).mono ?_
        rintro e w6 ⟨rfl, rfl⟩
        go_wp2_with (fail)
        go_ret
        exact ⟨rfl, below_drewN B4.out _⟩
      · have H := Lib.hid h
        clear h
        go_wp2_with (fail)
        refine (iDiv_f a d _ H.out).mono ?_
        rintro e w5 ⟨rfl, rfl⟩
        go_wp2_with (fail)
        go_ret
        exact ⟨rfl, B4.out⟩
  · have hbig' : 1048576 < len0 := by omega
    clear hbig
    go_enter Tryd.func5, Tryd.ntmps5
    go_wp2_with (fail)
    refine (big_yes w a0 len0 cap0 hbig').mono ?_
    rintro e w1 ⟨rfl, rfl⟩
    go_wp2_with (fail)
    go_ret
    exact ⟨rfl, Below.refl _ _⟩

/-! ### THE ROW's STEP: WRITTEN OUT: LEAVE IT -/
set_option maxRecDepth 100000 in
theorem lifted (os : Os) (started : os.Started) (H : Type) (enc : TypeId × Value → H) :
    ReturnsInHanded {} Tryd.checked os 5 .any (fun w args => (Rows.fnNumbersSpec.pre enc Tryd.prog Tryd.f5 [] false w args ∧ laidMetH Tryd.prog tabs w) ∧ sizedMet enc Tryd.prog Tryd.f5 (OpenSpec.ofChange Rows.fnNumbersSpec) false w args)
      (Rows.fnNumbersSpec.post enc Tryd.prog Tryd.f5 false true false false) := by
  refine returnsInHanded_of_change_and (C := Tryd.checked) (X := fun w _ => laidMetH Tryd.prog tabs w) (fun _ _ _ hh h => h.of_heap hh) own started (by kernel_rfl) Tryd.func5
    (ChangeSpec.witness_shaped (enc := enc) (C := Tryd.checked) (os := os) (X := fun w _ => laidMetH Tryd.prog tabs w) false (World.doorLaid Tryd.prog 24 os) #[.slice none 0 0] 8 rfl (World.shaped_of_RefB (by kernel_rfl) (by kernel_rfl)) (by kernel_rfl) (by kernel_rfl) (by kernel_rfl) (door_met os _)) ?_
  intro W base args ds gs before hval0 hW _ _ hL _
  have tb := tab_of_laid hL
  have hval : ∀ (j : Nat) t v, Tryd.f5.params[j]? = some t → args[j]? = some v → Value.okWide Tryd.prog W .any base t v := hval0
  have hW' := hW
  obtain ⟨p, q, hA0, hV, rfl, hfz, hnd⟩ := hW
  have hA : DataW.TrodAll enc Tryd.prog W 0 (fun _ => true) true Tryd.f5.params.toList args.toList ds p := hA0
  rw [Tryd.params5] at hA hval
  obtain ⟨v0, vs0, d0, ds0, p0, q0, hargs, rfl, rfl, h0, r0⟩ := trodAll_cons hA
  obtain ⟨rfl, rfl, rfl⟩ := trodAll_nil r0
  obtain rfl : args = #[v0] := by cases args; simp_all
  obtain ⟨rfl, rfl⟩ := trodVars_none hV
  obtain ⟨a0, len0, cap0, rfl⟩ := okWide_slice Tryd.underlying27 (hval 0 27 v0 rfl rfl)
  have k0 := h0
  have lt0 : ∀ x ∈ p0, x.block < W.heap.size := by obtain ⟨m, hm⟩ := k0; exact DataW.trod_lt m _ _ _ hm
  obtain ⟨z0, w0⟩ : ∃ zs, IsRow .u8 W a0 len0 cap0 zs := by
    obtain ⟨fuel, hf⟩ := h0
    rcases open_ints Tryd.underlying27 Tryd.underlying5 (by kernel_rfl) hf with ⟨hcs, _⟩ | ⟨x, l, c, zs, hcs, _, hl, hm, hz, _, hcell, hwz⟩
    · simp [Value.cells] at hcs
      obtain ⟨rfl, rfl, rfl⟩ := hcs
      exact ⟨[], .inl ⟨rfl, rfl, rfl, rfl⟩⟩
    · simp [Value.cells] at hcs
      obtain ⟨rfl, rfl, rfl⟩ := hcs
      exact ⟨zs, .inr ⟨_, rfl, hl, hm, by simpa using hz, hcell, hwz⟩⟩
  clear hA0 hval0
  refine (walk a0 len0 cap0 z0 W w0 tb).mono fun e W' ⟨he, bel⟩ => ?_
  subst he
  exact ⟨_, rfl, _, _, _, [], _, [], hW', trodAll_mk1 (shut_bool Tryd.underlying4 _), (trodAll_cons_mk (Below.trod laidOut (by kernel_rfl) (of_decide_eq_true (by kernel_rfl)) k0 bel lt0) trodAll_mk0), rfl, bel.frame _, fun h => by cases h⟩

theorem over : Rows.fnNumbersRow.holds Tryd.pinned (OpenSpec.ofChange Rows.fnNumbersSpec) :=
  OpenClaim.holds_of_wide 5 Tryd.f5 rfl rfl rfl rfl rfl rfl rfl ⟨rfl, rfl, rfl, rfl, rfl⟩ rfl rfl rfl rfl rfl (by kernel_rfl) Tryd.func5 (by kernel_rfl)
    (of_decide_eq_true (by kernel_rfl)) (by unfold Func.isWrapper; first | (rw [if_pos (by decide +kernel)]; kernel_rfl) | (rw [if_neg (by decide +kernel)]; exact ⟨rfl, rfl⟩))
    (fun os started H enc _ => lifted os started H enc)

/-- THE TIED CARD. -/
theorem proved : Rows.FnNumbersCardSaid :=
  Claim7.holds_tied_plain_at .later [] [.data, .data, .data] true (true, "b47c65eb1fab6229a5e0afc9ee72c42866f67319fcff980ceb0ba0f8d1320d15") false
    over (fun _ h => by cases h) (by kernel_rfl) (fun _ h => by cases h) fnNumbers_row_tie rfl ⟨rfl, rfl⟩ (by kernel_rfl) rfl
    (fun f fn hf hfn => by
      obtain rfl : f = 5 := Option.some.inj ((show Tryd.prog.funcNamed "loop.example/g03411/laws.FnNumbers" = some 5 by kernel_rfl).symm.trans hf) |>.symm
      obtain rfl : fn = Tryd.f5 := (Option.some.inj (Tryd.func5.symm.trans hfn)).symm
      exact ⟨by kernel_rfl, fun j t ht => by
        rw [Tryd.params5] at ht
        have hm : t ∈ [27] := by simpa using Array.mem_of_getElem? ht
        have hall : ([27].all fun u => !Tryd.prog.wantsStandIn u) = true := by kernel_rfl
        exact (show Tryd.prog.wantsStandIn t = false by simpa using List.all_eq_true.1 hall t hm)⟩)
    (by kernel_rfl)
#print axioms proved
end Go.Proofs.YtcjbgnfjacdnnaaDoor.fnNumbers
