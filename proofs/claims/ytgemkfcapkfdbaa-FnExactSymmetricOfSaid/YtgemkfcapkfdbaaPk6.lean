/-
  Texts of this seat, joined: McI · TwoL · ChiI
-/
import Derived.Maps.AppendAt
import Derived.BigQuiet
import Derived.Deep.QuietTactic
import Derived.Test.YtgemkfcapkfdbaaPk1
import Derived.Test.YtgemkfcapkfdbaaPk2
import Derived.Test.YtgemkfcapkfdbaaPk4
import Derived.Test.YtgemkfcapkfdbaaPk5

section
/-
  Chapter 9, in the program: residue classes and what meets in them.
-/
namespace Go.Proofs.Ytgemkfcapkfdbaa
set_option maxRecDepth 100000
open Go.RowKit

/-- One class more, as the program joins it. -/
theorem chi_meet {rs ms : List Int} {i : Nat} {x : Int} (hm : modB ms = true) (hi : i < ms.length) (h : ChiP (atL rs) (atL ms) i x) :
    ∃ p r P u z T : Int, ms.getD i 0 = p ∧ rs.getD i 0 = r ∧ prodI (atL ms) i = P ∧ (2 ≤ p ∧ p ≤ 400000000) ∧ (1 ≤ P ∧ P ≤ 400000000) ∧ (0 ≤ x ∧ x ≤ 400000000) ∧ egAns P p = (1, u, z) ∧ (-400000000 ≤ u ∧ u ≤ 400000000) ∧ (r - x) * u % p = T ∧ (0 ≤ T * P ∧ T * P ≤ 400000000) ∧ (0 ≤ x + T * P ∧ x + T * P ≤ 400000000) ∧ (1 ≤ P * p ∧ P * p ≤ 400000000) ∧ ChiP (atL rs) (atL ms) (i + 1) (x + T * P) ∧ prodI (atL ms) (i + 1) = P * p := by
  obtain ⟨-, hmo, hr, hp⟩ := modB_says hm
  obtain ⟨p2, p4⟩ := hr i hi
  have P1 := (hmo.less (Nat.le_of_lt hi)).pos
  have P4 := hp i (by omega)
  have Q4 := hp (i + 1) hi
  have eQ : prodI (atL ms) (i + 1) = prodI (atL ms) i * atL ms i := rfl
  obtain ⟨x0, x1⟩ := h.1
  obtain ⟨u, z, e, huz, b1, b2, -, -⟩ := egAns_is (prodI (atL ms) i) (atL ms i) ⟨by omega, by omega⟩ ⟨by omega, by omega⟩
  have hg : ((prodI (atL ms) i).gcd (atL ms i) : Int) = 1 := by rw [(hmo i hi).2]; rfl
  have st := h.step (u := u) (by omega) P1 ⟨-z, by rw [hg] at huz; rw [Int.mul_neg]; omega⟩
  obtain ⟨t0, t1⟩ := chT_can (x := x) (r := atL rs i) (p := atL ms i) (u := u) (by omega)
  have m0 : 0 ≤ prodI (atL ms) i * chT x (atL rs i) (atL ms i) u := Int.mul_nonneg (by omega) t0
  have s1 := st.1.2
  have q1 : 0 < prodI (atL ms) i * atL ms i := Int.mul_pos P1 (by omega)
  rw [hg] at e
  have eT : (atL rs i - x) * u % atL ms i = chT x (atL rs i) (atL ms i) u := Int.mul_emod _ _ _
  rw [Int.mul_comm] at m0
  rw [Int.mul_comm (prodI (atL ms) i) (chT x (atL rs i) (atL ms i) u)] at st s1
  exact ⟨atL ms i, atL rs i, prodI (atL ms) i, u, z, chT x (atL rs i) (atL ms i) u, rfl, rfl, rfl, ⟨p2, p4⟩, ⟨by omega, P4⟩, ⟨x0, by omega⟩, e, ⟨b1, b2⟩, eT, ⟨m0, by omega⟩, ⟨by omega, by omega⟩, ⟨by omega, by omega⟩, st, rfl⟩
set_option maxHeartbeats 2000000 in
theorem iMeet (x P r p u z T : Int) (w : World) (hx : 0 ≤ x ∧ x ≤ 400000000) (hP : 1 ≤ P ∧ P ≤ 400000000) (hr : -400000000 ≤ r ∧ r ≤ 400000000) (hp : 2 ≤ p ∧ p ≤ 400000000) (he : egAns P p = (1, u, z)) (hu : -400000000 ≤ u ∧ u ≤ 400000000) (hT : (r - x) * u % p = T) (h1 : 0 ≤ T * P ∧ T * P ≤ 400000000) (h2 : 0 ≤ x + T * P ∧ x + T * P ≤ 400000000) (h3 : 1 ≤ P * p ∧ P * p ≤ 400000000) :
    Calls Try.prog 72 #[.agg #[.int .i64 x, .int .i64 P], .agg #[.int .i64 r, .int .i64 p]] w (Gives (.agg #[.int .i64 (x + T * P), .int .i64 (P * p)]) w) := by
  obtain ⟨x0, x1⟩ := hx
  obtain ⟨P0, P1⟩ := hP
  obtain ⟨r0, r1⟩ := hr
  obtain ⟨p0, p1⟩ := hp
  obtain ⟨u0, u1⟩ := hu
  have HX : Hid (egVal (egAns P p) = .tuple #[.int .i64 1, .int .i64 u, .int .i64 z, .bool true]) := by show _ = _; rw [he]; rfl
  obtain ⟨A, hA⟩ : ∃ A, r - x = A := ⟨_, rfl⟩
  have d1 : IntKind.i64.wrap (r - x) = A := by rw [hA]; exact IntWalk.i64_in _ (by omega)
  have bA : (-800000000 ≤ A ∧ A ≤ 800000000) := by omega
  obtain ⟨C, hC⟩ : ∃ C, A * u = C := ⟨_, rfl⟩
  have bC : -320000000000000000 ≤ C ∧ C ≤ 320000000000000000 := by
    have h1 : (A * u).natAbs = A.natAbs * u.natAbs := Int.natAbs_mul _ _
    have h2 : A.natAbs * u.natAbs ≤ 800000000 * 400000000 := Nat.mul_le_mul (by omega) (by omega)
    omega
  have d2 : IntKind.i64.wrap (A * u) = C := by rw [hC]; exact IntWalk.i64_in _ (by omega)
  rw [hA, hC] at hT
  obtain ⟨t1, t2⟩ := (⟨by have := Int.tmod_lt_of_pos (-C) (show 0 < p by omega); rw [Int.neg_tmod] at this; omega, Int.tmod_lt_of_pos C (by omega)⟩ : -p < C.tmod p ∧ C.tmod p < p)
  have HU := Lib.hid (tdiv_up C p (by omega))
  have HD := Lib.hid (tdiv_down C p (by omega))
  obtain ⟨T0, hT0⟩ : ∃ T0, C.tmod p = T0 := ⟨_, rfl⟩
  rw [hT0] at t1 t2 HU HD
  have HT := Lib.hid hT
  obtain ⟨M, hM⟩ : ∃ M, T * P = M := ⟨_, rfl⟩
  rw [hM] at h1 h2 ⊢
  have d4 : IntKind.i64.wrap (T * P) = M := by rw [hM]; exact IntWalk.i64_in _ (by omega)
  obtain ⟨E, hE⟩ : ∃ E, x + M = E := ⟨_, rfl⟩
  rw [hE] at h2 ⊢
  have d5 : IntKind.i64.wrap (x + M) = E := by rw [hE]; exact IntWalk.i64_in _ (by omega)
  obtain ⟨F, hF⟩ : ∃ F, P * p = F := ⟨_, rfl⟩
  rw [hF] at h3 ⊢
  have d6 : IntKind.i64.wrap (P * p) = F := by rw [hF]; exact IntWalk.i64_in _ (by omega)
  have n0 : (p == 0) = false := by simp; omega
  clear hA hC hT hM hE hF he bA
  go_enter Try.func72, Try.ntmps72
  go_upto_region 1 with fail
  have K2 : Hid (Blk2 (((w.alloc (.cells #[.int .i64 x, .int .i64 P] 53)).alloc (.cells #[.int .i64 r, .int .i64 p] 53)).alloc (.cells #[.int .i64 0, .int .i64 0] 53)) w.heap.size 53 (.int .i64 x) (.int .i64 P)) := ((Blk2.at_ _ _ _ rfl).old _).old _
  have K3 : Hid (Blk2 (((w.alloc (.cells #[.int .i64 x, .int .i64 P] 53)).alloc (.cells #[.int .i64 r, .int .i64 p] 53)).alloc (.cells #[.int .i64 0, .int .i64 0] 53)) (w.heap.size + 1) 53 (.int .i64 r) (.int .i64 p)) := (Blk2.at_ _ _ _ (by simp)).old _
  have K4 : Hid (Blk2 (((w.alloc (.cells #[.int .i64 x, .int .i64 P] 53)).alloc (.cells #[.int .i64 r, .int .i64 p] 53)).alloc (.cells #[.int .i64 0, .int .i64 0] 53)) (w.heap.size + 2) 53 (.int .i64 0) (.int .i64 0)) := Blk2.at_ _ _ _ (by simp)
  have B : Hid (Below w.heap.size w (((w.alloc (.cells #[.int .i64 x, .int .i64 P] 53)).alloc (.cells #[.int .i64 r, .int .i64 p] 53)).alloc (.cells #[.int .i64 0, .int .i64 0] 53))) := (((Below.refl _ _).alloc (Nat.le_refl _) _).alloc (by simp) _).alloc (by simp; omega) _
  generalize (((w.alloc (.cells #[.int .i64 x, .int .i64 P] 53)).alloc (.cells #[.int .i64 r, .int .i64 p] 53)).alloc (.cells #[.int .i64 0, .int .i64 0] 53)) = W at K2 K3 K4 B ⊢
  obtain ⟨a0, a1, -, -⟩ := K2.out.all
  obtain ⟨c0, c1, -, -⟩ := K3.out.all
  go_wp2_with fail
  refine (iExt P p _ ⟨by omega, P1⟩ ⟨by omega, p1⟩).mono ?_
  rintro e w1 ⟨rfl, hb⟩
  rw [HX.out]
  have l2 := K2.out.lt
  have l3 := K3.out.lt
  have l4 := K4.out.lt
  have K2 := Lib.hid (K2.out.keep hb K2.out.lt)
  have K3 := Lib.hid (K3.out.keep hb K3.out.lt)
  have K4 := Lib.hid (K4.out.keep hb K4.out.lt)
  have B := Lib.hid (B.out.trans (hb.mono B.out.size))
  clear hb a0 a1 c0 c1 HX
  obtain ⟨a0, a1, -, -⟩ := K2.out.all
  obtain ⟨c0, c1, -, -⟩ := K3.out.all
  obtain ⟨f0, f1, f2, f3⟩ := K4.out.all
  by_cases hneg : T0 < 0
  · have eT : T0 + p = T := (HD.out hneg).2.symm.trans HT.out
    have d3 : IntKind.i64.wrap (T0 + p) = T := by rw [eT]; exact IntWalk.i64_in _ (by omega)
    clear eT
    go_wp2_with fail
    obtain ⟨E0, E1, -, -⟩ := ((K4.out.set0 (.int .i64 E)).set1 (.int .i64 F)).all
    exact bodyPost_ret (v := .agg #[.int .i64 E, .int .i64 F]) (by simp [results, Try.results72, go_sem, E0, E1]) rfl ⟨rfl, (B.out.setCell (by simp; omega) _).setCell (by simp; omega) _⟩
  · have eT : T0 = T := (HU.out (by omega)).2.symm.trans HT.out
    subst eT
    go_wp2_with fail
    obtain ⟨E0, E1, -, -⟩ := ((K4.out.set0 (.int .i64 E)).set1 (.int .i64 F)).all
    exact bodyPost_ret (v := .agg #[.int .i64 E, .int .i64 F]) (by simp [results, Try.results72, go_sem, E0, E1]) rfl ⟨rfl, (B.out.setCell (by simp; omega) _).setCell (by simp; omega) _⟩

/-! ### Classes in a row -/
def flat2 (rs ms : List Int) (n : Nat) : List Value := (List.range n).flatMap fun q => [.int .i64 (rs.getD q 0), .int .i64 (ms.getD q 0)]
theorem flat2_succ (rs ms : List Int) (n : Nat) : flat2 rs ms (n + 1) = flat2 rs ms n ++ [.int .i64 (rs.getD n 0), .int .i64 (ms.getD n 0)] := by unfold flat2; rw [List.range_succ, List.flatMap_append]; rfl
theorem flat2_length (rs ms : List Int) : ∀ n, (flat2 rs ms n).length = n * 2
  | 0 => rfl
  | n + 1 => by rw [flat2_succ, List.length_append, flat2_length rs ms n]; simp; omega
theorem flat2_at (rs ms : List Int) : ∀ {n q : Nat}, q < n → (flat2 rs ms n)[q * 2]? = some (.int .i64 (rs.getD q 0)) ∧ (flat2 rs ms n)[q * 2 + 1]? = some (.int .i64 (ms.getD q 0))
  | 0, q, h => by omega
  | n + 1, q, h => by
    have hl := flat2_length rs ms n
    rw [flat2_succ]
    rcases Nat.lt_or_ge q n with h1 | h1
    · obtain ⟨a, b⟩ := flat2_at rs ms h1
      rw [List.getElem?_append_left (by omega), List.getElem?_append_left (by omega)]
      exact ⟨a, b⟩
    · obtain rfl : q = n := by omega
      rw [List.getElem?_append_right (by omega), List.getElem?_append_right (by omega), hl]
      constructor
      · rw [Nat.sub_self]; rfl
      · rw [show q * 2 + 1 - q * 2 = 1 by omega]; rfl
/-- A slice that shows n classes. -/
def RdC (w : World) (a : Option Addr) (rs ms : List Int) (n : Nat) : Prop :=
  ∀ q : Nat, q < n → ∃ b o : Nat, a = some ⟨b, o, none⟩ ∧ b < w.heap.size ∧ w.cell? ⟨b, o + q * 2, none⟩ = some (.int .i64 (rs.getD q 0)) ∧ w.cell? ⟨b, o + q * 2 + 1, none⟩ = some (.int .i64 (ms.getD q 0))
theorem RdC.below {w w' : World} {a : Option Addr} {rs ms : List Int} {n : Nat} (h : RdC w a rs ms n) (hb : Below w.heap.size w w') : RdC w' a rs ms n := fun q hq => by
  obtain ⟨b, o, e, hl, h0, h1⟩ := h q hq
  have c : ∀ x : Nat, w'.cell? ⟨b, x, none⟩ = w.cell? ⟨b, x, none⟩ := fun x => (bcell hb).1 b x hl
  exact ⟨b, o, e, Nat.lt_of_lt_of_le hl hb.size, by rw [c]; exact h0, by rw [c]; exact h1⟩
theorem RdC.of_row {w : World} {B n m c : Nat} {a : Option Addr} {rs ms : List Int} (h : w.ownsRow B 53 2 (.slice a m c) n (flat2 rs ms n)) : RdC w a rs ms n := fun q hq => by
  obtain ⟨-, ⟨-, h2⟩ | ⟨g, cap, cur, e, -, hg, -, -, -, ht⟩⟩ := h
  · omega
  · injection e with e1
    subst e1
    obtain ⟨f0, f1⟩ := flat2_at rs ms hq
    rw [← ht] at f0 f1
    rw [List.getElem?_take] at f0 f1
    have i0 : (q * 2 < n * 2) := by omega
    have i1 : (q * 2 + 1 < n * 2) := by omega
    rw [if_pos i0] at f0
    rw [if_pos i1] at f1
    refine ⟨g, 0, rfl, lt_of_block hg, ?_, ?_⟩
    · simp only [World.cell?, hg, Nat.zero_add]
      simpa using f0
    · simp only [World.cell?, hg, Nat.zero_add]
      simpa using f1
theorem info_cls : (Try.prog.info? 53).map (fun i => (i.zero, i.size, i.bytes)) = some (some (.agg #[.int .i64 0, .int .i64 0]), 2, 16) := by kernel_rfl
theorem underlying_cls : Try.prog.underlying 50 = some (.slice 53) := by kernel_rfl
theorem facts_cls : ∃ i, Try.prog.info? 53 = some i ∧ i.zero = some (.agg #[.int .i64 0, .int .i64 0]) ∧ i.size = 2 ∧ i.bytes = 16 := by
  have h := info_cls
  cases hi : Try.prog.info? 53 with
  | none => rw [hi] at h; simp at h
  | some i => rw [hi] at h; simp only [Option.map_some, Option.some.injEq, Prod.mk.injEq] at h; exact ⟨i, rfl, h.1, h.2.1, h.2.2⟩
theorem cells2_new (w : World) (t : TypeId) (p q : Value) : ∀ j u, [p, q][j]? = some u → (w.alloc (.cells #[p, q] t)).cell? ((⟨w.heap.size, 0, none⟩ : Addr).add j) = some u := by
  intro j u hu
  obtain ⟨c0, c1, -, -⟩ := (Blk2.at_ t p q (rfl : w.heap.size = w.heap.size)).all
  match j, hu with
  | 0, h => simp only [List.getElem?_cons_zero, Option.some.injEq] at h; subst h; exact c0
  | 1, h => simp only [List.getElem?_cons_succ, List.getElem?_cons_zero, Option.some.injEq] at h; subst h; exact c1
  | j + 2, h => simp at h
set_option maxHeartbeats 2000000 in
theorem iMeetAll (a : Option Addr) (m : Nat) (rs ms : List Int) (w : World) (h : RdC w a rs ms ms.length) (hm : modB ms = true) (hr : ∀ k, k < ms.length → NumP (rs.getD k 0)) (hn : ms.length ≤ 16777216) :
    Calls Try.prog 37 #[.slice a ms.length m] w (fun e w' => ∃ x, e = .returned (.agg #[.int .i64 x, .int .i64 (prodI (atL ms) ms.length)]) ∧ ChiP (atL rs) (atL ms) ms.length x ∧ Below w.heap.size w w') := by
  have ST : Hid (∀ (i : Nat) (x : Int), i < ms.length → ChiP (atL rs) (atL ms) i x → _) := fun i x h2 h3 => chi_meet hm h2 h3
  have NU : Hid (∀ k, k < ms.length → NumP (rs.getD k 0)) := hr
  have Z := Lib.hid (ChiP.zero (atL rs) (atL ms))
  have RD := Lib.hid h
  have PZ : Hid (prodI (atL ms) 0 = 1) := rfl
  obtain ⟨N, hN⟩ : ∃ N, ms.length = N := ⟨_, rfl⟩
  rw [hN] at ST NU RD hn ⊢
  clear h hm hr hN
  go_enter Try.func37, Try.ntmps37
  go_wp2_with fail
  have ST0 : Hid (Blk2 ((w.alloc (.cells #[.int .i64 0, .int .i64 0] 53)).alloc (.cells #[.int .i64 0, .int .i64 1] 53)) w.heap.size 53 (.int .i64 0) (.int .i64 0) ∧ Blk2 ((w.alloc (.cells #[.int .i64 0, .int .i64 0] 53)).alloc (.cells #[.int .i64 0, .int .i64 1] 53)) (w.heap.size + 1) 53 (.int .i64 0) (.int .i64 1) ∧ Below w.heap.size w ((w.alloc (.cells #[.int .i64 0, .int .i64 0] 53)).alloc (.cells #[.int .i64 0, .int .i64 1] 53))) :=
    ⟨(Blk2.at_ _ _ _ rfl).old _, Blk2.at_ _ _ _ (by simp), ((Below.refl _ _).alloc (Nat.le_refl _) _).alloc (by simp) _⟩
  go_loopw [9] (fun v9 wr => ∃ (i : Nat) (x P : Int), v9 = .int .i64 i ∧ i ≤ N ∧ ChiP (atL rs) (atL ms) i x ∧ prodI (atL ms) i = P ∧ Blk2 wr w.heap.size 53 (.int .i64 0) (.int .i64 0) ∧ Blk2 wr (w.heap.size + 1) 53 (.int .i64 x) (.int .i64 P) ∧ Below w.heap.size w wr) (fun v9 _ => N - (intOf v9).toNat)
  case atStart => exact ⟨0, 0, 1, rfl, by omega, Z.out, PZ.out, ST0.out⟩
  case round =>
    clear ST0
    obtain ⟨i, x, P, rfl, hi, hx, hP, k2, k3, hb⟩ := hrel
    have X := Lib.hid hx
    have HP := Lib.hid hP
    have K2 := Lib.hid k2
    have K3 := Lib.hid k3
    have B := Lib.hid hb
    have s1 := hb.size
    have lt3 := k3.lt
    clear hx hP k2 k3 hb
    by_cases hlt : i < N
    · obtain ⟨p, r, P', u, z, T, ep, er, eP, hp, hP0, hx0, eg, hu, eT, h1, h2, h3, st, eQ⟩ := ST.out i x hlt X.out
      obtain rfl : P = P' := HP.out.symm.trans eP
      obtain ⟨b, o, rfl, lb, c0, c1⟩ := (RD.out.below B.out) i hlt
      rw [er] at c0
      rw [ep] at c1
      have ME : Hid (∀ w', Calls Try.prog 72 #[.agg #[.int .i64 x, .int .i64 P], .agg #[.int .i64 r, .int .i64 p]] w' (Gives (.agg #[.int .i64 (x + T * P), .int .i64 (P * p)]) w')) := fun w' => iMeet x P r p u z T w' hx0 hP0 (by rw [← er]; exact NU.out i hlt) hp eg hu eT h1 h2 h3
      have SS := Lib.hid st
      have EQ := Lib.hid eQ
      generalize x + T * P = E at ME SS
      generalize P * p = F at ME EQ
      clear ep er eP hp hP0 hx0 eg hu eT h1 h2 h3 st eQ
      obtain ⟨y0, y1, -, -⟩ := K3.out.all
      go_wp2_with fail
      refine (ME.out _).mono ?_
      rintro e w2 ⟨rfl, hb2⟩
      have K2 := Lib.hid ((K2.out.old (.cells #[.int .i64 r, .int .i64 p] 53)).keep hb2 (by simp; omega))
      have K3 := Lib.hid ((K3.out.old (.cells #[.int .i64 r, .int .i64 p] 53)).keep hb2 (by simp; omega))
      have B := Lib.hid ((B.out.alloc B.out.size (.cells #[.int .i64 r, .int .i64 p] 53)).trans (hb2.mono (by simp; omega)))
      clear hb2 y0 y1 c0 c1
      obtain ⟨y0, y1, y2, y3⟩ := K3.out.all
      have K4 := Lib.hid ((K3.out.set0 (.int .i64 E)).set1 (.int .i64 F))
      have K5 := Lib.hid ((K2.out.far (a := ⟨w.heap.size + 1, 0, none⟩) (by simp) (.int .i64 E)).far (a := ⟨w.heap.size + 1, 1, none⟩) (by simp) (.int .i64 F))
      have B5 := Lib.hid ((B.out.setCell (show w.heap.size ≤ (⟨w.heap.size + 1, 0, none⟩ : Addr).block by simp) (.int .i64 E)).setCell (show w.heap.size ≤ (⟨w.heap.size + 1, 1, none⟩ : Addr).block by simp) (.int .i64 F))
      go_wp2_with fail
      go_roundw
      case rel => exact ⟨i + 1, E, F, by go_num, by omega, SS.out, EQ.out, K5.out, K4.out, B5.out⟩
      case measure => simp [intOf]; omega
    · obtain rfl : i = N := by omega
      obtain ⟨y0, y1, -, -⟩ := K3.out.all
      obtain ⟨z0, z1, z2, z3⟩ := K2.out.all
      go_wp2_with fail
      obtain ⟨E0, E1, -, -⟩ := ((K2.out.set0 (.int .i64 x)).set1 (.int .i64 P)).all
      exact bodyPost_ret (v := .agg #[.int .i64 x, .int .i64 P]) (by simp [results, Try.results37, go_sem, E0, E1]) rfl ⟨x, by rw [HP.out], X.out, (B.out.setCell (Nat.le_refl _) _).setCell (Nat.le_refl _) _⟩
end Go.Proofs.Ytgemkfcapkfdbaa
end

section
/-
  Two lists of ints that appends go on with, in different blocks.
-/
namespace Go.Proofs.Ytgemkfcapkfdbaa
open Go.RowKit

theorem grown_below {w w' : World} (h : Below w.heap.size w w') : w.grownBy w' none := ⟨h.os, h.tape, h.output, h.size, fun k hk _ => h.block k hk⟩
theorem not_none (v : Value) : v.ownBlock = none ∨ v.ownBlock ≠ none := by cases v.ownBlock <;> simp
theorem rowL_form {w : World} {base n : Nat} {e : TypeId} {size : Nat} {v : Value} {xs : List Value} (h : w.ownsRow base e size v n xs) : ∃ a c, v = .slice a n c := by
  obtain ⟨h1, ⟨h2, h3⟩ | ⟨g, cap, cur, e, -⟩⟩ := h
  · exact ⟨_, _, by rw [h2, h3]⟩
  · exact ⟨_, _, e⟩
structure TwoL (B : Nat) (w : World) (v1 v2 : Value) (l1 l2 : List Int) : Prop where
  r1 : w.ownsRow B 3 1 v1 l1.length (l1.map (Value.int .i64))
  r2 : w.ownsRow B 3 1 v2 l2.length (l2.map (Value.int .i64))
  ne : ∀ b, v1.ownBlock = some b → v2.ownBlock ≠ some b
theorem TwoL.swap {B : Nat} {w : World} {v1 v2 : Value} {l1 l2 : List Int} (h : TwoL B w v1 v2 l1 l2) : TwoL B w v2 v1 l2 l1 := ⟨h.r2, h.r1, fun b h1 h2 => h.ne b h2 h1⟩
theorem TwoL.grown {B : Nat} {w w' : World} {v1 v2 : Value} {l1 l2 : List Int} {row : Option Nat} (h : TwoL B w v1 v2 l1 l2) (hg : w.grownBy w' row) (hr : ∀ k, row = some k → k < B) : TwoL B w' v1 v2 l1 l2 := by
  have far : ∀ {v : Value} {l : List Int}, w.ownsRow B 3 1 v l.length (l.map (Value.int .i64)) → v.ownBlock = none ∨ v.ownBlock ≠ row := fun {v l} ho => by
    cases hv : v.ownBlock with
    | none => exact .inl rfl
    | some b =>
      refine .inr fun e => ?_
      have := hr b e.symm
      have := (ho.lt b hv).1
      omega
  exact ⟨h.r1.kept hg (far h.r1), h.r2.kept hg (far h.r2), h.ne⟩
theorem TwoL.keep {B : Nat} {w w' : World} {v1 v2 : Value} {l1 l2 : List Int} (h : TwoL B w v1 v2 l1 l2) (hb : Below w.heap.size w w') : TwoL B w' v1 v2 l1 l2 := h.grown (grown_below hb) (fun k hk => by cases hk)
theorem TwoL.alloc {B : Nat} {w : World} {v1 v2 : Value} {l1 l2 : List Int} (h : TwoL B w v1 v2 l1 l2) (o : Obj) : TwoL B (w.alloc o) v1 v2 l1 l2 := ⟨h.r1.alloc o, h.r2.alloc o, h.ne⟩
theorem TwoL.app1 {B : Nat} {w w' : World} {v1 v1' v2 : Value} {l1 l2 : List Int} {x : Int} (h : TwoL B w v1 v2 l1 l2) (ho : w'.ownsRow B 3 1 v1' (l1.length + 1) (l1.map (Value.int .i64) ++ [.int .i64 x])) (hg : w.grownBy w' v1.ownBlock) (hor : v1'.ownBlock = v1.ownBlock ∨ v1'.ownBlock = some w.heap.size) : TwoL B w' v1' v2 (l1 ++ [x]) l2 := by
  refine ⟨?_, h.r2.kept hg ?_, fun b hb hb2 => ?_⟩
  · rw [List.map_append, List.length_append]; exact ho
  · cases e : v1.ownBlock with
    | none => exact not_none v2
    | some b => exact .inr (h.ne b e)
  · rcases hor with e | e
    · exact h.ne b (e.symm.trans hb) hb2
    · have := (h.r2.lt b hb2).2
      rw [e] at hb
      injection hb with hb
      omega
theorem TwoL.start (w : World) {B : Nat} (hB : B ≤ w.heap.size) : TwoL B ((w.alloc (.cells #[] 3)).alloc (.cells #[] 3)) (.slice (some ⟨w.heap.size, 0, none⟩) 0 0) (.slice (some ⟨w.heap.size + 1, 0, none⟩) 0 0) [] [] := by
  refine ⟨⟨rfl, .inr ⟨w.heap.size, 0, #[], rfl, hB, ?_, Nat.le_refl _, by decide, rfl, rfl⟩⟩, ⟨rfl, .inr ⟨w.heap.size + 1, 0, #[], rfl, by omega, ?_, Nat.le_refl _, by decide, rfl, rfl⟩⟩, fun b h h' => ?_⟩
  · exact (heap_alloc_old _ _ (by simp)).trans (heap_alloc_new w _)
  · have hn := heap_alloc_new (w.alloc (.cells #[] 3)) (.cells #[] 3)
    rw [show (w.alloc (.cells #[] 3)).heap.size = w.heap.size + 1 by simp] at hn
    exact hn
  · simp only [Value.ownBlock] at h h'
    injection h with h
    injection h' with h'
    omega
end Go.Proofs.Ytgemkfcapkfdbaa
end

section
/-
  Chapter 9, in the program: ChineseOf.
-/
namespace Go.Proofs.Ytgemkfcapkfdbaa
set_option maxRecDepth 100000
open Go.RowKit

theorem chi_fin {rs ms : List Int} {x : Int} (h1 : modB ms = true) (h2 : rs.length = ms.length) (h3 : ∀ k, k < ms.length → NumP (rs.getD k 0)) (h : ChiP (atL rs) (atL ms) ms.length x) : chiX rs ms = (x, prodI (atL ms) ms.length, true) :=
  chiX_yes h1 h2 (nums_true (by rw [h2]; exact h3)) h
set_option maxHeartbeats 4000000 in
theorem iChin (a a' : Option Addr) (m m' : Nat) (rs ms : List Int) (w : World) (h : Rd w a rs) (h' : Rd w a' ms) (hn : rs.length ≤ 16777216) (hn' : ms.length ≤ 16777216) (hm' : ms.length ≤ m') :
    Calls Try.prog 12 #[.slice a rs.length m, .slice a' ms.length m'] w (Gives (.tuple #[.int .i64 (chiX rs ms).1, .int .i64 (chiX rs ms).2.1, .bool (chiX rs ms).2.2]) w) := by
  have MO : Hid (Calls Try.prog 15 #[.slice a' ms.length m'] w fun e w2 => e = .returned (.bool (modB ms)) ∧ ∃ n, w2 = w.drewN n) := iModu a' m' ms w h' hn' hm'
  have N1 : Hid (modB ms = false → chiX rs ms = (0, 0, false)) := fun h => chiX_no (.inl h)
  have N2 : Hid (rs.length ≠ ms.length → chiX rs ms = (0, 0, false)) := fun h => chiX_no (.inr (.inl h))
  have N3 : Hid (∀ i, i < rs.length → ¬ NumP (rs.getD i 0) → chiX rs ms = (0, 0, false)) := fun i h1 h2 => chiX_no (.inr (.inr (nums_false h1 h2)))
  have L8 : Hid (modB ms = true → ms.length ≤ 8) := fun h => (modB_says h).1
  have ME : Hid (∀ (q : Option Addr) (c B : Nat) (w' : World), modB ms = true → rs.length = ms.length → (∀ k, k < ms.length → NumP (rs.getD k 0)) → w'.ownsRow B 53 2 (.slice q ms.length c) ms.length (flat2 rs ms ms.length) → Calls Try.prog 37 #[.slice q ms.length c] w' (fun e w2 => ∃ x P : Int, e = .returned (.agg #[.int .i64 x, .int .i64 P]) ∧ chiX rs ms = (x, P, true) ∧ Below w'.heap.size w' w2)) := fun q c B w' h1 h2 h3 h4 => (iMeetAll q c rs ms w' (RdC.of_row h4) h1 h3 hn').mono fun e w2 ⟨x, e1, e2, e3⟩ => ⟨x, _, e1, chi_fin h1 h2 h3 e2, e3⟩
  have R1 := Lib.hid h
  have R2 := Lib.hid h'
  obtain ⟨L, hL⟩ : ∃ L, rs.length = L := ⟨_, rfl⟩
  obtain ⟨N, hN⟩ : ∃ N, ms.length = N := ⟨_, rfl⟩
  rw [hL] at N2 N3 ME hn ⊢
  rw [hN] at MO N2 L8 ME hn' hm' ⊢
  have XL := Lib.hid hL
  have XN := Lib.hid hN
  generalize chiX rs ms = RES at N1 N2 N3 ME ⊢
  clear h h' hL hN
  go_enter Try.func12, Try.ntmps12
  go_wp2_with fail
  refine MO.out.mono ?_
  rintro e w1 ⟨rfl, n0, rfl⟩
  obtain ⟨bm, hbm⟩ : ∃ b, modB ms = b := ⟨_, rfl⟩
  rw [hbm] at N1 L8 ME ⊢
  clear hbm MO
  cases bm with
  | false =>
    have V := Lib.hid (N1.out rfl)
    go_wp2_with fail
    rw [V.out]
    exact bodyPost_ret (v := .tuple #[.int .i64 0, .int .i64 0, .bool false]) (by simp [results, Try.results12, go_sem]) rfl ⟨rfl, below_drewN (Below.refl _ _) _⟩
  | true =>
    have L8' := L8.out rfl
    by_cases hLN : L = N
    · subst hLN
      obtain ⟨fi, hfi, hz0, hz1, hz2⟩ := facts_cls
      go_wp2_with fail
      have O0 : Hid (((w.drewN n0).alloc (.cells #[] 53)).ownsRow w.heap.size 53 2 (.slice (some ⟨w.heap.size, 0, none⟩) 0 0) 0 (flat2 rs ms 0)) := ⟨rfl, .inr ⟨w.heap.size, 0, #[], rfl, Nat.le_refl _, heap_alloc_new (w.drewN n0) _, Nat.le_refl _, by decide, rfl, rfl⟩⟩
      have B0 : Hid (Below w.heap.size w ((w.drewN n0).alloc (.cells #[] 53))) := (below_drewN (Below.refl _ _) n0).alloc (Nat.le_refl _) _
      go_loopw [7, 24] (fun v7 v24 wr => ∃ i : Nat, v24 = .int .i64 i ∧ i ≤ L ∧ wr.ownsRow w.heap.size 53 2 v7 i (flat2 rs ms i) ∧ (∀ k, k < i → NumP (rs.getD k 0)) ∧ Below w.heap.size w wr) (fun _ v24 _ => L - (intOf v24).toNat)
      case atStart => exact ⟨0, rfl, by omega, O0.out, fun k hk => by omega, B0.out⟩
      case round =>
        clear O0 B0
        obtain ⟨i, rfl, hi, ho, hk, hb⟩ := hrel
        obtain ⟨q7, c7, rfl⟩ := rowL_form ho
        have O := Lib.hid ho
        have HK := Lib.hid hk
        have B := Lib.hid hb
        have s1 := hb.size
        clear ho hk hb
        by_cases hlt : i < L
        · obtain ⟨b, o, rfl, hc1⟩ := (R1.out.below B.out) i (by rw [XL.out]; exact hlt)
          obtain ⟨b', o', rfl, hc2⟩ := (R2.out.below B.out) i (by rw [XN.out]; exact hlt)
          have FS : Hid (flat2 rs ms (i + 1) = flat2 rs ms i ++ [.int .i64 (rs.getD i 0), .int .i64 (ms.getD i 0)]) := flat2_succ rs ms i
          have NX := Lib.hid (N3.out i hlt)
          have HK2 : Hid (NumP (rs.getD i 0) → ∀ k, k < i + 1 → NumP (rs.getD k 0)) := fun hq k hk => by
            rcases Nat.lt_or_ge k i with h1 | h1
            · exact HK.out k h1
            · obtain rfl : k = i := by omega
              exact hq
          generalize rs.getD i 0 = r at hc1 FS NX HK2
          generalize ms.getD i 0 = p at hc2 FS
          by_cases hr : -400000000 ≤ r ∧ r ≤ 400000000
          · go_wp2_with fail
            refine (iIsNum_t r _ hr.1 hr.2).mono ?_
            rintro e w' ⟨rfl, rfl⟩
            have O2 := Lib.hid (O.out.alloc (.cells #[.int .i64 r, .int .i64 p] 53))
            have B2 := Lib.hid (B.out.alloc B.out.size (.cells #[.int .i64 r, .int .i64 p] 53))
            go_wp2_with (at_builtin; refine wpList_append_own_at _ rfl _ _ 50 rfl w.heap.size 53 fi (.agg #[.int .i64 0, .int .i64 0]) 2 16 underlying_cls hfi hz0 hz1 hz2 rfl (by decide) _ _ _ rfl O2.out ⟨wr.heap.size, 0, none⟩ 1 1 [.int .i64 r, .int .i64 p] ?hx ?hl ?hnews ?h1 ?h63 ?hbytes ?hbase ?hnext)
            case hx => rfl
            case hl => rfl
            case hnews => exact cells2_new _ _ _ _
            case h1 => intro v hv; simp only [List.mem_cons, List.not_mem_nil, or_false] at hv; rcases hv with rfl | rfl <;> rfl
            case h63 => unfold maxLen; omega
            case hbytes => omega
            case hbase => exact B2.out.size
            case hnext =>
              rintro v2 w2 ho2 hg2 - -
              obtain ⟨ua, uc, rfl⟩ := rowL_form ho2
              rw [← FS.out] at ho2
              have O3 := Lib.hid ho2
              have B3 := Lib.hid (B2.out.grown hg2 B2.out.size (fun k hk => ownB_ge2 O2.out hk))
              clear ho2 hg2
              go_wp2_with fail
              go_roundw
              case rel => exact ⟨i + 1, by go_num, by omega, O3.out, HK2.out hr, B3.out⟩
              case measure => simp [intOf]; omega
          · have V := Lib.hid (NX.out hr)
            have hr' : r < -400000000 ∨ 400000000 < r := by omega
            clear hr
            go_wp2_with fail
            refine (iIsNum_f r _ hr').mono ?_
            rintro e w' ⟨rfl, rfl⟩
            go_wp2_with fail
            rw [V.out]
            exact bodyPost_ret (v := .tuple #[.int .i64 0, .int .i64 0, .bool false]) (by simp [results, Try.results12, go_sem]) rfl ⟨rfl, B.out⟩
        · obtain rfl : i = L := by omega
          have MX := Lib.hid (ME.out q7 c7 w.heap.size wr (by first | rfl | trivial) (by first | rfl | trivial) HK.out O.out)
          go_wp2_with fail
          refine MX.out.mono ?_
          rintro e w2 ⟨x, P, rfl, eR, hb2⟩
          have V := Lib.hid eR
          have B2 := Lib.hid (B.out.trans (hb2.mono B.out.size))
          clear eR hb2
          go_wp2_with fail
          have K : Hid (Blk2 (w2.alloc (.cells #[.int .i64 x, .int .i64 P] 53)) w2.heap.size 53 (.int .i64 x) (.int .i64 P)) := Blk2.at_ _ _ _ rfl
          have B3 := Lib.hid (B2.out.alloc B2.out.size (.cells #[.int .i64 x, .int .i64 P] 53))
          generalize w2.alloc (.cells #[.int .i64 x, .int .i64 P] 53) = W at K B3 ⊢
          obtain ⟨y0, y1, -, -⟩ := K.out.all
          go_quiet (fail)
          go_wp2_with fail
          rw [V.out]
          exact bodyPost_ret (v := .tuple #[.int .i64 x, .int .i64 P, .bool true]) (by simp [results, Try.results12, go_sem]) rfl ⟨rfl, by first | exact below_drewN B3.out _ | exact B3.out⟩
    · have V := Lib.hid (N2.out hLN)
      have n1 : ((L : Int) != (N : Int)) = true := by simp; omega
      clear hLN
      go_wp2_with fail
      rw [V.out]
      exact bodyPost_ret (v := .tuple #[.int .i64 0, .int .i64 0, .bool false]) (by simp [results, Try.results12, go_sem]) rfl ⟨rfl, below_drewN (Below.refl _ _) _⟩
end Go.Proofs.Ytgemkfcapkfdbaa
end
