/-
  Chapter 7, in the program: a row without its cell in the pivot's column.
-/
import Derived.Test.YtbdofgkcedpamaaPmI
import Derived.Test.YtbdofgkcedpamaaNumGcd
import Derived.Test.YtbdofgkcedpamaaEchS
import Derived.StillTailTactics
import Derived.BigQuiet
namespace Go.Proofs.Ytbdofgkcedpamaa
set_option maxRecDepth 100000
open Go.RowKit

set_option maxHeartbeats 2000000 in
theorem iClear (r c i t j N g mi mt : Nat) (xs : List Int) (w : World) (hN : N = r * c) (hx : xs.length = N) (hr : r ≤ 24) (hc : c ≤ 24) (hir : i < r) (htr : t < r) (hit : i ≠ t) (hj : j < c) (nx : nums xs = true) (hy0 : mxC c xs t j ≠ 0) (hi : Ints w g xs) :
    Calls Try.prog 56 #[.slice (some ⟨g, i * c, none⟩) c mi, .slice (some ⟨g, t * c, none⟩) c mt, .int .i64 j] w (fun e w' => ((e = .returned (.bool true) ∧ rowN c (rdV j (mxC c xs i) (mxC c xs t)) = true ∧ Ints w' g (rowL r c i (rdV j (mxC c xs i) (mxC c xs t)) xs)) ∨ (e = .returned (.bool false) ∧ rowN c (rdV j (mxC c xs i) (mxC c xs t)) ≠ true)) ∧ w.grownBy w' (some g)) := by
  have hl : xs.length = r * c := by rw [hx, hN]
  have hle : r * c ≤ 24 * 24 := Nat.mul_le_mul hr hc
  rw [← hN] at hle
  have IL : Hid (∀ i q, i < r → q < c → i * c + q < N) := fun i q hi hq => by rw [hN]; exact idx_lt hi hq
  have NI : Hid (∀ k, k < c → NumP (mxC c xs i k)) := fun k hk => mx_nums hl nx hir hk
  have NT : Hid (∀ k, k < c → NumP (mxC c xs t k)) := fun k hk => mx_nums hl nx htr hk
  have CI : Hid (∀ k, k < c → w.cell? ⟨g, i * c + k, none⟩ = some (.int .i64 (mxC c xs i k))) := fun k hk => hi.cell (by rw [hl]; exact idx_lt hir hk)
  have CT : Hid (∀ k, k < c → w.cell? ⟨g, t * c + k, none⟩ = some (.int .i64 (mxC c xs t k))) := fun k hk => hi.cell (by rw [hl]; exact idx_lt htr hk)
  have RT : Hid (∀ k, k < c → (rowTo r c i (rdV j (mxC c xs i) (mxC c xs t)) xs k).set (i * c + k) (rdV j (mxC c xs i) (mxC c xs t) k) = rowTo r c i (rdV j (mxC c xs i) (mxC c xs t)) xs (k + 1)) := fun k hk => rowTo_step hir hk
  have RX : Hid (∀ k, k < c → (rowTo r c i (rdV j (mxC c xs i) (mxC c xs t)) xs k).getD (i * c + k) 0 = mxC c xs i k) := fun k hk => rowTo_old hir hk (.inr (Nat.le_refl _))
  have RY : Hid (∀ k, k < c → (rowTo r c i (rdV j (mxC c xs i) (mxC c xs t)) xs k).getD (t * c + k) 0 = mxC c xs t k) := fun k hk => rowTo_old htr hk (.inl (fun e => hit e.symm))
  have RL : Hid (∀ k, (rowTo r c i (rdV j (mxC c xs i) (mxC c xs t)) xs k).length = N) := fun k => by rw [rowTo_length, hN]
  have RZ : Hid (rowTo r c i (rdV j (mxC c xs i) (mxC c xs t)) xs 0 = xs) := rowTo_zero hl
  have RA : Hid (rowTo r c i (rdV j (mxC c xs i) (mxC c xs t)) xs c = rowL r c i (rdV j (mxC c xs i) (mxC c xs t)) xs) := rowTo_all
  have hxn := NI.out j hj
  have hyn := NT.out j hj
  have hcx := CI.out j hj
  have hcy := CT.out j hj
  have UV : Hid (∀ h, rdV j (mxC c xs i) (mxC c xs t) h = (mxC c xs t j).tdiv ((mxC c xs i j).gcd (mxC c xs t j)) * mxC c xs i h - (mxC c xs i j).tdiv ((mxC c xs i j).gcd (mxC c xs t j)) * mxC c xs t h) := fun _ => rfl
  have I := Lib.hid hi
  have lg := hi.lt
  generalize rdV j (mxC c xs i) (mxC c xs t) = u at RT RX RY RL RZ RA UV ⊢
  generalize mxC c xs i j = x at hxn hcx UV
  generalize mxC c xs t j = y at hyn hcy UV hy0
  obtain ⟨Di, hDi⟩ : ∃ D, i * c = D := ⟨_, rfl⟩
  obtain ⟨Dt, hDt⟩ : ∃ D, t * c = D := ⟨_, rfl⟩
  have LI : Hid (∀ q, q < c → Di + q < N) := fun q hq => by rw [← hDi]; exact IL.out i q hir hq
  have LT : Hid (∀ q, q < c → Dt + q < N) := fun q hq => by rw [← hDt]; exact IL.out t q htr hq
  rw [hDi] at CI RT RX hcx ⊢
  rw [hDt] at CT RY hcy ⊢
  have hxn' := hxn
  have hyn' := hyn
  unfold NumP at hxn' hyn'
  clear hl hx hN hDi hDt hi nx IL
  go_enter Try.func56, Try.ntmps56
  go_wp2_with fail
  go_quiet (fail)
  have I := Lib.hid (I.out.drewN nq)
  have G := Lib.hid (grown_drewN_one (World.grownBy.refl w (some g)) nq)
  generalize w.drewN nq = w2 at I G ⊢
  go_wp2_with fail
  refine (iGcd x y _ (by omega) (by omega)).mono ?_
  rintro e w3 ⟨rfl, n, rfl⟩
  have I := Lib.hid (I.out.drewN n)
  have G := Lib.hid (grown_drewN_one G.out n)
  generalize w2.drewN n = w3 at I G ⊢
  have hgp : 0 < x.gcd y := Int.gcd_pos_of_ne_zero_right x hy0
  obtain ⟨gg, hgg⟩ : ∃ gg : Int, (x.gcd y : Int) = gg := ⟨_, rfl⟩
  rw [hgg] at UV ⊢
  have g1 : gg ≠ 0 := by omega
  have g2 : (gg == 0) = false := by simpa using g1
  have b1 := tdiv_bb (y := gg) hxn.1 hxn.2
  have b2 := tdiv_bb (y := gg) hyn.1 hyn.2
  obtain ⟨qx, hqx⟩ : ∃ qx, x.tdiv gg = qx := ⟨_, rfl⟩
  obtain ⟨qy, hqy⟩ : ∃ qy, y.tdiv gg = qy := ⟨_, rfl⟩
  rw [hqx] at UV b1
  rw [hqy] at UV b2
  have wx : IntKind.i64.wrap qx = qx := IntWalk.i64_in _ (by omega)
  have wy : IntKind.i64.wrap qy = qy := IntWalk.i64_in _ (by omega)
  clear hgp hgg hcx hcy hxn hyn
  go_wp2_with fail
  go_loopw [10, 24] (fun _ v24 wr => ∃ h : Nat, v24 = .int .i64 h ∧ h ≤ c ∧ (∀ k, k < h → NumP (u k)) ∧ Ints wr g (rowTo r c i u xs h) ∧ w.grownBy wr (some g)) (fun _ v24 _ => c - (intOf v24).toNat)
  case atStart => exact ⟨0, rfl, by omega, fun k hk => by omega, by rw [RZ.out]; exact I.out, G.out⟩
  case round =>
    clear I G
    obtain ⟨h, rfl, hh, hhn, hi, hgr⟩ := hrel
    have I := Lib.hid hi
    have G := Lib.hid hgr
    have HH := Lib.hid hhn
    clear hi hgr hhn
    by_cases hlt : h < c
    · have hca := I.out.cell (i := Di + h) (by rw [RL.out]; exact LI.out h hlt)
      have hcb := I.out.cell (i := Dt + h) (by rw [RL.out]; exact LT.out h hlt)
      have hfr := I.out.free (Di + h)
      rw [RX.out h hlt] at hca
      rw [RY.out h hlt] at hcb
      have na := NI.out h hlt
      have nb := NT.out h hlt
      have uv := UV.out h
      have RS := Lib.hid (RT.out h hlt)
      generalize mxC c xs i h = ea at hca na uv
      generalize mxC c xs t h = eb at hcb nb uv
      have m1 := mul_num qy ea b2 na
      have m2 := mul_num qx eb b1 nb
      have v1 : IntKind.i64.wrap (qy * ea) = qy * ea := IntWalk.i64_in _ (by omega)
      have v2 : IntKind.i64.wrap (qx * eb) = qx * eb := IntWalk.i64_in _ (by omega)
      have v3 : IntKind.i64.wrap (qy * ea - qx * eb) = qy * ea - qx * eb := IntWalk.i64_in _ (by omega)
      obtain ⟨z, hz⟩ : ∃ z, u h = z := ⟨_, rfl⟩
      have Z := Lib.hid hz
      rw [hz] at uv RS
      have q0 : qy * ea - qx * eb = z := uv.symm
      rw [q0] at v3
      have IS := Lib.hid (I.out.set (Di + h) z)
      have GS := Lib.hid (grown_set_one (a := ⟨g, Di + h, none⟩) G.out rfl (.int .i64 z))
      clear na nb m1 m2 hz uv
      go_wp2_with fail
      go_still_tail 20, (by kernel_rfl)
      go_wp2_with fail
      refine (iIsNum z _).mono ?_
      rintro e w6 ⟨rfl, rfl⟩
      have I6 := Lib.hid IS.out.drew
      have G6 := Lib.hid (grown_drew_one GS.out)
      by_cases hzn : NumP z
      · have HH2 : Hid (∀ k, k < h + 1 → NumP (u k)) := fun k hk => by
          rcases Nat.lt_or_ge k h with h3 | h3
          · exact HH.out k h3
          · obtain rfl : k = h := by omega
            rw [Z.out]; exact hzn
        rw [decide_eq_true hzn]
        clear hzn
        go_wp2_with fail
        go_roundw
        case rel => exact ⟨h + 1, by go_num, by omega, HH2.out, by rw [← RS.out]; exact I6.out, G6.out⟩
        case measure => simp [intOf]; omega
      · have RB : Hid (rowN c u ≠ true) := fun h1 => hzn (by rw [← Z.out]; exact rowN_iff.mp h1 h hlt)
        rw [decide_eq_false hzn]
        clear hzn
        go_wp2_with fail
        go_ret
        exact ⟨.inr ⟨rfl, RB.out⟩, G6.out⟩
    · obtain rfl : c = h := by omega
      clear hlt
      have RW : Hid (rowN c u = true) := rowN_iff.mpr HH.out
      go_wp2_with fail
      go_ret
      exact ⟨.inl ⟨rfl, RW.out, by rw [← RA.out]; exact I.out⟩, G.out⟩
end Go.Proofs.Ytbdofgkcedpamaa
