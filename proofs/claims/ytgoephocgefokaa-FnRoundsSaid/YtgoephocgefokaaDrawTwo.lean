/-
  The drawing of two numbers: two ints of 64 bits are returned, and nothing that was there changes.
-/
import Derived.Test.YtgoephocgefokaaDraw
namespace Go.Proofs.Ytgoephocgefokaa
open Go.RowKit

def In64 (r : Int) : Prop := -9223372036854775808 ≤ r ∧ r ≤ 9223372036854775807

set_option maxHeartbeats 400000 in
theorem l1Two (w : World) (a : Option Addr) (len cap : Nat) (hc : CodeIn w a len) :
    Calls Try.prog 58 #[.slice a len cap] w (TwoInts (fun r s => In64 r ∧ In64 s) w) := by
  have HC := Lib.hid hc
  clear hc
  go_enter Try.func58, Try.ntmps58
  go_wp2_with (fail)
  refine (l1New w a len cap HC.out).mono ?_
  rintro e w1 ⟨cb, rfl, hcb, hc1, hb1⟩
  have CB := Lib.hid hcb
  have C1 := Lib.hid hc1
  have B1 := Lib.hid hb1
  clear hcb hc1 hb1
  go_wp2_with (fail)
  refine (l1Once w1 cb 4 C1.out (by omega)).mono ?_
  rintro e w2 ⟨r, rfl, hc2, hg2⟩
  have C2 := Lib.hid hc2
  have G2 := Lib.hid hg2
  clear hc2 hg2
  cases r with
  | true =>
    go_wp2_with (fail)
    refine (l1Odd w2 cb C2.out).mono ?_
    rintro e w3 ⟨s, hs, rfl, hc3, hg3⟩
    have S := Lib.hid hs
    have C3 := Lib.hid hc3
    have G3 := Lib.hid (G2.out.trans hg3)
    clear hc3 hg3 hs
    go_wp2_with (fail)
    refine (l1Odd w3 cb C3.out).mono ?_
    rintro e w4 ⟨t, ht, rfl, hc4, hg4⟩
    have T := Lib.hid ht
    have G4 := Lib.hid (G3.out.trans hg4)
    clear hc4 hg4 ht
    go_wp2_with (fail)
    go_ret2
    exact ⟨s, t, ⟨S.out, T.out⟩, rfl, B1.out.trans (below_of_one G4.out CB.out B1.out.size)⟩
  | false =>
    go_wp2_with (fail)
    refine (l1Below w2 cb 400 C2.out (by omega)).mono ?_
    rintro e w3 ⟨s, ⟨s0, s1⟩, rfl, hc3, hg3⟩
    have C3 := Lib.hid hc3
    have G3 := Lib.hid (G2.out.trans hg3)
    clear hc3 hg3
    go_wp2_with (fail)
    refine (l1Below w3 cb 80 C3.out (by omega)).mono ?_
    rintro e w4 ⟨t, ⟨t0, t1⟩, rfl, hc4, hg4⟩
    have G4 := Lib.hid (G3.out.trans hg4)
    clear hc4 hg4
    go_wp2_with (fail)
    go_ret2
    exact ⟨s - 200, t - 40, ⟨⟨by omega, by omega⟩, by omega, by omega⟩, rfl, B1.out.trans (below_of_one G4.out CB.out B1.out.size)⟩

end Go.Proofs.Ytgoephocgefokaa
