/-
  Chapter 8, in the program: slices.ContainsFunc with the iterator's test.
-/
import Derived.Test.YtncplikadacjnaaPrI
import Derived.Test.YtncplikadacjnaaLawInts
namespace Go.Proofs.Ytncplikadacjnaa
set_option maxRecDepth 100000
open Go.RowKit Go.Shelf

theorem iDivides (n x : Int) (b : Nat) (w : World) (hb : w.cell? ⟨b, 0, none⟩ = some (.int .i64 n)) (hn : 0 ≤ n) (hx : 2 ≤ x) :
    Calls Try.prog 97 #[.int .i64 x, .pointer (some ⟨b, 0, none⟩)] w fun e w' => e = .returned (.bool (n % x == 0)) ∧ w = w' := by
  have h0 : (x == 0) = false := by simp; omega
  go_enter Try.func97, Try.ntmps97
  go_wp2_with fail
  go_ret
  exact ⟨rfl, rfl⟩
set_option maxHeartbeats 1000000 in
theorem iIdx (n : Int) (b m L : Nat) (q : Option Addr) (xs : List Int) (w : World) (h : Rd w q xs) (hL : xs.length = L) (hb : w.cell? ⟨b, 0, none⟩ = some (.int .i64 n)) (hn : 0 ≤ n) (hx : ∀ k, k < L → 2 ≤ xs.getD k 0) (hl : L ≤ 16777216) :
    Calls Try.prog 109 #[.slice q L m, .func (.func 97) #[] #[.pointer (some ⟨b, 0, none⟩)]] w fun e w' => ((∃ k : Nat, e = .returned (.int .i64 k) ∧ k < L ∧ n % xs.getD k 0 = 0) ∨ (e = .returned (.int .i64 (-1)) ∧ ∀ k, k < L → n % xs.getD k 0 ≠ 0)) ∧ w = w' := by
  have H := Lib.hid h
  have HX := Lib.hid hx
  have HL := Lib.hid hL
  have HB := Lib.hid hb
  clear h hx hL hb
  go_enter Try.func109, Try.ntmps109
  go_wp2_with fail
  go_loopw [5, 8] (fun _ v8 wr => ∃ k : Nat, v8 = .int .i64 k ∧ k ≤ L ∧ (∀ i, i < k → n % xs.getD i 0 ≠ 0) ∧ wr = w) (fun _ v8 _ => L - (intOf v8).toNat)
  case atStart => exact ⟨0, rfl, by omega, fun i hi => by omega, rfl⟩
  case round =>
    obtain ⟨k, rfl, hk, hi, rfl⟩ := hrel
    have HI := Lib.hid hi
    clear hi
    by_cases hlt : k < L
    · obtain ⟨g, o, rfl, hc⟩ := H.out k (by rw [HL.out]; exact hlt)
      have hx := HX.out k hlt
      obtain ⟨x, hxx⟩ : ∃ x, xs.getD k 0 = x := ⟨_, rfl⟩
      have X := Lib.hid hxx
      rw [hxx] at hc hx
      clear hxx
      by_cases hz : n % x = 0
      · have hcall := iDivides n x b wr HB.out hn hx
        rw [show (n % x == 0) = true by simp [hz]] at hcall
        go_wp2_with fail
        refine hcall.mono ?_
        rintro e w' ⟨rfl, rfl⟩
        go_wp2_with fail
        go_ret
        exact ⟨.inl ⟨k, rfl, hlt, by rw [X.out]; exact hz⟩, rfl⟩
      · have hcall := iDivides n x b wr HB.out hn hx
        rw [show (n % x == 0) = false by simpa using hz] at hcall
        go_wp2_with fail
        refine hcall.mono ?_
        rintro e w' ⟨rfl, rfl⟩
        go_wp2_with fail
        go_roundw
        case rel => exact ⟨k + 1, by go_num, by omega, fun i hi2 => by
          rcases Nat.lt_or_ge i k with h3 | h3
          · exact HI.out i h3
          · obtain rfl : i = k := by omega
            rw [X.out]; exact hz, trivial⟩
        case measure => simp [intOf]; omega
    · obtain rfl : k = L := by omega
      go_wp2_with fail
      go_ret
      exact ⟨.inr ⟨rfl, HI.out⟩, rfl⟩
theorem iContains (n : Int) (b m L : Nat) (q : Option Addr) (xs : List Int) (w : World) (h : Rd w q xs) (hL : xs.length = L) (hb : w.cell? ⟨b, 0, none⟩ = some (.int .i64 n)) (hn : 0 ≤ n) (hx : ∀ k, k < L → 2 ≤ xs.getD k 0) (hl : L ≤ 16777216) (t : Bool) (ht : t = true ↔ ∃ k, k < L ∧ n % xs.getD k 0 = 0) :
    Calls Try.prog 96 #[.slice q L m, .func (.func 97) #[] #[.pointer (some ⟨b, 0, none⟩)]] w fun e w' => e = .returned (.bool t) ∧ w = w' := by
  have hi := Lib.hid (iIdx n b m L q xs w h hL hb hn hx hl)
  clear h hL hb hx
  go_enter Try.func96, Try.ntmps96
  go_wp2_with fail
  refine hi.out.mono ?_
  rintro e w' ⟨⟨k, rfl, h1, h2⟩ | ⟨rfl, h1⟩, rfl⟩
  · obtain rfl : t = true := ht.mpr ⟨k, h1, h2⟩
    clear ht
    go_wp2_with fail
    go_ret
    exact ⟨rfl, rfl⟩
  · obtain rfl : t = false := by
      cases t with
      | false => rfl
      | true => obtain ⟨k, h2, h3⟩ := ht.mp rfl; exact absurd h3 (h1 k h2)
    clear ht
    go_wp2_with fail
    go_ret
    exact ⟨rfl, rfl⟩
end Go.Proofs.Ytncplikadacjnaa
