/-
  Chapter 6, in the program: the determinants' block is made.
-/
import Derived.Test.YtpelnfenfeoeeaaMnTake
import Derived.Test.YtpelnfenfeoeeaaMnAcc
namespace Go.Proofs.Ytpelnfenfeoeeaa
set_option maxRecDepth 100000
open Go.RowKit Go.Maps

/-- A new block of determinants: all rows, nothing known. -/
def MnNewR (R n N m : Nat) (a : Option Addr) (w : World) (e : Ending) (w' : World) : Prop := ∃ px bm V, e = .returned (.pointer (some ⟨px, 0, none⟩)) ∧ w.heap.size ≤ px ∧ w.heap.size ≤ bm ∧ Blk5 w' px 114 (.int .i64 R) (.int .i64 n) (.slice a N m) V (.map (some bm)) ∧ w'.ownsRow w.heap.size 3 1 V (List.range R).length ((List.range R).map fun (r : Nat) => Value.int .i64 (r : Int)) ∧ Mp w' bm 0 (.map []) ∧ Below w.heap.size w w'
set_option maxHeartbeats 1000000 in
theorem iMinorsOf (R n N m : Nat) (a : Option Addr) (w : World) (h6 : R ≤ 6) : Calls Try.prog 75 #[.agg #[.int .i64 R, .int .i64 n, .slice a N m]] w (MnNewR R n N m a w) := by
  have hmm := @run_makeMap Try.prog
  have FC : Hid (∀ w', Calls Try.prog 99 #[.int .i64 R] w' fun e w2 => e = .returned (.int .u64 ((2 ^ R - 1 : Nat) : Int)) ∧ w2 = w') := fun w' => iFirst R h6 w'
  have P64 : 2 ^ R - 1 < 64 := by have := pow_64 R h6; have := Nat.two_pow_pos R; omega
  have FU : Hid (colsL R (2 ^ R - 1) = List.range R) := colsL_full R h6
  obtain ⟨F, hF⟩ : ∃ F, 2 ^ R - 1 = F := ⟨_, rfl⟩
  rw [hF] at FC P64 FU
  clear hF
  go_enter Try.func75, Try.ntmps75
  go_wp2_with fail
  obtain ⟨W, hW⟩ : ∃ W, ((w.alloc (.cells #[.int .i64 R, .int .i64 n, .slice a N m] 26)).alloc (.map #[] 0)).alloc (.cells #[.int .i64 R, .int .i64 n, .slice a N m, .slice none 0 0, .map (some (w.heap.size + 1))] 114) = W := ⟨_, rfl⟩
  have B5 : Hid (Blk5 W (w.heap.size + 1 + 1) 114 (.int .i64 R) (.int .i64 n) (.slice a N m) (.slice none 0 0) (.map (some (w.heap.size + 1)))) := by
    show Blk5 W _ _ _ _ _ _ _
    rw [← hW]
    exact Blk5.at_ _ _ _ _ _ _ (by simp)
  have KW : Hid (Blk3 W w.heap.size 26 (.int .i64 R) (.int .i64 n) (.slice a N m)) := by
    show Blk3 W _ _ _ _ _
    rw [← hW]
    exact ((Blk3.at_ _ _ _ _ rfl).old _).old _
  have MM : Hid (Mp W (w.heap.size + 1) 0 (.map [])) := by
    show Mp W (w.heap.size + 1) 0 (.map [])
    have := Mp.made (w.alloc (.cells #[.int .i64 R, .int .i64 n, .slice a N m] 26))
    have h2 := this.kept (World.grownBy_alloc _ (.cells #[.int .i64 R, .int .i64 n, .slice a N m, .slice none 0 0, .map (some (w.heap.size + 1))] 114) none) (by simp)
    rw [hW] at h2
    simpa using h2
  have BW : Hid (Below w.heap.size w W) := by
    show Below w.heap.size w W
    rw [← hW]
    exact (((Below.refl _ _).alloc (Nat.le_refl _) _).alloc (by simp) _).alloc (by simp <;> omega) _
  rw [hW]
  clear hW
  obtain ⟨p0, p1, p2, -, -, -⟩ := KW.out.all
  go_wp2_with fail
  refine (FC.out _).mono ?_
  rintro e w2 ⟨rfl, hw2⟩
  rw [hw2]
  clear hw2 p0 p1 p2
  go_wp2_with fail
  refine (iTake R n N m a F (w.heap.size + 1 + 1) (w.heap.size + 1) 0 w.heap.size 0 (.map []) (.slice none 0 0) [] W h6 P64 B5.out (World.ownsRow_nil _ _ _ _) MM.out BW.out.size).mono ?_
  rintro e w' ⟨rfl, V, h5, ho, hn, hm, hf⟩
  rw [FU.out] at ho
  have H : Hid (Below w.heap.size w w') := BW.out.trans (hf.below (fun k hk => by rcases hk with h | h | h; omega; omega; cases h) BW.out.size)
  have R : MnNewR R n N m a w (.returned (.pointer (some ⟨w.heap.size + 1 + 1, 0, none⟩))) w' := ⟨_, _, V, rfl, by omega, by omega, h5, ho, hm, H.out⟩
  clear h5 ho hn hm hf
  have RR := Lib.hid R
  clear R
  go_wp2_with fail
  go_ret
  exact RR.out
end Go.Proofs.Ytpelnfenfeoeeaa
