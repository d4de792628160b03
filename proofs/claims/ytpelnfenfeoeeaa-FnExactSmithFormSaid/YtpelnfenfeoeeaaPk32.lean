/-
  Texts of this seat, joined: ZASmL
-/
import Derived.Test.YtpelnfenfeoeeaaPk26
import Derived.Test.YtpelnfenfeoeeaaPk28

section
/-
  Chapter 13: how long the lists of a Smith form are.
-/
namespace Go.Proofs.Ytpelnfenfeoeeaa
theorem smR_zs (r c : Int) (xs : List Int) : (smR r c xs).d.zs.length ≤ 600 ∧ (smR r c xs).u.zs.length ≤ 600 ∧ (smR r c xs).v.zs.length ≤ 600 := by
  cases h : (smR r c xs).ok with
  | true =>
    obtain ⟨R, C, s, f, rfl, rfl, hR, hC, -, -, -, -, e, hF, -⟩ := smR_says h
    rw [e]
    exact ⟨by show s.1.length ≤ 600; rw [hF.siz.l1]; exact le600 hR hC, by show s.2.1.length ≤ 600; rw [hF.siz.l2]; exact le600 hR hR, by show s.2.2.length ≤ 600; rw [hF.siz.l3]; exact le600 hC hC⟩
  | false =>
    have e : smR r c xs = SR.no := by
      unfold smR at h ⊢
      split
      · rename_i hm
        rw [if_pos hm] at h
        cases hx : smX r.toNat c.toNat xs with
        | none => rfl
        | some s => rw [hx] at h; cases h
      · rfl
    rw [e]
    exact ⟨by decide, by decide, by decide⟩
end Go.Proofs.Ytpelnfenfeoeeaa
end
