/- Lemmas for WordApart. -/
import Derived.Test.YtfmffgibkmggiaaWordLStates
namespace Go.Proofs.Ytfmffgibkmggiaa
open Go.RowKit

theorem bits_inj {o n th tg p m uh ug : Int} (hR : rightW o n th tg = true) (hQ : rightW p m uh ug = true) (h : bitsW o n th tg = bitsW p m uh ug) : o = p ∧ n = m ∧ th = uh ∧ tg = ug := by
  obtain ⟨_, _, a1, a2, a3, a4⟩ := bitsW_parts hR
  obtain ⟨_, _, b1, b2, b3, b4⟩ := bitsW_parts hQ
  rw [h] at a1 a2 a3 a4
  exact ⟨a1.symm.trans b1, a2.symm.trans b2, a3.symm.trans b3, a4.symm.trans b4⟩
theorem bits_ne {o n th tg p m uh ug : Int} (hR : rightW o n th tg = true) (hQ : rightW p m uh ug = true) (h : ¬ (o = p ∧ n = m ∧ th = uh ∧ tg = ug)) : (bitsW o n th tg == bitsW p m uh ug) = false :=
  beq_eq_false_iff_ne.2 fun e => h (bits_inj hR hQ e)
theorem state_eq (t : Int) (a b : Bool) : (stateV t a == stateV t b) = (a == b) := by
  cases a <;> cases b <;> simp [stateV] <;> omega
theorem state_ne {t u : Int} (h : t ≠ u) (a b : Bool) : (stateV t a == stateV u b) = false := by
  refine beq_eq_false_iff_ne.2 fun e => h ?_
  have h1 := (stateV_parts t a).1
  have h2 := (stateV_parts u b).1
  rw [e] at h1
  exact h1.symm.trans h2

end Go.Proofs.Ytfmffgibkmggiaa
