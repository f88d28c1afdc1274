/- Walk of ValKinds. -/
import Derived.Test.YtboagdmjibdlhaaDoorValO
namespace Go.Proofs.YtboagdmjibdlhaaDoor
set_option maxRecDepth 100000
open Go.RowKit

/-- The five forms. -/
theorem Raw.forms (x : Raw) : (x.kind = 1 ∧ x.atom = .num x.n) ∨ (x.kind = 2 ∧ x.atom = .txt x.s) ∨ (x.kind = 3 ∧ x.atom = .sgn x.r) ∨ (x.kind = 0 ∧ x.atom = .nil) ∨ (x.kind = 0 ∧ ∃ v, x.atom = .flt v) := by
  obtain ⟨k, n, s, r⟩ := x
  simp only [Raw.kind, Raw.atom]
  by_cases a1 : k = 1
  · subst a1; exact .inl ⟨by simp, by simp⟩
  · by_cases a2 : k = 2
    · subst a2; exact .inr (.inl ⟨by simp, by simp⟩)
    · by_cases a3 : k = 3
      · subst a3; exact .inr (.inr (.inl ⟨by simp, by simp⟩))
      · by_cases a4 : k = 4
        · subst a4; exact .inr (.inr (.inr (.inr ⟨by simp, _, by simp; rfl⟩)))
        · exact .inr (.inr (.inr (.inl ⟨if_neg (by omega), by simp only [if_neg a1, if_neg a2, if_neg a3, if_neg a4]⟩)))

end Go.Proofs.YtboagdmjibdlhaaDoor
