/- A call on a play, whatever it is; the law's loop. -/
import Derived.Test.YtahabfjngeicmaaEkI
import Derived.Test.YtahabfjngeicmaaEkJ
import Derived.Test.YtahabfjngeicmaaEkL
namespace Go.Proofs.Ytahabfjngeicmaa
open Go.RowKit

set_option maxRecDepth 100000

section
variable {w w0 : World} {base q p gb cap m : Nat} {V S T kd s u v l : Int} {t : Bool} {f : Nat → Int} {vl : Value} {ls : List E1}
theorem step_any11 (h : PW w base q V S T p gb cap m f vl ls) (hE : ER V S T f ls) (hl : ls.length ≤ 1000) (hm : m ≤ 800000) :
    Calls Try.prog 24 #[.pointer (some ⟨q, 0, none⟩), vO11 kd s u v l t] w (StD w base q V S T p gb cap m ls s u v) := by
  by_cases h0 : (u == v) = true
  · exact step_bad h hE hl (.inl h0)
  by_cases h1 : u < 0
  · exact step_bad h hE hl (.inr (.inl ⟨(by simpa using h0), h1⟩))
  by_cases h2 : V ≤ u
  · exact step_bad h hE hl (.inr (.inr (.inl ⟨(by simpa using h0), (by omega), h2⟩)))
  by_cases h3 : v < 0
  · exact step_bad h hE hl (.inr (.inr (.inr (.inl ⟨(by simpa using h0), (by omega), (by omega), h3⟩))))
  by_cases h4 : V ≤ v
  · exact step_bad h hE hl (.inr (.inr (.inr (.inr (.inl ⟨(by simpa using h0), (by omega), (by omega), (by omega), h4⟩)))))
  by_cases h5 : s < 0
  · exact step_bad h hE hl (.inr (.inr (.inr (.inr (.inr (.inl ⟨(by simpa using h0), (by omega), (by omega), (by omega), (by omega), h5⟩))))))
  by_cases h6 : S ≤ s
  · exact step_bad h hE hl (.inr (.inr (.inr (.inr (.inr (.inr (.inl ⟨(by simpa using h0), (by omega), (by omega), (by omega), (by omega), (by omega), h6⟩)))))))
  by_cases h7 : l < 0
  · exact step_bad h hE hl (.inr (.inr (.inr (.inr (.inr (.inr (.inr (.inl ⟨(by simpa using h0), (by omega), (by omega), (by omega), (by omega), (by omega), (by omega), h7⟩))))))))
  by_cases h8 : lv V ≤ l
  · exact step_bad h hE hl (.inr (.inr (.inr (.inr (.inr (.inr (.inr (.inr ⟨(by simpa using h0), (by omega), (by omega), (by omega), (by omega), (by omega), (by omega), (by omega), h8⟩))))))))
  have hne : u ≠ v := fun e => h0 (by rw [e]; exact beq_self_eq_true _)
  obtain ⟨s, rfl⟩ : ∃ n : Nat, s = (n : Int) := ⟨s.toNat, by omega⟩
  obtain ⟨u, rfl⟩ : ∃ n : Nat, u = (n : Int) := ⟨u.toNat, by omega⟩
  obtain ⟨v, rfl⟩ : ∃ n : Nat, v = (n : Int) := ⟨v.toNat, by omega⟩
  obtain ⟨l, rfl⟩ : ∃ n : Nat, l = (n : Int) := ⟨l.toNat, by omega⟩
  exact step_good h hE hl hm (by omega) (by omega) (by omega) (by omega) (by omega)
/-- step, as the laws call it. -/
theorem lstep11 (h : LW11 w0 w base q V S T p gb cap m f vl ls) (hE : ER V S T f ls) (hl : ls.length ≤ 1000) (hm : m ≤ 800000) :
    Calls Try.prog 24 #[.pointer (some ⟨q, 0, none⟩), vO11 kd s u v l t] w fun e w' => e = .returned (.tuple #[]) ∧ ∃ f' vl' ls', LW11 w0 w' base q V S T p gb cap (m + 4) f' vl' ls' ∧ ER V S T f' ls' ∧ ls'.length ≤ ls.length + 1 ∧ Kp5 ls ls' s u v := by
  refine (step_any11 h.pw hE hl hm).mono ?_
  rintro e w' ⟨rfl, f', vl', ls', h1, h2, h3, h4, h5, h6, _⟩
  exact ⟨rfl, f', vl', ls', ⟨h1, h.be.trans h5, fun i cs hz => h6 i cs (h.ke i cs hz)⟩, h2, h3, h4⟩
end
end Go.Proofs.Ytahabfjngeicmaa
