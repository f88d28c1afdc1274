/- Short words for what is said often in a region whose last stores come late. -/
import Derived.Test.YtaooglagddphnaaGreatXGt
import Derived.Test.YtaooglagddphnaaGreatXQ
namespace Go.Proofs.YtaooglagddphnaaGreat
open Go.RowKit

section
variable {P : Program} {ops : Array Oper} {Q : Exit → Act → World → Prop} {md : Region.Mode} {S : World → Prop} {late : Nat → Bool}
theorem q9P (i : Nat) {oi : Oper} {v : Value} {n : Nat} {ls : Array Bool} {a a2 : Act} {l2 : Array Bool} {w : World} (hi : ops[i]? = some oi) (h : Till P md ops Q S late n l2 a2 w) (hy : ∀ w, (fun _ => True) w → (execOp a.eval oi).run P w = .ok (.value v) w := by (intro w hSw; (try dsimp only at hSw); go_simp; try with_reducible rfl)) (hs : Region.noSelect ops = true := by kernel_rfl) (hf : Region.free md ops ls i = true := by kernel_rfl) (hr : (Region.ready md ops ls).contains i = true := by kernel_rfl)
    (hQ : ∀ c a w, Q (.panic c) (a.put oi.dst v) w → Q (.panic c) a w := by exact fun _ _ _ h => h) (hg : Region.wanted oi (yielded ops a.tmps) = true := by rfl) (hL : ls.setIfInBounds i true = l2 := by first | (simp only [Act.put, q98]; done) | (simp only [Act.put, q98]; rfl) | rfl) (hA : a.put oi.dst v = a2 := by first | (simp only [Act.put, q98]; done) | (simp only [Act.put, q98]; rfl) | rfl) : Till P md ops Q S late (n + 1) ls a w := by
  subst hL hA
  exact Till.plain hi hs hf hr hQ (Or.inl ⟨hg, hy⟩) h
theorem q9L (i : Nat) {oi : Oper} {v : Value} {n : Nat} {ls : Array Bool} {a a2 : Act} {l2 : Array Bool} {w : World} (hi : ops[i]? = some oi) (h : Till P md ops Q S late n l2 a2 w) (hy : ∀ w, S w → (execOp a.eval oi).run P w = .ok (.value v) w := by (intro w hSw; (try dsimp only at hSw); go_simp; try with_reducible rfl)) (hs : Region.noSelect ops = true := by kernel_rfl) (hf : Region.free md ops ls i = true := by kernel_rfl) (hr : (Region.ready md ops ls).contains i = true := by kernel_rfl) (hw : Qk2 md ops late i = true := by kernel_rfl)
    (hQ : ∀ c a w, Q (.panic c) (a.put oi.dst v) w → Q (.panic c) a w := by exact fun _ _ _ h => h) (hg : Region.wanted oi (yielded ops a.tmps) = true := by rfl) (hS : S w := by assumption) (hL : ls.setIfInBounds i true = l2 := by first | (simp only [Act.put, q98]; done) | (simp only [Act.put, q98]; rfl) | rfl) (hA : a.put oi.dst v = a2 := by first | (simp only [Act.put, q98]; done) | (simp only [Act.put, q98]; rfl) | rfl) : Till P md ops Q S late (n + 1) ls a w := by
  subst hL hA
  exact Till.load hi hs hf hr hw hQ (Or.inl ⟨hg, hy⟩) hS h
theorem q9T (i : Nat) {o : Oper} {n : Nat} {ls : Array Bool} {a : Act} {w : World} (ho : ops[i]? = some o)
    (h : ∀ K' : Act → World → Prop, Shut (∀ a w, S w → (S w → Till P md ops Q S late n (ls.setIfInBounds i true) a w) → K' a w) → if Region.wanted o (yielded ops a.tmps) = true then Oper.wp P o a w K' Q else K' (a.put o.dst undef) w)
    (hr : Region.ready md ops ls = [i] := by kernel_rfl) : Till P md ops Q S late (n + 1) ls a w :=
  Till.ready hr (by simp) (Qc.cons ho h Qc.nil)
end

end Go.Proofs.YtaooglagddphnaaGreat
