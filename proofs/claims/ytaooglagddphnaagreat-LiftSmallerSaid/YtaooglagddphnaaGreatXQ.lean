/- Short words for what is said often in a drawn region. -/
import Derived.Test.YtaooglagddphnaaGreatProg
import Derived.Deep.RegionHeld3
import Derived.Lib.Hide
namespace Go.Proofs.YtaooglagddphnaaGreat
open Go.RowKit

abbrev I (x : Int) : Value := .int .i64 x
abbrev I1 (b o : Nat) : Addr := ⟨b, o, none⟩
abbrev I2 (x : Int) : Value := .int .u64 x
abbrev I3 (a : Addr) (n c : Nat) : Value := .slice (some a) n c
theorem q9 {p : Prop} (h : p) : Hid p := Lib.hid h
section
variable {α : Type} {a b : α} {l : List α} {i : Nat}
theorem q92 : l.toArray.setIfInBounds i a = (l.set i a).toArray := List.setIfInBounds_toArray ..
theorem q93 : (a :: l).set 0 b = b :: l := rfl
theorem q94 : (a :: l).set (i + 1) b = a :: l.set i b := rfl
theorem q95 {h : i < l.toArray.size} : l.toArray[i] = l[i]'(by simpa using h) := rfl
theorem q96 {h : 0 < (a :: l).length} : (a :: l)[0] = a := rfl
theorem q97 {h : i + 1 < (a :: l).length} : (a :: l)[i + 1] = l[i]'(by simpa using h) := rfl
end
theorem q98 : (∀ {α : Type} {a : α} {l : List α} {i : Nat}, l.toArray.setIfInBounds i a = (l.set i a).toArray) ∧ (∀ {α : Type} {a b : α} {l : List α}, (a :: l).set 0 b = b :: l) ∧ (∀ {α : Type} {a b : α} {l : List α} {i : Nat}, (a :: l).set (i + 1) b = a :: l.set i b) ∧ (∀ {α : Type} {l : List α} {i : Nat} {h : i < l.toArray.size}, l.toArray[i] = l[i]'(by simpa using h)) ∧ (∀ {α : Type} {a : α} {l : List α} {h : 0 < (a :: l).length}, (a :: l)[0] = a) ∧ (∀ {α : Type} {a : α} {l : List α} {i : Nat} {h : i + 1 < (a :: l).length}, (a :: l)[i + 1] = l[i]'(by simpa using h)) := ⟨fun {_ _ _ _} => q92, fun {_ _ _ _} => q93, fun {_ _ _ _ _} => q94, fun {_ _ _ _} => q95, fun {_ _ _ _} => q96, fun {_ _ _ _ _} => q97⟩
section
variable {P : Program} {ops : Array Oper} {Q : Exit → Act → World → Prop} {md : Region.Mode} {S : World → Prop}
theorem q9F (i : Nat) {oi : Oper} {fuel : Nat} {listed : Array Bool} {a a2 : Act} {l2 : Array Bool} {w : World} (hi : ops[i]? = some oi) (h : wpAnyH P md ops Q S fuel l2 a2 w) (hs : Region.noSelect ops = true := by kernel_rfl) (hf : Region.free md ops listed i = true := by kernel_rfl) (hr : (Region.ready md ops listed).contains i = true := by kernel_rfl) (hQ : ∀ c a w, Q (.panic c) (a.put oi.dst undef) w → Q (.panic c) a w := by exact fun _ _ _ h => h) (hg : Region.wanted oi (yielded ops a.tmps) = false := by rfl) (hS : S w := by assumption) (hL : listed.setIfInBounds i true = l2 := by first | (simp only [Act.put, q98]; done) | (simp only [Act.put, q98]; rfl) | rfl) (hA : a.put oi.dst undef = a2 := by first | (simp only [Act.put, q98]; done) | (simp only [Act.put, q98]; rfl) | rfl) : wpAnyH P md ops Q S (fuel + 1) listed a w := by
  subst hL hA
  exact wpAnyH_take hi hs hf hr hQ (Or.inr ⟨hg, rfl⟩) hS h
theorem q9N (i : Nat) {oi : Oper} {v : Value} {fuel : Nat} {listed : Array Bool} {a a2 : Act} {l2 : Array Bool} {w : World} (hi : ops[i]? = some oi) (h : wpAnyH P md ops Q S fuel l2 a2 w) (hy : ∀ w, S w → (execOp a.eval oi).run P w = .ok (.value v) w := by (intro w hSw; (try dsimp only at hSw); go_simp; try with_reducible rfl)) (hs : Region.noSelect ops = true := by kernel_rfl) (hf : Region.free md ops listed i = true := by kernel_rfl) (hr : (Region.ready md ops listed).contains i = true := by kernel_rfl) (hQ : ∀ c a w, Q (.panic c) (a.put oi.dst v) w → Q (.panic c) a w := by exact fun _ _ _ h => h) (hg : Region.wanted oi (yielded ops a.tmps) = true := by rfl) (hS : S w := by assumption) (hL : listed.setIfInBounds i true = l2 := by first | (simp only [Act.put, q98]; done) | (simp only [Act.put, q98]; rfl) | rfl) (hA : a.put oi.dst v = a2 := by first | (simp only [Act.put, q98]; done) | (simp only [Act.put, q98]; rfl) | rfl) : wpAnyH P md ops Q S (fuel + 1) listed a w := by
  subst hL hA
  exact wpAnyH_take hi hs hf hr hQ (Or.inl ⟨hg, hy⟩) hS h
theorem q9R (i : Nat) {o : Oper} {fuel : Nat} {listed : Array Bool} {a : Act} {w : World} (ho : ops[i]? = some o)
    (h : ∀ K' : Act → World → Prop, Shut (∀ a w, S w → (S w → wpAnyH P md ops Q S fuel (listed.setIfInBounds i true) a w) → K' a w) → if Region.wanted o (yielded ops a.tmps) = true then Oper.wp P o a w K' Q else K' (a.put o.dst undef) w)
    (hr : Region.ready md ops listed = [i] := by kernel_rfl) : wpAnyH P md ops Q S (fuel + 1) listed a w :=
  wpAnyH_ready hr (by simp) (AllReadyH.cons ho h AllReadyH.nil)
end

end Go.Proofs.YtaooglagddphnaaGreat
