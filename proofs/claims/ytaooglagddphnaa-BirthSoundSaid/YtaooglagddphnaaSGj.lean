/- Gj: what BiPSound leans on. Printed by wip/tools/slim13.py. -/
import Derived.Test.YtaooglagddphnaaSGh
import Derived.Test.YtaooglagddphnaaSGd
import Derived.Test.YtaooglagddphnaaSGe

namespace Go.Proofs.Ytaooglagddphnaa
open Go.RowKit

set_option maxRecDepth 100000

/-- A graph's numbers, one behind the other. -/
def grN13 (gr : List (Option (Nat × Nat))) : List Value := gr.flatMap fun e => [.int .i64 (end1 e), .int .i64 (end2 e)]
theorem grN13_len (gr : List (Option (Nat × Nat))) : (grN13 gr).length = gr.length * 2 := by
  unfold grN13
  induction gr with
  | nil => rfl
  | cons x l ih => rw [List.flatMap_cons, List.length_append, ih]; simp; omega
theorem grN13_at : ∀ (gr : List (Option (Nat × Nat))) (k : Nat) (e : Option (Nat × Nat)), gr[k]? = some e → (grN13 gr)[k * 2]? = some (.int .i64 (end1 e)) ∧ (grN13 gr)[k * 2 + 1]? = some (.int .i64 (end2 e))
  | [], _, _, h => by simp at h
  | x :: l, 0, e, h => by
    simp at h
    subst h
    exact ⟨rfl, rfl⟩
  | x :: l, k + 1, e, h => by
    have := grN13_at l k e (by simpa using h)
    have e2 : (k + 1) * 2 = k * 2 + 2 := by omega
    rw [e2, show k * 2 + 2 + 1 = (k * 2 + 1) + 2 by omega]
    show (.int .i64 (end1 x) :: .int .i64 (end2 x) :: grN13 l)[k * 2 + 2]? = _ ∧ (.int .i64 (end1 x) :: .int .i64 (end2 x) :: grN13 l)[k * 2 + 1 + 2]? = _
    simp only [List.getElem?_cons_succ]
    exact this
theorem grN13_cell (gr : List (Option (Nat × Nat))) : ∀ u ∈ grN13 gr, u.oneCell' = true := by
  intro u hu
  unfold grN13 at hu
  obtain ⟨e, _, h⟩ := List.mem_flatMap.1 hu
  simp only [List.mem_cons, List.not_mem_nil, or_false] at h
  rcases h with rfl | rfl <;> rfl
/-- A graph of one's own. -/
def GOW (w : World) (base : Nat) (v : Value) (gr : List (Option (Nat × Nat))) : Prop := w.ownsRow base 97 2 v gr.length (grN13 gr)
section
variable {w w' : World} {base : Nat} {v : Value} {gr : List (Option (Nat × Nat))} {e : Option (Nat × Nat)}
theorem GOW.nil (w : World) (base : Nat) : GOW w base (.slice none 0 0) [] := World.ownsRow_nil _ _ _ _
end

end Go.Proofs.Ytaooglagddphnaa
