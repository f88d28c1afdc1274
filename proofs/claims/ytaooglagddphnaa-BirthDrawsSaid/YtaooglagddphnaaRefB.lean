/- The document's book of cells: keys that are names. -/
import Derived.Test.YtaooglagddphnaaRefT
import Derived.Test.YtaooglagddphnaaFm
import Derived.DeepKeys3
namespace Go.Proofs.Ytaooglagddphnaa
open Go.RowKit

set_option maxRecDepth 100000

abbrev nmV (m : Nm) : Value := .agg #[.int .i64 m.k, .int .i64 m.a, .int .i64 m.b, .int .i64 m.c]
theorem typesN13 : ∃ m, Try.prog.types.size = m + 1 := ⟨Try.prog.types.size - 1, by have : 0 < Try.prog.types.size := of_decide_eq_true (by kernel_rfl); omega⟩
theorem keyedN : Go.Maps.Keyed Try.prog 114 := Go.Maps.Keyed.of_law (deep_law (m := 2) (by omega) (by kernel_rfl) (by kernel_rfl) (by rw [Try.underlying114]))
theorem cellsN13 : Try.prog.cellsOf 114 = 4 := by kernel_rfl
theorem cellsI13 : Try.prog.cellsOf 3 = 1 := by kernel_rfl
theorem ktN13 : Try.prog.keyType 114 = true := by kernel_rfl
def in64 (x : Int) : Prop := -9223372036854775808 ≤ x ∧ x ≤ 9223372036854775807
theorem keyN (m : Nm) (h1 : in64 m.k) (h2 : in64 m.a) (h3 : in64 m.b) (h4 : in64 m.c) : ∃ l, keyOf Try.prog 114 (nmV m) = some l := by
  have w1 := WalkArith.wf_i64 h1
  have w2 := WalkArith.wf_i64 h2
  have w3 := WalkArith.wf_i64 h3
  have w4 := WalkArith.wf_i64 h4
  obtain ⟨m', hm⟩ := typesN13
  unfold keyOf
  simp only [Try.underlying114]
  rw [if_pos (by simp [ktN13, Value.formed, Try.underlying114, cellsN13]), hm]
  unfold Program.keyLits
  simp only [Try.underlying114, Value.cells]
  rw [if_pos (by rw [cellsN13]; exact ⟨rfl, by simp⟩)]
  simp [cellsI13, Program.keyLits, Try.underlying3, w1, w2, w3, w4]
end Go.Proofs.Ytaooglagddphnaa
