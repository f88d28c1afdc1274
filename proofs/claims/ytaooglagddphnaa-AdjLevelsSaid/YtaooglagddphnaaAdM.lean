/- The law's maps: keys of one number, and of two. -/
import Derived.Test.YtaooglagddphnaaAdL
import Derived.Test.YtaooglagddphnaaFm
namespace Go.Proofs.Ytaooglagddphnaa
open Go.RowKit

set_option maxRecDepth 100000

/-- The law's keys. -/
theorem keyedI : Go.Maps.Keyed Try.prog 3 := Go.Maps.int_keyed Try.underlying3
theorem typesN : ∃ m, Try.prog.types.size = m + 1 := ⟨Try.prog.types.size - 1, by have : 0 < Try.prog.types.size := of_decide_eq_true (by kernel_rfl); omega⟩
theorem arrK : WideMaps.ArrKey Try.prog 97 3 2 := ⟨Try.underlying97, by kernel_rfl, by kernel_rfl, by kernel_rfl⟩
theorem keyedP : Go.Maps.Keyed Try.prog 97 := Go.Maps.Keyed.of_law arrK.law
theorem keyI (a : Int) (h : -9223372036854775808 ≤ a ∧ a ≤ 9223372036854775807) : keyOf Try.prog 3 (.int .i64 a) = some (.int .i64 a) := Go.Maps.keyOf_int_mk (q := .i64) Try.underlying3 (WalkArith.wf_i64 h)
theorem keyP (a c : Int) (h : -9223372036854775808 ≤ a ∧ a ≤ 9223372036854775807) (h2 : -9223372036854775808 ≤ c ∧ c ≤ 9223372036854775807) : ∃ l, keyOf Try.prog 97 (.agg #[.int .i64 a, .int .i64 c]) = some l := ⟨_, WideMaps.keyOf_pair (q := .i64) arrK Try.underlying3 typesN (WalkArith.wf_i64 h) (WalkArith.wf_i64 h2)⟩
theorem zeroEd (w : World) : (zeroValue 55).run Try.prog w = .ok (.agg #[.int .i64 0, .int .i64 0, .int .i64 0, .bool false]) w := by kernel_rfl
theorem zeroIs (w : World) : (zeroValue 60).run Try.prog w = .ok (.slice none 0 0) w := by kernel_rfl
end Go.Proofs.Ytaooglagddphnaa
