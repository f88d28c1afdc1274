/- LayNodes' walk, whole. -/
import Derived.Test.YtflcddjoeadngaaLayLNodes
namespace Go.Proofs.Ytflcddjoeadngaa
open Go.RowKit
theorem layNodes_walk (V S T x : Int) (_h1 : -9223372036854775808 ≤ x) (_h2 : x ≤ 9223372036854775807) (w : World) :
    Calls Try.prog 3 #[vL V S T, .int .i64 x] w fun e w' => e = .returned (.bool true) ∧ Below w.heap.size w w' := by
  cases hr : rtB V S T
  · exact layNodes_no V S T x w hr
  · exact layNodes_yes V S T x w (rtB_yes hr)
end Go.Proofs.Ytflcddjoeadngaa
