/- Find, by a list of edges. -/
import Derived.Test.YtaooglagddphnaaEdF
namespace Go.Proofs.Ytaooglagddphnaa
open Go.RowKit

set_option maxRecDepth 100000

section
variable {w w' w0 : World} {base q p gb cap m : Nat} {V S T : Int} {f : Nat → Int} {vl : Value} {ls : List E1} {u v : Nat} {r : Int}
theorem find_none (h : EM w V S T p gb cap m f) (hE : ER V S T f ls) (hu : (u : Int) < V) (hv : (v : Int) < V) (hne : u ≠ v) (hn : ∀ x ∈ ls, ¬ (x.u = min u v ∧ x.v = max u v)) (hm : m ≤ 100000000) :
    Calls Try.prog 45 #[vE V S T p, .int .i64 (u : Int), .int .i64 (v : Int)] w fun e w' => e = .returned (.tuple #[.int .i64 0, .bool false, .bool false]) ∧ EM w' V S T p gb cap (m + 1) f ∧ Only p gb w w' := by
  refine find_no h hu hv hne ?_ hm
  rw [← eC_minmax]
  exact hE.no _ _ (by omega) (by omega) fun e he => hn e he
theorem find_some (h : EM w V S T p gb cap m f) (hE : ER V S T f ls) (hu : (u : Int) < V) (hv : (v : Int) < V) (hne : u ≠ v) {x : E1} (hx : x ∈ ls) (e : x.u = min u v ∧ x.v = max u v) (hm : m ≤ 100000000) :
    Calls Try.prog 45 #[vE V S T p, .int .i64 (u : Int), .int .i64 (v : Int)] w fun e w' => e = .returned (.tuple #[.int .i64 (x.s : Int), .bool x.t, .bool true]) ∧ EM w' V S T p gb cap (m + 1) f ∧ Only p gb w w' := by
  obtain ⟨h1, h2, h3, h4⟩ := hE.ok x hx
  refine find_yes h hu hv hne h3 ?_ hm
  rw [← eC_minmax, ← e.1, ← e.2]
  exact (hE.is x hx).1
end
end Go.Proofs.Ytaooglagddphnaa
