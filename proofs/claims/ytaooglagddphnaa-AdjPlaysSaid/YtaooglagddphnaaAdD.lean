/- Marks of nodes beside lists: Mark and Marked leave what is no node's. -/
import Derived.Test.YtaooglagddphnaaAdC
namespace Go.Proofs.Ytaooglagddphnaa
open Go.RowKit
section
variable {V S T : Int} {w w' : World} {p gb cap m k x i : Nat} {g g' : Mg9} {mk : Nat → Nat} {ts : List Tp} {t : Tp}
theorem rs_same (h : ∀ y, g' y 5 = g y 5) (i : Nat) : rs V S g' i = rs V S g i := by unfold rs; rw [h]
theorem tmarkR (A : TM w V S T p gb cap m g) (hF : FI V S g mk ts) {on : Bool} (h1 : x ≠ 0) (h2 : x ≤ nN V S) (hk : k < 2) (hm : m ≤ 99960000) {xa ka : Int} (hxa : xa = (x : Int)) (hka : ka = (k : Int)) :
    Calls Try.prog 123 #[vTr V S T p, .int .i64 xa, .int .i64 ka, .bool on] w fun e w' => ∃ g', e = .returned (.tuple #[]) ∧ TM w' V S T p gb cap (m + 7 + 7 * nN V S) g' ∧ FI V S g' (mkSet mk x k on) ts ∧ (∀ i, rs V S g' i = rs V S g i) ∧ Only p gb w w' := by
  refine (fmark A hF h1 h2 hk hm hxa hka).mono ?_
  rintro e w' ⟨g', rfl, h3, h4, h5, h6⟩
  exact ⟨g', rfl, h3, h5, rs_same h4, h6⟩
theorem tmarkedR (A : TM w V S T p gb cap m g) (hF : FI V S g mk ts) (h1 : x ≠ 0) (h2 : x ≤ nN V S) (hk : k < 2) (hm : m ≤ 99980000) {xI kI : Int} (hxI : xI = (x : Int)) (hkI : kI = (k : Int)) :
    Calls Try.prog 40 #[vTr V S T p, .int .i64 xI, .int .i64 kI] w (Did V S T p gb cap (m + 1) g (.bool (hasB (mk x) k)) w) := by
  obtain ⟨t, ht, hx⟩ := (hF.al x).1 ⟨h1, h2⟩
  obtain ⟨i, hi⟩ := List.mem_iff_getElem?.1 ht
  exact fmarked A hF hi hx hk hm hxI hkI
end
end Go.Proofs.Ytaooglagddphnaa
