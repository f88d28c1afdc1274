/- Contracts of package word's small functions. -/
import Derived.Test.YtipjbgkfhkidkaaRows
import Derived.WalkKit
import Derived.ProofKit
import Derived.OpenShut
import Derived.WalkSpells
import Derived.WalkLawsBesides
namespace Go.Proofs.Ytipjbgkfhkidkaa
open Go.RowKit

theorem bcellW {W w1 : World} (hb : Below W.heap.size W w1) : (∀ b o, b < W.heap.size → w1.cell? ⟨b, o, none⟩ = W.cell? ⟨b, o, none⟩) ∧ (∀ b o, b < W.heap.size → w1.frozen? ⟨b, o, none⟩ = W.frozen? ⟨b, o, none⟩) :=
  ⟨fun b o h => hb.cell (p := ⟨b, o, none⟩) h, fun b o h => hb.frozen (p := ⟨b, o, none⟩) h⟩

def isIx (x : Int) : Bool := decide (0 ≤ x ∧ x ≤ 65535)
def isTh (x : Int) : Bool := decide (0 ≤ x ∧ x ≤ 8)
def isTg (x : Int) : Bool := decide (0 ≤ x ∧ x ≤ 16777215)

theorem isIndex_any (x : Int) (w : World) :
    Calls Try.prog 61 #[.int .i64 x] w fun e w' => e = .returned (.bool (isIx x)) ∧ w = w' := by
  by_cases h0 : 0 ≤ x
  · by_cases h1 : x ≤ 65535
    · have hr : isIx x = true := by simp [isIx, h0, h1]
      rw [hr]; clear hr
      go_enter Try.func61, Try.ntmps61
      go_wp2
      go_ret
      exact ⟨rfl, rfl⟩
    · have hr : isIx x = false := by simp [isIx, h1]
      rw [hr]; clear hr
      go_enter Try.func61, Try.ntmps61
      go_wp2
      go_ret
      exact ⟨rfl, rfl⟩
  · have hr : isIx x = false := by simp [isIx, h0]
    rw [hr]; clear hr
    go_enter Try.func61, Try.ntmps61
    go_wp2
    go_ret
    exact ⟨rfl, rfl⟩
end Go.Proofs.Ytipjbgkfhkidkaa
