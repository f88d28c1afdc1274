/- The law TourBack: its ways put together. -/
import Derived.Test.YtahabfjngeicmaaZTovLBackA
import Derived.Test.YtahabfjngeicmaaZTovLBackB
import Derived.Test.YtahabfjngeicmaaZTovLBackG
namespace Go.Proofs.Ytahabfjngeicmaa
open Go.RowKit

theorem lback_any {V S T : Int} {da oa : Option Addr} {dl dc ol oc : Nat} {f : Nat → Nat} {fo : Nat → OpT} (kd a b c d : Int) (w : World) (hD : IsNum w da dl f) (hO : IsOpT w oa ol fo) :
    Calls Try.prog 3 #[vC10 V S T da dl dc oa ol oc, .agg #[.int .i64 kd, .int .i64 a, .int .i64 b, .int .i64 c, .int .i64 d]] w fun e w' => e = .returned (.bool true) ∧ Below w.heap.size w w' := by
  by_cases h0 : a < 0
  · exact lbackA kd a b c d w hD hO (.inl h0)
  by_cases h1 : lv V ≤ a
  · exact lbackA kd a b c d w hD hO (.inr (.inl ⟨(by omega), h1⟩))
  by_cases h2 : b < 0
  · exact lbackA kd a b c d w hD hO (.inr (.inr (.inl ⟨(by omega), (by omega), h2⟩)))
  by_cases h3 : S ≤ b
  · exact lbackA kd a b c d w hD hO (.inr (.inr (.inr ⟨(by omega), (by omega), (by omega), h3⟩)))
  by_cases h4 : c < 0
  · exact lbackB kd a b c d w hD hO (.inl ⟨(by omega), (by omega), (by omega), (by omega), h4⟩)
  by_cases h5 : V ≤ c
  · exact lbackB kd a b c d w hD hO (.inr (.inl ⟨(by omega), (by omega), (by omega), (by omega), (by omega), h5⟩))
  by_cases h6 : d < 0
  · exact lbackB kd a b c d w hD hO (.inr (.inr (.inl ⟨(by omega), (by omega), (by omega), (by omega), (by omega), (by omega), h6⟩)))
  by_cases h7 : V ≤ d
  · exact lbackB kd a b c d w hD hO (.inr (.inr (.inr ⟨(by omega), (by omega), (by omega), (by omega), (by omega), (by omega), (by omega), h7⟩)))
  obtain ⟨L, rfl⟩ : ∃ L : Nat, a = (L : Int) := ⟨a.toNat, by omega⟩
  obtain ⟨s, rfl⟩ : ∃ s : Nat, b = (s : Int) := ⟨b.toNat, by omega⟩
  obtain ⟨u, rfl⟩ : ∃ u : Nat, c = (u : Int) := ⟨c.toNat, by omega⟩
  obtain ⟨v, rfl⟩ : ∃ v : Nat, d = (v : Int) := ⟨d.toNat, by omega⟩
  exact lbackGood kd L s u v w hD hO (by omega) (by omega) (by omega) (by omega)
end Go.Proofs.Ytahabfjngeicmaa
