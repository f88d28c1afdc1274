/- Walk of SlotSeries, whatever comes in. -/
import Derived.Test.YtgjlilcljefbfaaSlotLSeries
namespace Go.Proofs.Ytgjlilcljefbfaa
open Go.RowKit

theorem slotSeries_walk (s : Int) (_h0 : -9223372036854775808 ≤ s) (_h1 : s ≤ 9223372036854775807) (a : Option Addr) (len cap : Nat) (zs : List Int) (w : World) (hs : IsRow .i64 w a len cap zs) :
    Calls Try.prog 3 #[.int .i64 s, .slice a len cap] w fun e w' => e = .returned (.bool true) ∧ Below w.heap.size w w' := by
  by_cases h0 : s < 0
  · exact slotSeries_neg s a len cap w h0
  · by_cases h1 : 48 < s
    · exact slotSeries_many s a len cap w h0 h1
    · by_cases h60 : (60 : Int) < (len : Int)
      · exact slotSeries_long s a len cap w h0 h1 h60
      · obtain ⟨S, rfl⟩ := Int.eq_ofNat_of_zero_le (show 0 ≤ s by omega)
        exact slotSeries_main S a len cap zs w (by omega) (by omega) hs
end Go.Proofs.Ytgjlilcljefbfaa
