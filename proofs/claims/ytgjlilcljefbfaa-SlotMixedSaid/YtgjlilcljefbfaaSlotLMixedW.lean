/- Walk of SlotMixed, whatever comes in. Printed by wip/tools/slotlw.py. -/
import Derived.Test.YtgjlilcljefbfaaSlotLMixed
namespace Go.Proofs.Ytgjlilcljefbfaa
open Go.RowKit

set_option maxRecDepth 100000

theorem slotMixed_neg (s n : Int) (a : Option Addr) (len cap : Nat) (w : World) (hs : s < 0) :
    Calls Try.prog 4 #[.int .i64 s, .int .i64 n, .slice a len cap] w fun e w' => e = .returned (.bool true) ∧ Below w.heap.size w w' := by
  go_enter Try.func4, Try.ntmps4
  go_wp2_with fail
  refine (awake_any _).mono ?_; rintro e w3 ⟨rfl, hb3⟩
  go_wp2_with fail
  go_ret
  exact ⟨rfl, keepB ((Below.refl _ _).alloc (Nat.le_refl _) _) hb3⟩
theorem slotMixed_many (s n : Int) (a : Option Addr) (len cap : Nat) (w : World) (h0 : ¬ s < 0) (hs : 48 < s) :
    Calls Try.prog 4 #[.int .i64 s, .int .i64 n, .slice a len cap] w fun e w' => e = .returned (.bool true) ∧ Below w.heap.size w w' := by
  go_enter Try.func4, Try.ntmps4
  go_wp2_with fail
  refine (awake_any _).mono ?_; rintro e w3 ⟨rfl, hb3⟩
  go_wp2_with fail
  go_ret
  exact ⟨rfl, keepB ((Below.refl _ _).alloc (Nat.le_refl _) _) hb3⟩
theorem slotMixed_few (s n : Int) (a : Option Addr) (len cap : Nat) (w : World) (h0 : ¬ s < 0) (h1 : ¬ 48 < s) (hn : n < 1) :
    Calls Try.prog 4 #[.int .i64 s, .int .i64 n, .slice a len cap] w fun e w' => e = .returned (.bool true) ∧ Below w.heap.size w w' := by
  go_enter Try.func4, Try.ntmps4
  go_wp2_with fail
  refine (awake_any _).mono ?_; rintro e w3 ⟨rfl, hb3⟩
  go_wp2_with fail
  go_ret
  exact ⟨rfl, keepB ((Below.refl _ _).alloc (Nat.le_refl _) _) hb3⟩
theorem slotMixed_most (s n : Int) (a : Option Addr) (len cap : Nat) (w : World) (h0 : ¬ s < 0) (h1 : ¬ 48 < s) (h2 : ¬ n < 1) (hn : 8 < n) :
    Calls Try.prog 4 #[.int .i64 s, .int .i64 n, .slice a len cap] w fun e w' => e = .returned (.bool true) ∧ Below w.heap.size w w' := by
  go_enter Try.func4, Try.ntmps4
  go_wp2_with fail
  refine (awake_any _).mono ?_; rintro e w3 ⟨rfl, hb3⟩
  go_wp2_with fail
  go_ret
  exact ⟨rfl, keepB ((Below.refl _ _).alloc (Nat.le_refl _) _) hb3⟩
theorem slotMixed_long (s n : Int) (a : Option Addr) (len cap : Nat) (w : World) (h0 : ¬ s < 0) (h1 : ¬ 48 < s) (h2 : ¬ n < 1) (h3 : ¬ 8 < n) (h4 : (200 : Int) < (len : Int)) :
    Calls Try.prog 4 #[.int .i64 s, .int .i64 n, .slice a len cap] w fun e w' => e = .returned (.bool true) ∧ Below w.heap.size w w' := by
  go_enter Try.func4, Try.ntmps4
  go_wp2_with fail
  refine (awake_any _).mono ?_; rintro e w3 ⟨rfl, hb3⟩
  go_wp2_with fail
  go_ret
  exact ⟨rfl, keepB ((Below.refl _ _).alloc (Nat.le_refl _) _) hb3⟩

theorem slotMixed_walk (s : Int) (_s0 : -9223372036854775808 ≤ s) (_s1 : s ≤ 9223372036854775807) (n : Int) (_n0 : -9223372036854775808 ≤ n) (_n1 : n ≤ 9223372036854775807) (a : Option Addr) (len cap : Nat) (zs : List Int) (w : World) (hs : IsRow .i64 w a len cap zs) :
    Calls Try.prog 4 #[.int .i64 s, .int .i64 n, .slice a len cap] w fun e w' => e = .returned (.bool true) ∧ Below w.heap.size w w' := by
  by_cases h0 : s < 0
  · exact slotMixed_neg s n a len cap w h0
  · by_cases h1 : 48 < s
    · exact slotMixed_many s n a len cap w h0 h1
    · by_cases h2 : n < 1
      · exact slotMixed_few s n a len cap w h0 h1 h2
      · by_cases h3 : 8 < n
        · exact slotMixed_most s n a len cap w h0 h1 h2 h3
        · by_cases h4 : (200 : Int) < (len : Int)
          · exact slotMixed_long s n a len cap w h0 h1 h2 h3 h4
          · obtain ⟨S, rfl⟩ := Int.eq_ofNat_of_zero_le (show 0 ≤ s by omega)
            obtain ⟨nW, rfl⟩ := Int.eq_ofNat_of_zero_le (show 0 ≤ n by omega)
            exact slotMixed_main S nW a len cap zs w (by omega) (by omega) (by omega) (by omega) hs
end Go.Proofs.Ytgjlilcljefbfaa
