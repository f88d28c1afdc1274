/- The law's step, whatever the call is. -/
import Derived.Test.YtahabfjngeicmaaZTouU
import Derived.Test.YtahabfjngeicmaaZTouX
import Derived.Test.YtahabfjngeicmaaZTouY
import Derived.Test.YtahabfjngeicmaaZTovO
namespace Go.Proofs.Ytahabfjngeicmaa
open Go.RowKit

section
variable {w : World} {V S T kd a b c d : Int} {n q p gb cap rb lb cr cl base m : Nat} {gB : Nat → Nat} {g : Mg9} {ts : List Tp} {vr : Nat → Value} {rs : Nat → List (List Nat)} {gr : Nat → List (Option (Nat × Nat))}
theorem step_any10 (h : PL w V S T n q p gb cap rb lb cr cl base gB m g ts vr rs gr) (hb : base ≤ w.heap.size) (hm : m ≤ 700000) :
    Calls Try.prog 11 #[.pointer (some ⟨q, 0, none⟩), .agg #[.int .i64 kd, .int .i64 a, .int .i64 b, .int .i64 c, .int .i64 d]] w (StD V S T n q p gb cap rb lb cr cl base gB m w) := by
  by_cases h0 : a < 0
  · exact step_no0 h hb h0
  have g0 : 0 ≤ a := by omega
  by_cases h1 : lv V ≤ a
  · exact step_no1 h hb g0 h1
  have g1 : a < lv V := by omega
  by_cases h2 : b < 0
  · exact step_no2 h hb g0 g1 h2
  have g2 : 0 ≤ b := by omega
  by_cases h3 : S ≤ b
  · exact step_no3 h hb g0 g1 g2 h3
  have g3 : b < S := by omega
  by_cases h4 : c < 0
  · exact step_no4 h hb g0 g1 g2 g3 h4
  have g4 : 0 ≤ c := by omega
  by_cases h5 : V ≤ c
  · exact step_no5 h hb g0 g1 g2 g3 g4 h5
  have g5 : c < V := by omega
  by_cases h6 : d < 0
  · exact step_no6 h hb g0 g1 g2 g3 g4 g5 h6
  have g6 : 0 ≤ d := by omega
  by_cases h7 : V ≤ d
  · exact step_no7 h hb g0 g1 g2 g3 g4 g5 g6 h7
  have g7 : d < V := by omega
  obtain ⟨L, rfl⟩ := Int.eq_ofNat_of_zero_le g0
  obtain ⟨s, rfl⟩ := Int.eq_ofNat_of_zero_le g2
  obtain ⟨u, rfl⟩ := Int.eq_ofNat_of_zero_le g4
  obtain ⟨v, rfl⟩ := Int.eq_ofNat_of_zero_le g6
  have hL : L < n := by have := h.pg.hn; omega
  have hlv := h.lv L hL
  obtain ⟨r1, hr1, hx⟩ := hlv.cov u g5
  obtain ⟨r2, hr2, hy⟩ := hlv.cov v g7
  obtain ⟨i, hi⟩ := List.mem_iff_getElem?.1 hr1
  obtain ⟨k, hk⟩ := List.mem_iff_getElem?.1 hr2
  have he : (gr L)[s]? = some ((gr L)[s]'(by rw [hlv.len]; omega)) := List.getElem?_eq_getElem _
  by_cases k1 : kd = 1
  · subst k1; exact step_link h hb hm hL g3 g5 g7 hi hx hk hy he
  by_cases k2 : kd = 2
  · subst k2; exact step_cut h hb hm hL g3 g5 g7 hi hx hk hy he
  by_cases k3 : kd = 3
  · subst k3; exact step_begin h hb hm hL g3 g5 g7 hi hx hk hy he
  exact step_other h hb hm hL g3 g5 g7 hi hx hk hy he k1 k2 k3
end

end Go.Proofs.Ytahabfjngeicmaa
