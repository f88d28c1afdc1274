/- Walk of WordStates. -/
import Derived.Test.YtfmffgibkmggiaaWordLMeans
namespace Go.Proofs.Ytfmffgibkmggiaa
open Go.RowKit

theorem stateV_lt (t : Int) (d : Bool) (h1 : 0 ≤ t) (h2 : t ≤ 16777215) : 0 ≤ stateV t d ∧ stateV t d < 33554432 := by
  unfold stateV; cases d <;> simp <;> omega
theorem stateV_of (v : Int) : stateV (v / 2) (v % 2 != 0) = v := by
  unfold stateV
  by_cases h : v % 2 = 0
  · simp [h]; omega
  · simp [h]; omega
theorem tag_s (t : Int) (d : Bool) (w : World) (h1 : 0 ≤ t) (h2 : t ≤ 16777215) :
    Calls Try.prog 20 #[.int .u64 (stateV t d)] w fun e w' => e = .returned (.tuple #[.int .i64 t, .bool d, .int .i64 0]) ∧ w = w' := by
  have hv := stateV_lt t d h1 h2
  obtain ⟨s1, s2⟩ := stateV_parts t d
  have k := tag_yes (stateV t d) w hv.1 hv.2
  have e : ((if d = true then (1 : Int) else 0) != 0) = d := by cases d <;> rfl
  rw [s1, s2, e] at k
  exact k

set_option maxHeartbeats 4000000 in
theorem wordStates_yy (t : Int) (d : Bool) (h1 : 0 ≤ t) (h2 : t ≤ 16777215) (t2 : Int) (d2 : Bool) (h3 : 0 ≤ t2) (h4 : t2 ≤ 16777215) (w : World) :
    Calls Try.prog 5 #[.int .i64 t, .bool d, .int .u64 (stateV t2 d2)] w fun e w' => e = .returned (.bool true) ∧ Below w.heap.size w w' := by
  have hv := stateV_lt t2 d2 h3 h4
  go_enter Try.func5, Try.ntmps5
  go_wp2_with fail
  refine (state_yes _ _ _ h1 h2).mono ?_; rintro e w' ⟨rfl, rfl⟩
  go_wp2_with fail
  refine (tag_s _ _ _ h1 h2).mono ?_; rintro e w' ⟨rfl, rfl⟩
  go_wp2_with fail
  refine (rstate_any _ _ _ h1 h2).mono ?_; rintro e w' ⟨rfl, rfl⟩
  go_wp2_with fail
  refine (tag_s _ _ _ h3 h4).mono ?_; rintro e w' ⟨rfl, rfl⟩
  go_wp2_with fail
  refine (rstate_any _ _ _ h3 h4).mono ?_; rintro e w' ⟨rfl, rfl⟩
  go_wp2_with fail
  refine (awake_any _).mono ?_; rintro e w1 ⟨rfl, hb1⟩
  go_wp2_with fail
  go_ret
  exact ⟨rfl, hb1⟩

set_option maxHeartbeats 4000000 in
theorem wordStates_yn (t : Int) (d : Bool) (h1 : 0 ≤ t) (h2 : t ≤ 16777215) (v : Int) (h3 : 33554432 ≤ v) (h4 : v ≤ 18446744073709551615) (w : World) :
    Calls Try.prog 5 #[.int .i64 t, .bool d, .int .u64 v] w fun e w' => e = .returned (.bool true) ∧ Below w.heap.size w w' := by
  go_enter Try.func5, Try.ntmps5
  go_wp2_with fail
  refine (state_yes _ _ _ h1 h2).mono ?_; rintro e w' ⟨rfl, rfl⟩
  go_wp2_with fail
  refine (tag_s _ _ _ h1 h2).mono ?_; rintro e w' ⟨rfl, rfl⟩
  go_wp2_with fail
  refine (rstate_any _ _ _ h1 h2).mono ?_; rintro e w' ⟨rfl, rfl⟩
  go_wp2_with fail
  refine (tag_no _ _ h3 h4).mono ?_; rintro e w' ⟨rfl, rfl⟩
  go_wp2_with fail
  refine (awake_any _).mono ?_; rintro e w1 ⟨rfl, hb1⟩
  go_wp2_with fail
  go_ret
  exact ⟨rfl, hb1⟩

set_option maxHeartbeats 4000000 in
theorem wordStates_lo_y (t : Int) (d : Bool) (h1 : t < 0) (t2 : Int) (d2 : Bool) (h3 : 0 ≤ t2) (h4 : t2 ≤ 16777215) (w : World) :
    Calls Try.prog 5 #[.int .i64 t, .bool d, .int .u64 (stateV t2 d2)] w fun e w' => e = .returned (.bool true) ∧ Below w.heap.size w w' := by
  have hv := stateV_lt t2 d2 h3 h4
  go_enter Try.func5, Try.ntmps5
  go_wp2_with fail
  refine (state_no _ _ _ (by omega)).mono ?_; rintro e w' ⟨rfl, rfl⟩
  go_wp2_with fail
  refine (tag_s _ _ _ h3 h4).mono ?_; rintro e w' ⟨rfl, rfl⟩
  go_wp2_with fail
  refine (rstate_any _ _ _ h3 h4).mono ?_; rintro e w' ⟨rfl, rfl⟩
  go_wp2_with fail
  refine (awake_any _).mono ?_; rintro e w1 ⟨rfl, hb1⟩
  go_wp2_with fail
  go_ret
  exact ⟨rfl, hb1⟩

set_option maxHeartbeats 4000000 in
theorem wordStates_lo_n (t : Int) (d : Bool) (h1 : t < 0) (v : Int) (h3 : 33554432 ≤ v) (h4 : v ≤ 18446744073709551615) (w : World) :
    Calls Try.prog 5 #[.int .i64 t, .bool d, .int .u64 v] w fun e w' => e = .returned (.bool true) ∧ Below w.heap.size w w' := by
  go_enter Try.func5, Try.ntmps5
  go_wp2_with fail
  refine (state_no _ _ _ (by omega)).mono ?_; rintro e w' ⟨rfl, rfl⟩
  go_wp2_with fail
  refine (tag_no _ _ h3 h4).mono ?_; rintro e w' ⟨rfl, rfl⟩
  go_wp2_with fail
  refine (awake_any _).mono ?_; rintro e w1 ⟨rfl, hb1⟩
  go_wp2_with fail
  go_ret
  exact ⟨rfl, hb1⟩

set_option maxHeartbeats 4000000 in
theorem wordStates_hi_y (t : Int) (d : Bool) (h1 : 16777215 < t) (t2 : Int) (d2 : Bool) (h3 : 0 ≤ t2) (h4 : t2 ≤ 16777215) (w : World) :
    Calls Try.prog 5 #[.int .i64 t, .bool d, .int .u64 (stateV t2 d2)] w fun e w' => e = .returned (.bool true) ∧ Below w.heap.size w w' := by
  have hv := stateV_lt t2 d2 h3 h4
  go_enter Try.func5, Try.ntmps5
  go_wp2_with fail
  refine (state_no _ _ _ (by omega)).mono ?_; rintro e w' ⟨rfl, rfl⟩
  go_wp2_with fail
  refine (tag_s _ _ _ h3 h4).mono ?_; rintro e w' ⟨rfl, rfl⟩
  go_wp2_with fail
  refine (rstate_any _ _ _ h3 h4).mono ?_; rintro e w' ⟨rfl, rfl⟩
  go_wp2_with fail
  refine (awake_any _).mono ?_; rintro e w1 ⟨rfl, hb1⟩
  go_wp2_with fail
  go_ret
  exact ⟨rfl, hb1⟩

set_option maxHeartbeats 4000000 in
theorem wordStates_hi_n (t : Int) (d : Bool) (h1 : 16777215 < t) (v : Int) (h3 : 33554432 ≤ v) (h4 : v ≤ 18446744073709551615) (w : World) :
    Calls Try.prog 5 #[.int .i64 t, .bool d, .int .u64 v] w fun e w' => e = .returned (.bool true) ∧ Below w.heap.size w w' := by
  go_enter Try.func5, Try.ntmps5
  go_wp2_with fail
  refine (state_no _ _ _ (by omega)).mono ?_; rintro e w' ⟨rfl, rfl⟩
  go_wp2_with fail
  refine (tag_no _ _ h3 h4).mono ?_; rintro e w' ⟨rfl, rfl⟩
  go_wp2_with fail
  refine (awake_any _).mono ?_; rintro e w1 ⟨rfl, hb1⟩
  go_wp2_with fail
  go_ret
  exact ⟨rfl, hb1⟩

theorem wordStates_walk (t : Int) (_h1 : -9223372036854775808 ≤ t) (_h2 : t ≤ 9223372036854775807) (d : Bool) (v : Int) (h3 : 0 ≤ v) (h4 : v ≤ 18446744073709551615) (w : World) :
    Calls Try.prog 5 #[.int .i64 t, .bool d, .int .u64 v] w fun e w' => e = .returned (.bool true) ∧ Below w.heap.size w w' := by
  by_cases hv : v < 33554432
  · have e := stateV_of v
    by_cases a : t < 0
    · have k := wordStates_lo_y t d a (v / 2) (v % 2 != 0) (by omega) (by omega) w
      rw [e] at k; exact k
    · by_cases b : 16777215 < t
      · have k := wordStates_hi_y t d b (v / 2) (v % 2 != 0) (by omega) (by omega) w
        rw [e] at k; exact k
      · have k := wordStates_yy t d (by omega) (by omega) (v / 2) (v % 2 != 0) (by omega) (by omega) w
        rw [e] at k; exact k
  · by_cases a : t < 0
    · exact wordStates_lo_n t d a v (by omega) h4 w
    · by_cases b : 16777215 < t
      · exact wordStates_hi_n t d b v (by omega) h4 w
      · exact wordStates_yn t d (by omega) (by omega) v (by omega) h4 w
end Go.Proofs.Ytfmffgibkmggiaa
