/- The contract of the fixed answer. -/
import Derived.Test.YtbcocchmbkghoaaCellD
namespace Go.Proofs.Ytbcocchmbkghoaa
open Go.RowKit

section
variable {p g n cap k : Nat} {c f : Nat → Int} {w : World}
theorem load_is (A : Ar w p g n cap c f) (hk : k < n) {m : Nat} (hm : CB c m) (hb : m ≤ 1000000) {x : Int} (hx : f k = x) :
    Calls Try.prog 14 #[.pointer (some ⟨p, 0, none⟩), .int .i64 (k : Int)] w fun e w' => e = .returned (.tuple #[.int .u64 x, .int .i64 0]) ∧ Ar w' p g n cap (upd c 0 (c 0 + 1)) f ∧ Only p g w w' := by
  rw [← hx]; exact load_yes A hk hm hb
theorem add_is (A : Ar w p g n cap c f) (hk : k < n) {v : Int} {m : Nat} (hm : CB c m) (hb : m ≤ 1000000) {x y : Int} (hx : f k = x) (hy : sumU x v = y) :
    Calls Try.prog 16 #[.pointer (some ⟨p, 0, none⟩), .int .i64 (k : Int), .int .u64 v] w fun e w' => e = .returned (.tuple #[.int .u64 x, .int .i64 0]) ∧ Ar w' p g n cap (upd c 4 (c 4 + 1)) (upd f k y) ∧ Only p g w w' := by
  rw [← hy, ← hx]; exact add_yes A hk hm hb
theorem counts_is (A : Ar w p g n cap c f) {x0 x1 x2 x3 x4 : Int} (h0 : c 0 = x0) (h1 : c 1 = x1) (h2 : c 2 = x2) (h3 : c 3 = x3) (h4 : c 4 = x4) :
    Calls Try.prog 17 #[.pointer (some ⟨p, 0, none⟩)] w fun e w' => e = .returned (.agg #[.int .i64 x0, .int .i64 x1, .int .i64 x2, .int .i64 x3, .int .i64 x4]) ∧ Below w.heap.size w w' := by
  rw [← h0, ← h1, ← h2, ← h3, ← h4]; exact counts_any A
theorem aequal_is {p' g' cap' : Nat} {c' h : Nat → Int} (A : Ar w p g n cap c f) (B : Ar w p' g' n cap' c' h) {b : Bool} (hb : sameB n f h = b) :
    Calls Try.prog 11 #[.pointer (some ⟨p, 0, none⟩), .pointer (some ⟨p', 0, none⟩)] w fun e w' => e = .returned (.bool b) ∧ ∃ m, w' = w.drewN m := by
  rw [← hb]; exact aequal_any A B
end

theorem few0 : CB zeroF 0 := fun _ => ⟨Int.le_refl _, Int.le_refl _⟩

set_option maxRecDepth 100000 in
set_option maxHeartbeats 4000000 in
theorem awake_any (w : World) : Calls Try.prog 7 #[] w fun e w' => e = .returned (.bool true) ∧ Below w.heap.size w w' := by
  have m1 := few0.upd 1
  have m2 := m1.upd 2
  have m3 := m2.upd 3
  have m4 := m3.upd 4
  have m5 := m4.upd 0
  go_enter Try.func7, Try.ntmps7
  go_wp2_with fail
  refine (new_yes 2 _ (by omega)).mono ?_; rintro e w1 ⟨rfl, A1, B1⟩
  go_wp2_with fail
  refine (new_no (-1) _ (by omega)).mono ?_; rintro e w2 ⟨rfl, rfl⟩
  go_wp2_with fail
  refine (store_yes A1 (k := 0) (by omega) (by omega) (by omega) few0 (by omega)).mono ?_; rintro e w2 ⟨rfl, A2, O2⟩
  go_wp2_with fail
  refine (store_no A2 (.inr (by omega)) _).mono ?_; rintro e w3 ⟨rfl, rfl⟩
  go_wp2_with fail
  refine (swap_hit A2 (k := 0) (by omega) (by rw [upd_same]; rfl) (by omega) (by omega) m1 (by omega)).mono ?_; rintro e w3 ⟨rfl, A3, O3⟩
  go_wp2_with fail
  refine (swap_miss A3 (k := 0) (by omega) (by rw [upd_same]; rfl) m2 (by omega)).mono ?_; rintro e w4 ⟨rfl, A4, O4⟩
  go_wp2_with fail
  refine (add_is A4 (k := 0) (x := 7) (y := 9) (by omega) m3 (by omega) (by rw [upd_same]) rfl).mono ?_; rintro e w5 ⟨rfl, A5, O5⟩
  go_wp2_with fail
  refine (load_is A5 (k := 0) (x := 9) (by omega) m4 (by omega) (by rw [upd_same])).mono ?_; rintro e w6 ⟨rfl, A6, O6⟩
  go_wp2_with fail
  refine (copy_any A6).mono ?_; rintro e w7 ⟨p', g', cap', rfl, hp', hg', C7, B7⟩
  have A7 := A6.below B7 (Nat.le_refl _)
  go_wp2_with fail
  refine (len_any A7).mono ?_; rintro e w8 ⟨rfl, rfl⟩
  go_wp2_with fail
  refine (counts_is A7 (x0 := 1) (x1 := 1) (x2 := 1) (x3 := 1) (x4 := 1) rfl rfl rfl rfl rfl).mono ?_; rintro e w8 ⟨rfl, B8⟩
  have A8 := A7.below B8 (Nat.le_refl _)
  have C8 := C7.below B8 (Nat.le_refl _)
  go_wp2_with fail
  refine (aequal_is C8 A8 (b := true) (by unfold sameB; exact decide_eq_true fun _ _ => rfl)).mono ?_; rintro e w9 ⟨rfl, q, rfl⟩
  go_wp2_with fail
  refine (store_yes (C8.drewN q) (k := 1) (by omega) (by omega) (by omega) m5 (by omega)).mono ?_; rintro e w9 ⟨rfl, C9, O9⟩
  have hpa := A6.p_lt
  have hga := A6.g_lt
  have hz : w.heap.size ≤ w6.heap.size := by omega
  have A9 := (A8.drewN q).only O9 (by omega) (by omega) (by omega) (by omega)
  go_wp2_with fail
  refine (aequal_is C9 A9 (b := false) ?_).mono ?_
  · unfold sameB
    refine decide_eq_false fun h => ?_
    have := h 1 (by omega)
    simp [upd, zeroF] at this
  rintro e w10 ⟨rfl, q2, rfl⟩
  go_wp2_with fail
  go_ret
  have B6 : Below w.heap.size w w6 := ((((O2.trans O3).trans O4).trans O5).trans O6).below B1 B1.size (by omega) (by omega)
  have B9 : Below w.heap.size w w8 := keepB (keepB B6 B7) B8
  have B10 : Below w.heap.size w w9 := O9.below (⟨B9.os, B9.tape, B9.output, B9.size, B9.block⟩ : Below w.heap.size w (w8.drewN q)) B9.size (by omega) (by omega)
  exact ⟨rfl, B10.os, B10.tape, B10.output, B10.size, B10.block⟩
end Go.Proofs.Ytbcocchmbkghoaa
