/- Walk of CellCopies. -/
import Derived.Test.YtbcocchmbkghoaaCellF
namespace Go.Proofs.Ytbcocchmbkghoaa
open Go.RowKit

set_option maxRecDepth 100000 in
set_option maxHeartbeats 4000000 in
theorem cellCopies_out (cells : Int) (a1 a2 : Option Addr) (len1 cap1 len2 cap2 : Nat) (w : World) (h : (60 : Int) < (len1 : Int) ∨ (60 : Int) < (len2 : Int) ∨ cells < 1 ∨ 40 < cells) :
    Calls Try.prog 6 #[.int .i64 cells, .slice a1 len1 cap1, .slice a2 len2 cap2] w fun e w' => e = .returned (.bool true) ∧ Below w.heap.size w w' := by
  by_cases h1 : (60 : Int) < (len1 : Int)
  · clear h
    go_enter Try.func6, Try.ntmps6
    go_wp2_with fail
    refine (awake_any _).mono ?_; rintro e w3 ⟨rfl, hb3⟩
    go_wp2_with fail
    go_ret
    exact ⟨rfl, hb3⟩
  · by_cases h2 : (60 : Int) < (len2 : Int)
    · clear h
      go_enter Try.func6, Try.ntmps6
      go_wp2_with fail
      refine (awake_any _).mono ?_; rintro e w3 ⟨rfl, hb3⟩
      go_wp2_with fail
      go_ret
      exact ⟨rfl, hb3⟩
    · by_cases h3 : cells < 1
      · clear h
        go_enter Try.func6, Try.ntmps6
        go_wp2_with fail
        refine (awake_any _).mono ?_; rintro e w3 ⟨rfl, hb3⟩
        go_wp2_with fail
        go_ret
        exact ⟨rfl, hb3⟩
      · have h4 : 40 < cells := by omega
        clear h
        go_enter Try.func6, Try.ntmps6
        go_wp2_with fail
        refine (awake_any _).mono ?_; rintro e w3 ⟨rfl, hb3⟩
        go_wp2_with fail
        go_ret
        exact ⟨rfl, hb3⟩

set_option maxRecDepth 100000 in
set_option maxHeartbeats 8000000 in
theorem cellCopies_main (n : Nat) (a1 a2 : Option Addr) (len1 cap1 len2 cap2 : Nat) (q1 q2 : Nat → OpV) (w : World) (h1 : (len1 : Int) ≤ 60) (h2 : (len2 : Int) ≤ 60) (hn1 : 1 ≤ n) (hn2 : n ≤ 40)
    (s1 : IsOps w a1 len1 q1) (s2 : IsOps w a2 len2 q2) :
    Calls Try.prog 6 #[.int .i64 (n : Int), .slice a1 len1 cap1, .slice a2 len2 cap2] w fun e w' => e = .returned (.bool true) ∧ Below w.heap.size w w' := by
  have H1 := Lib.hid s1; clear s1
  have H2 := Lib.hid s2; clear s2
  have F0 := Lib.hid few0
  go_enter Try.func6, Try.ntmps6
  go_wp2_with fail
  refine (new_yes n _ (by omega)).mono ?_; rintro e w1 ⟨rfl, A1, B1⟩
  go_wp2_with fail
  refine (do_any (s := (zeroF, zeroF)) _ _ _ _ q1 H1.out A1 B1 (by omega) (by omega) F0.out (by omega) (by omega)).mono ?_; rintro e w2 ⟨rfl, A2, m2, O2⟩
  generalize playC n q1 len1 (zeroF, zeroF) = s at A2 m2
  have B2 : Below w.heap.size w w2 := O2.below B1 B1.size (by omega) (by omega)
  clear A1 B1 O2
  go_wp2_with fail
  refine (copy_any A2).mono ?_; rintro e w3 ⟨pb, gb, cb, rfl, hpb, hgb, C3, B3⟩
  have A3 := A2.below B3 (Nat.le_refl _)
  have hA := A2.p_lt
  have hG := A2.g_lt
  have ob := B2.size
  have B3' : Below w.heap.size w w3 := keepB B2 B3
  clear A2 B2 B3
  go_wp2_with fail
  refine (copy_any A3).mono ?_; rintro e w4 ⟨pc, gc, cc, rfl, hpc, hgc, D4, B4⟩
  have A4 := A3.below B4 (Nat.le_refl _)
  have C4 := C3.below B4 (Nat.le_refl _)
  have hC := C3.p_lt
  have hCg := C3.g_lt
  have oc := B3'.size
  have B4' : Below w.heap.size w w4 := keepB B3' B4
  clear A3 C3 B3' B4
  go_wp2_with fail
  refine (counts_any C4).mono ?_; rintro e w5 ⟨rfl, B5⟩
  have A5 := A4.below B5 (Nat.le_refl _)
  have C5 := C4.below B5 (Nat.le_refl _)
  have D5 := D4.below B5 (Nat.le_refl _)
  have B5' : Below w.heap.size w w5 := keepB B4' B5
  clear A4 C4 D4 B4' B5
  go_wp2_with fail
  refine (counts_any A5).mono ?_; rintro e w6 ⟨rfl, B6⟩
  have A6 := A5.below B6 (Nat.le_refl _)
  have C6 := C5.below B6 (Nat.le_refl _)
  have D6 := D5.below B6 (Nat.le_refl _)
  have B6' : Below w.heap.size w w6 := keepB B5' B6
  clear A5 C5 D5 B5' B6
  go_wp2_with fail
  refine (do_any _ _ _ _ q2 H2.out C6 B6' (by omega) (by omega) m2 (by omega) (by omega)).mono ?_; rintro e w7 ⟨rfl, C7, m7, O7⟩
  have A7 := A6.only O7 (by omega) (by omega) (by omega) (by omega)
  have D7 := D6.only O7 (by omega) (by omega) (by omega) (by omega)
  have B7' : Below w.heap.size w w7 := O7.below B6' B6'.size (by omega) (by omega)
  clear A6 C6 D6 B6' O7
  go_wp2_with fail
  refine (aequal_is A7 D7 (same_self _ _)).mono ?_; rintro e w8 ⟨rfl, d8, rfl⟩
  go_wp2_with fail
  refine (counts_any (A7.drewN d8)).mono ?_; rintro e w9 ⟨rfl, B9⟩
  have A9 := (A7.drewN d8).below B9 (Nat.le_refl _)
  have C9 := (C7.drewN d8).below B9 (Nat.le_refl _)
  have D9 := (D7.drewN d8).below B9 (Nat.le_refl _)
  have B9' : Below w.heap.size w w9 := keepB (⟨B7'.os, B7'.tape, B7'.output, B7'.size, B7'.block⟩ : Below w.heap.size w (w7.drewN d8)) B9
  clear A7 C7 D7 B7' B9
  go_wp2_with fail
  refine (counts_any D9).mono ?_; rintro e w10 ⟨rfl, B10⟩
  have A10 := A9.below B10 (Nat.le_refl _)
  have C10 := C9.below B10 (Nat.le_refl _)
  have B10' : Below w.heap.size w w10 := keepB B9' B10
  clear A9 C9 D9 B9' B10
  go_wp2_with fail
  refine (do_any _ _ _ _ q2 H2.out A10 B10' (by omega) (by omega) m2 (by omega) (by omega)).mono ?_; rintro e w11 ⟨rfl, A11, m11, O11⟩
  have C11 := C10.only O11 (by omega) (by omega) (by omega) (by omega)
  have B11' : Below w.heap.size w w11 := O11.below B10' B10'.size (by omega) (by omega)
  clear A10 C10 B10' O11
  go_wp2_with fail
  refine (aequal_is A11 C11 (same_self _ _)).mono ?_; rintro e w12 ⟨rfl, d12, rfl⟩
  go_wp2_with fail
  refine (counts_any (A11.drewN d12)).mono ?_; rintro e w13 ⟨rfl, B13⟩
  have C13 := (C11.drewN d12).below B13 (Nat.le_refl _)
  have B13' : Below w.heap.size w w13 := keepB (⟨B11'.os, B11'.tape, B11'.output, B11'.size, B11'.block⟩ : Below w.heap.size w (w11.drewN d12)) B13
  go_wp2_with fail
  refine (counts_any C13).mono ?_; rintro e w14 ⟨rfl, B14⟩
  go_wp2_with fail
  refine (awake_any _).mono ?_; rintro e w15 ⟨rfl, B15⟩
  go_wp2_with fail
  go_ret
  exact ⟨rfl, keepB (keepB B13' B14) B15⟩

theorem cellCopies_walk (cells : Int) (_c0 : -9223372036854775808 ≤ cells) (_c1 : cells ≤ 9223372036854775807) (a1 : Option Addr) (len1 cap1 : Nat) (q1 : Nat → OpV) (a2 : Option Addr) (len2 cap2 : Nat) (q2 : Nat → OpV) (w : World)
    (s1 : IsOps w a1 len1 q1) (s2 : IsOps w a2 len2 q2) :
    Calls Try.prog 6 #[.int .i64 cells, .slice a1 len1 cap1, .slice a2 len2 cap2] w fun e w' => e = .returned (.bool true) ∧ Below w.heap.size w w' := by
  by_cases h : (60 : Int) < (len1 : Int) ∨ (60 : Int) < (len2 : Int) ∨ cells < 1 ∨ 40 < cells
  · exact cellCopies_out cells a1 a2 len1 cap1 len2 cap2 w h
  · obtain ⟨n, rfl⟩ := Int.eq_ofNat_of_zero_le (show 0 ≤ cells by omega)
    exact cellCopies_main n a1 a2 len1 cap1 len2 cap2 q1 q2 w (by omega) (by omega) (by omega) (by omega) s1 s2
end Go.Proofs.Ytbcocchmbkghoaa
