/- Walk of WordMeans. -/
import Derived.Test.YtfmffgibkmggiaaWordG
namespace Go.Proofs.Ytfmffgibkmggiaa
open Go.RowKit

theorem stateV_bd (t : Int) (d : Bool) (h1 : 0 ≤ t) (h2 : t ≤ 16777215) : 0 ≤ stateV t d ∧ stateV t d ≤ 18446744073709551615 := by
  unfold stateV; cases d <;> simp <;> omega
theorem stateV_parts (t : Int) (d : Bool) : stateV t d / 2 = t ∧ stateV t d % 2 = if d then 1 else 0 := by
  unfold stateV; cases d <;> simp <;> omega
theorem means_eq (o n th tg t : Int) (d : Bool) (hR : rightW o n th tg = true) (_h1 : 0 ≤ t) (_h2 : t ≤ 16777215) :
    rmeansV (bitsW o n th tg) (stateV t d) = meansW o n th tg t d := by
  obtain ⟨_, _, h3, h4, h5, h6⟩ := bitsW_parts hR
  obtain ⟨s1, s2⟩ := stateV_parts t d
  unfold rmeansV meansW
  rw [h3, h4, h5, h6, s1, s2, hR]
  cases d <;> simp [or_assoc]
theorem meansW_or (o n th tg t : Int) (d : Bool) : meansW o n th tg t d = o ∨ meansW o n th tg t d = n := by
  unfold meansW; split
  · exact Or.inr rfl
  · exact Or.inl rfl

set_option maxHeartbeats 4000000 in
theorem wordMeans_old (o n th tg t : Int) (d : Bool) (w : World) (hR : rightW o n th tg = true) (h1 : 0 ≤ t) (h2 : t ≤ 16777215) (hM : meansW o n th tg t d = o) :
    Calls Try.prog 6 #[vW o n th tg, .int .i64 t, .bool d] w fun e w' => e = .returned (.bool true) ∧ Below w.heap.size w w' := by
  have HR := Lib.hid hR; have HM := Lib.hid hM; have HE := Lib.hid (means_eq o n th tg t d hR h1 h2); clear hR hM
  have HB := Lib.hid (bitsW_parts HR.out)
  have HS := Lib.hid (stateV_bd t d h1 h2)
  go_enter Try.func6, Try.ntmps6
  go_wp2_with fail
  refine (ref_any _ _ _ _ _).mono ?_; rintro e w1 ⟨rfl, hb1⟩; obtain ⟨hc1, hf1⟩ := bcell hb1
  have hz1 : w.heap.size < w1.heap.size := by have := hb1.size; simp at this; omega
  go_wp2_with fail
  refine (rright_any _ _ _ _ _).mono ?_; rintro e w2 ⟨rfl, hb2⟩; rw [HR.out]; obtain ⟨hc2, hf2⟩ := bcell hb2
  have hz2 : w.heap.size < w2.heap.size := by have := hb2.size; omega
  go_wp2_with fail
  refine (means_any _ _ _ _ _ _ _).mono ?_; rintro e w3 ⟨rfl, hb3⟩; rw [HM.out]; obtain ⟨hc3, hf3⟩ := bcell hb3
  have hz3 : w.heap.size < w3.heap.size := by have := hb3.size; omega
  go_wp2_with fail
  refine (ref_any _ _ _ _ _).mono ?_; rintro e w4 ⟨rfl, hb4⟩; obtain ⟨hc4, hf4⟩ := bcell hb4
  have hz4 : w.heap.size < w4.heap.size := by have := hb4.size; omega
  go_wp2_with fail
  refine (rbits_w _ _ _ _ _ HR.out).mono ?_; rintro e w5 ⟨rfl, hb5⟩; obtain ⟨hc5, hf5⟩ := bcell hb5
  have hz5 : w.heap.size < w5.heap.size := by have := hb5.size; omega
  go_wp2_with fail
  refine (rstate_any _ _ _ h1 h2).mono ?_; rintro e w' ⟨rfl, rfl⟩
  go_wp2_with fail
  refine (rmeans_any _ _ _ HB.out.1 HB.out.2.1 HS.out.1 HS.out.2).mono ?_; rintro e w6 ⟨rfl, hb6⟩; rw [HE.out, HM.out]; obtain ⟨hc6, hf6⟩ := bcell hb6
  have hz6 : w.heap.size < w6.heap.size := by have := hb6.size; omega
  go_wp2_with fail
  refine (awake_any _).mono ?_; rintro e w7 ⟨rfl, hb7⟩
  go_wp2_with fail
  go_ret
  exact ⟨rfl, keepB (keepB (keepB (keepB (keepB (keepB (keepB ((Below.refl _ _).alloc (Nat.le_refl _) _) hb1) hb2) hb3) hb4) hb5) hb6) hb7⟩

set_option maxHeartbeats 4000000 in
theorem wordMeans_new (o n th tg t : Int) (d : Bool) (w : World) (hR : rightW o n th tg = true) (h1 : 0 ≤ t) (h2 : t ≤ 16777215) (hM : meansW o n th tg t d = n) (hn : (n == o) = false) :
    Calls Try.prog 6 #[vW o n th tg, .int .i64 t, .bool d] w fun e w' => e = .returned (.bool true) ∧ Below w.heap.size w w' := by
  have HR := Lib.hid hR; have HM := Lib.hid hM; have HE := Lib.hid (means_eq o n th tg t d hR h1 h2); clear hR hM
  have HB := Lib.hid (bitsW_parts HR.out)
  have HS := Lib.hid (stateV_bd t d h1 h2)
  go_enter Try.func6, Try.ntmps6
  go_wp2_with fail
  refine (ref_any _ _ _ _ _).mono ?_; rintro e w1 ⟨rfl, hb1⟩; obtain ⟨hc1, hf1⟩ := bcell hb1
  have hz1 : w.heap.size < w1.heap.size := by have := hb1.size; simp at this; omega
  go_wp2_with fail
  refine (rright_any _ _ _ _ _).mono ?_; rintro e w2 ⟨rfl, hb2⟩; rw [HR.out]; obtain ⟨hc2, hf2⟩ := bcell hb2
  have hz2 : w.heap.size < w2.heap.size := by have := hb2.size; omega
  go_wp2_with fail
  refine (means_any _ _ _ _ _ _ _).mono ?_; rintro e w3 ⟨rfl, hb3⟩; rw [HM.out]; obtain ⟨hc3, hf3⟩ := bcell hb3
  have hz3 : w.heap.size < w3.heap.size := by have := hb3.size; omega
  go_wp2_with fail
  refine (ref_any _ _ _ _ _).mono ?_; rintro e w4 ⟨rfl, hb4⟩; obtain ⟨hc4, hf4⟩ := bcell hb4
  have hz4 : w.heap.size < w4.heap.size := by have := hb4.size; omega
  go_wp2_with fail
  refine (rbits_w _ _ _ _ _ HR.out).mono ?_; rintro e w5 ⟨rfl, hb5⟩; obtain ⟨hc5, hf5⟩ := bcell hb5
  have hz5 : w.heap.size < w5.heap.size := by have := hb5.size; omega
  go_wp2_with fail
  refine (rstate_any _ _ _ h1 h2).mono ?_; rintro e w' ⟨rfl, rfl⟩
  go_wp2_with fail
  refine (rmeans_any _ _ _ HB.out.1 HB.out.2.1 HS.out.1 HS.out.2).mono ?_; rintro e w6 ⟨rfl, hb6⟩; rw [HE.out, HM.out]; obtain ⟨hc6, hf6⟩ := bcell hb6
  have hz6 : w.heap.size < w6.heap.size := by have := hb6.size; omega
  go_wp2_with fail
  refine (awake_any _).mono ?_; rintro e w7 ⟨rfl, hb7⟩
  go_wp2_with fail
  go_ret
  exact ⟨rfl, keepB (keepB (keepB (keepB (keepB (keepB (keepB ((Below.refl _ _).alloc (Nat.le_refl _) _) hb1) hb2) hb3) hb4) hb5) hb6) hb7⟩

set_option maxHeartbeats 4000000 in
theorem wordMeans_out (o n th tg t : Int) (d : Bool) (w : World) (hR : rightW o n th tg = true) (h : t < 0 ∨ 16777215 < t) :
    Calls Try.prog 6 #[vW o n th tg, .int .i64 t, .bool d] w fun e w' => e = .returned (.bool true) ∧ Below w.heap.size w w' := by
  have HR := Lib.hid hR; clear hR
  rcases h with h | h
  all_goals
    have g1 : decide (t < 0) = decide (t < 0) := rfl
    clear g1
    go_enter Try.func6, Try.ntmps6
    go_wp2_with fail
    refine (ref_any _ _ _ _ _).mono ?_; rintro e w1 ⟨rfl, hb1⟩; obtain ⟨hc1, hf1⟩ := bcell hb1
    go_wp2_with fail
    refine (rright_any _ _ _ _ _).mono ?_; rintro e w2 ⟨rfl, hb2⟩; rw [HR.out]
    go_wp2_with fail
    refine (awake_any _).mono ?_; rintro e w3 ⟨rfl, hb3⟩
    go_wp2_with fail
    go_ret
    exact ⟨rfl, keepB (keepB (keepB ((Below.refl _ _).alloc (Nat.le_refl _) _) hb1) hb2) hb3⟩

set_option maxHeartbeats 4000000 in
theorem wordMeans_no (o n th tg t : Int) (d : Bool) (w : World) (hR : rightW o n th tg = false) :
    Calls Try.prog 6 #[vW o n th tg, .int .i64 t, .bool d] w fun e w' => e = .returned (.bool true) ∧ Below w.heap.size w w' := by
  have HR := Lib.hid hR; clear hR
  go_enter Try.func6, Try.ntmps6
  go_wp2_with fail
  refine (ref_any _ _ _ _ _).mono ?_; rintro e w1 ⟨rfl, hb1⟩; obtain ⟨hc1, hf1⟩ := bcell hb1
  go_wp2_with fail
  refine (rright_any _ _ _ _ _).mono ?_; rintro e w2 ⟨rfl, hb2⟩; rw [HR.out]
  go_wp2_with fail
  refine (awake_any _).mono ?_; rintro e w3 ⟨rfl, hb3⟩
  go_wp2_with fail
  go_ret
  exact ⟨rfl, keepB (keepB (keepB ((Below.refl _ _).alloc (Nat.le_refl _) _) hb1) hb2) hb3⟩

theorem wordMeans_walk (o n th tg t : Int) (_h1 : -9223372036854775808 ≤ t) (_h2 : t ≤ 9223372036854775807) (d : Bool) (w : World) :
    Calls Try.prog 6 #[vW o n th tg, .int .i64 t, .bool d] w fun e w' => e = .returned (.bool true) ∧ Below w.heap.size w w' := by
  cases hR : rightW o n th tg
  · exact wordMeans_no o n th tg t d w hR
  · by_cases h : t < 0 ∨ 16777215 < t
    · exact wordMeans_out o n th tg t d w hR h
    · rcases meansW_or o n th tg t d with hM | hM
      · exact wordMeans_old o n th tg t d w hR (by omega) (by omega) hM
      · by_cases hn : n = o
        · exact wordMeans_old o n th tg t d w hR (by omega) (by omega) (hM.trans hn)
        · exact wordMeans_new o n th tg t d w hR (by omega) (by omega) hM (beq_eq_false_iff_ne.2 hn)
end Go.Proofs.Ytfmffgibkmggiaa
