/- Walks of layer 1's statements: WordPlain. -/
import Derived.Test.YtfmffgibkmggiaaWordF
import Derived.Lib.Hide
namespace Go.Proofs.Ytfmffgibkmggiaa
open Go.RowKit

set_option maxHeartbeats 2000000 in
theorem wordPlain_walk (x : Int) (_h1 : -9223372036854775808 ≤ x) (_h2 : x ≤ 9223372036854775807) (tg : Int) (_h3 : -9223372036854775808 ≤ tg) (_h4 : tg ≤ 9223372036854775807) (d : Bool) (w : World) :
    Calls Try.prog 8 #[.int .i64 x, .int .i64 tg, .bool d] w fun e w' => e = .returned (.bool true) ∧ Below w.heap.size w w' := by
  by_cases h0 : x < 0
  · have hr : cutI x = 0 := by simp [cutI, h0]
    have hR : rightW 0 0 0 0 = true := by decide
    have hP : (rightW 0 0 0 0 && (0 : Int) == 0) = true := by rw [hR]; rfl
    have hM : meansW 0 0 0 0 tg d = 0 := by unfold meansW; exact ite_self _
    have Hr := Lib.hid hr; have HR := Lib.hid hR; have HP := Lib.hid hP; have HM := Lib.hid hM; clear hr hR hP hM
    go_enter Try.func8, Try.ntmps8
    go_wp2_with fail
    refine (of_any _ _).mono ?_; rintro e w1 ⟨rfl, hb1⟩; rw [Hr.out]; have hz1 := hb1.size
    go_wp2_with fail
    refine (pack_yes _ _ _ _ _ HR.out).mono ?_; rintro e w2 ⟨rfl, hb2⟩; obtain ⟨hc2, hf2⟩ := bcell hb2
    have hz2 : w1.heap.size < w2.heap.size := by have := hb2.size; simp at this; omega
    go_wp2_with fail
    refine (right_any _ _ _ _ _).mono ?_; rintro e w3 ⟨rfl, hb3⟩; rw [HR.out]; obtain ⟨hc3, hf3⟩ := bcell hb3
    have hz3 : w1.heap.size < w3.heap.size := by have := hb3.size; omega
    go_wp2_with fail
    refine (plain_any _ _ _ _ _).mono ?_; rintro e w4 ⟨rfl, hb4⟩; rw [HP.out]; obtain ⟨hc4, hf4⟩ := bcell hb4
    have hz4 : w1.heap.size < w4.heap.size := by have := hb4.size; omega
    go_wp2_with fail
    refine (rplain_any _ _ (by omega) (by omega)).mono ?_; rintro e w' ⟨rfl, rfl⟩
    go_wp2_with fail
    refine (means_any _ _ _ _ _ _ _).mono ?_; rintro e w5 ⟨rfl, hb5⟩; rw [HM.out]; obtain ⟨hc5, hf5⟩ := bcell hb5
    go_wp2_with fail
    refine (awake_any _).mono ?_; rintro e w6 ⟨rfl, hb6⟩
    go_wp2_with fail
    go_ret
    have B2 : Below w.heap.size w w2 := (hb1.alloc hz1 _).trans (hb2.mono (by simp; omega))
    exact ⟨rfl, ((((B2.trans (hb3.mono (by omega))).trans (hb4.mono (by omega))).trans (hb5.mono (by omega))).trans (hb6.mono (by have := hb5.size; omega)))⟩
  · by_cases h1 : x ≤ 65535
    · have hr : cutI x = x := by simp [cutI, h0, h1]
      have hR : rightW x x 0 0 = true := by unfold rightW; simp; omega
      have hP : (rightW x x 0 0 && (0 : Int) == 0) = true := by rw [hR]; rfl
      have hM : meansW x x 0 0 tg d = x := by unfold meansW; exact ite_self _
      have Hr := Lib.hid hr; have HR := Lib.hid hR; have HP := Lib.hid hP; have HM := Lib.hid hM; clear hr hR hP hM
      go_enter Try.func8, Try.ntmps8
      go_wp2_with fail
      refine (of_any _ _).mono ?_; rintro e w1 ⟨rfl, hb1⟩; rw [Hr.out]; have hz1 := hb1.size
      go_wp2_with fail
      refine (pack_yes _ _ _ _ _ HR.out).mono ?_; rintro e w2 ⟨rfl, hb2⟩; obtain ⟨hc2, hf2⟩ := bcell hb2
      have hz2 : w1.heap.size < w2.heap.size := by have := hb2.size; simp at this; omega
      go_wp2_with fail
      refine (right_any _ _ _ _ _).mono ?_; rintro e w3 ⟨rfl, hb3⟩; rw [HR.out]; obtain ⟨hc3, hf3⟩ := bcell hb3
      have hz3 : w1.heap.size < w3.heap.size := by have := hb3.size; omega
      go_wp2_with fail
      refine (plain_any _ _ _ _ _).mono ?_; rintro e w4 ⟨rfl, hb4⟩; rw [HP.out]; obtain ⟨hc4, hf4⟩ := bcell hb4
      have hz4 : w1.heap.size < w4.heap.size := by have := hb4.size; omega
      go_wp2_with fail
      refine (rplain_any _ _ (by omega) (by omega)).mono ?_; rintro e w' ⟨rfl, rfl⟩
      go_wp2_with fail
      refine (means_any _ _ _ _ _ _ _).mono ?_; rintro e w5 ⟨rfl, hb5⟩; rw [HM.out]; obtain ⟨hc5, hf5⟩ := bcell hb5
      go_wp2_with fail
      refine (awake_any _).mono ?_; rintro e w6 ⟨rfl, hb6⟩
      go_wp2_with fail
      go_ret
      have B2 : Below w.heap.size w w2 := (hb1.alloc hz1 _).trans (hb2.mono (by simp; omega))
      exact ⟨rfl, ((((B2.trans (hb3.mono (by omega))).trans (hb4.mono (by omega))).trans (hb5.mono (by omega))).trans (hb6.mono (by have := hb5.size; omega)))⟩
    · have hr : cutI x = 65535 := by simp [cutI, h0, h1]
      have hR : rightW 65535 65535 0 0 = true := by decide
      have hP : (rightW 65535 65535 0 0 && (0 : Int) == 0) = true := by rw [hR]; rfl
      have hM : meansW 65535 65535 0 0 tg d = 65535 := by unfold meansW; exact ite_self _
      have Hr := Lib.hid hr; have HR := Lib.hid hR; have HP := Lib.hid hP; have HM := Lib.hid hM; clear hr hR hP hM
      go_enter Try.func8, Try.ntmps8
      go_wp2_with fail
      refine (of_any _ _).mono ?_; rintro e w1 ⟨rfl, hb1⟩; rw [Hr.out]; have hz1 := hb1.size
      go_wp2_with fail
      refine (pack_yes _ _ _ _ _ HR.out).mono ?_; rintro e w2 ⟨rfl, hb2⟩; obtain ⟨hc2, hf2⟩ := bcell hb2
      have hz2 : w1.heap.size < w2.heap.size := by have := hb2.size; simp at this; omega
      go_wp2_with fail
      refine (right_any _ _ _ _ _).mono ?_; rintro e w3 ⟨rfl, hb3⟩; rw [HR.out]; obtain ⟨hc3, hf3⟩ := bcell hb3
      have hz3 : w1.heap.size < w3.heap.size := by have := hb3.size; omega
      go_wp2_with fail
      refine (plain_any _ _ _ _ _).mono ?_; rintro e w4 ⟨rfl, hb4⟩; rw [HP.out]; obtain ⟨hc4, hf4⟩ := bcell hb4
      have hz4 : w1.heap.size < w4.heap.size := by have := hb4.size; omega
      go_wp2_with fail
      refine (rplain_any _ _ (by omega) (by omega)).mono ?_; rintro e w' ⟨rfl, rfl⟩
      go_wp2_with fail
      refine (means_any _ _ _ _ _ _ _).mono ?_; rintro e w5 ⟨rfl, hb5⟩; rw [HM.out]; obtain ⟨hc5, hf5⟩ := bcell hb5
      go_wp2_with fail
      refine (awake_any _).mono ?_; rintro e w6 ⟨rfl, hb6⟩
      go_wp2_with fail
      go_ret
      have B2 : Below w.heap.size w w2 := (hb1.alloc hz1 _).trans (hb2.mono (by simp; omega))
      exact ⟨rfl, ((((B2.trans (hb3.mono (by omega))).trans (hb4.mono (by omega))).trans (hb5.mono (by omega))).trans (hb6.mono (by have := hb5.size; omega)))⟩

end Go.Proofs.Ytfmffgibkmggiaa
