/- Contract of the fixed answers of layer 1's statements. -/
import Derived.Test.YtfmffgibkmggiaaWordE
namespace Go.Proofs.Ytfmffgibkmggiaa
open Go.RowKit

set_option maxHeartbeats 2000000 in
theorem awake_any (w : World) :
    Calls Try.prog 14 #[] w fun e w' => e = .returned (.bool true) ∧ Below w.heap.size w w' := by
  go_enter Try.func14, Try.ntmps14
  go_wp2_with fail
  refine (pack_yes _ _ _ _ _ (by decide)).mono ?_; rintro e w1 ⟨rfl, hb1⟩; obtain ⟨hc1, hf1⟩ := bcell hb1
  have hz1 : w.heap.size < w1.heap.size := by have := hb1.size; simp at this; omega
  go_wp2_with fail
  refine (unpack_yes _ _ (by decide) (by decide) (by decide)).mono ?_; rintro e w2 ⟨rfl, hb2⟩; obtain ⟨hc2, hf2⟩ := bcell hb2
  have hz2 : w.heap.size < w2.heap.size := by have := hb2.size; omega
  go_wp2_with fail
  refine (unpack_no _ _ (by decide) (by decide) (by decide)).mono ?_; rintro e w3 ⟨rfl, hb3⟩; obtain ⟨hc3, hf3⟩ := bcell hb3
  have hz3 : w2.heap.size < w3.heap.size := by have := hb3.size; simp at this; omega
  have hz4 : w.heap.size < w3.heap.size := by omega
  go_wp2_with fail
  refine (state_yes _ _ _ (by decide) (by decide)).mono ?_; rintro e w' ⟨rfl, rfl⟩
  simp only [stateV]
  go_wp2_with fail
  refine (tag_yes _ _ (by decide) (by decide)).mono ?_; rintro e w' ⟨rfl, rfl⟩
  go_wp2_with fail
  refine (state_no _ _ _ (by decide)).mono ?_; rintro e w' ⟨rfl, rfl⟩
  go_wp2_with fail
  refine (means_any _ _ _ _ _ _ _).mono ?_; rintro e w5 ⟨rfl, hb5⟩; obtain ⟨hc5, hf5⟩ := bcell hb5
  have hz5 : w.heap.size < w5.heap.size := by have := hb5.size; simp at this; omega
  rw [show meansW 3 5 1 7 7 false = 3 from by decide]
  go_wp2_with fail
  refine (means_any _ _ _ _ _ _ _).mono ?_; rintro e w6 ⟨rfl, hb6⟩; obtain ⟨hc6, hf6⟩ := bcell hb6
  have hz6 : w.heap.size < w6.heap.size := by have := hb6.size; omega
  rw [show meansW 3 5 1 7 8 false = 5 from by decide]
  go_wp2_with fail
  refine (of_any _ _).mono ?_; rintro e w7 ⟨rfl, hb7⟩; obtain ⟨hc7, hf7⟩ := bcell hb7
  have hz7 : w.heap.size < w7.heap.size := by have := hb7.size; omega
  rw [show cutI 3 = 3 from by decide]
  go_wp2_with fail
  refine (plain_any _ _ _ _ _).mono ?_; rintro e w8 ⟨rfl, hb8⟩; obtain ⟨hc8, hf8⟩ := bcell hb8
  have hz8 : w.heap.size < w8.heap.size := by have := hb8.size; omega
  rw [show (rightW 3 3 0 0 && (0 : Int) == 0) = true from by decide]
  go_wp2_with fail
  refine (right_any _ _ _ _ _).mono ?_; rintro e w9 ⟨rfl, hb9⟩
  rw [show rightW 3 5 1 7 = true from by decide]
  go_wp2_with fail
  go_ret
  have B1 : Below w.heap.size w w1 := ((Below.refl _ _).alloc (Nat.le_refl _) _).trans (hb1.mono (by simp))
  have B2 : Below w.heap.size w w2 := B1.trans (hb2.mono (by omega))
  have B3 : Below w.heap.size w w3 := (B2.alloc (by omega) _).trans (hb3.mono (by simp; omega))
  have B5 : Below w.heap.size w w5 := (B3.alloc (by omega) _).trans (hb5.mono (by simp; omega))
  exact ⟨rfl, (((B5.trans (hb6.mono (by omega))).trans (hb7.mono (by omega))).trans (hb8.mono (by omega))).trans (hb9.mono (by omega))⟩
end Go.Proofs.Ytfmffgibkmggiaa
