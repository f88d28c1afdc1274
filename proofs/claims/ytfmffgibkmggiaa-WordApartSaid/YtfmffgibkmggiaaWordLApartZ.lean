/- Walk of WordApart. -/
import Derived.Test.YtfmffgibkmggiaaWordLApartA
import Derived.Test.YtfmffgibkmggiaaWordLApartB
import Derived.Test.YtfmffgibkmggiaaWordLApartC
import Derived.Test.YtfmffgibkmggiaaWordLApartD
import Derived.Test.YtfmffgibkmggiaaWordLApartE
import Derived.Test.YtfmffgibkmggiaaWordLApartF
namespace Go.Proofs.Ytfmffgibkmggiaa
open Go.RowKit

set_option maxHeartbeats 4000000 in
theorem wordApart_no1 (o n th tg p m uh ug : Int) (w : World) (hR : rightW o n th tg = false) :
    Calls Try.prog 9 #[vW o n th tg, vW p m uh ug] w fun e w' => e = .returned (.bool true) ∧ Below w.heap.size w w' := by
  have HR := Lib.hid hR; clear hR
  go_enter Try.func9, Try.ntmps9
  go_wp2_with fail
  refine (ref_any _ _ _ _ _).mono ?_; rintro e w1 ⟨rfl, hb1⟩; obtain ⟨hc1, hf1⟩ := bcell hb1
  have hz1 : w.heap.size + 1 < w1.heap.size := by have := hb1.size; simp at this; omega
  go_wp2_with fail
  refine (rright_any _ _ _ _ _).mono ?_; rintro e w2 ⟨rfl, hb2⟩; rw [HR.out]; obtain ⟨hc2, hf2⟩ := bcell hb2
  have hz2 : w.heap.size + 1 < w2.heap.size := by have := hb2.size; omega
  go_wp2_with fail
  refine (awake_any _).mono ?_; rintro e w3 ⟨rfl, hb3⟩
  go_wp2_with fail
  go_ret
  exact ⟨rfl, keepB (keepB (keepB (((Below.refl _ _).alloc (Nat.le_refl _) _).alloc (by simp) _) hb1) hb2) hb3⟩

set_option maxHeartbeats 4000000 in
theorem wordApart_no2 (o n th tg p m uh ug : Int) (w : World) (hR : rightW o n th tg = true) (hQ : rightW p m uh ug = false) :
    Calls Try.prog 9 #[vW o n th tg, vW p m uh ug] w fun e w' => e = .returned (.bool true) ∧ Below w.heap.size w w' := by
  have HR := Lib.hid hR; have HQ := Lib.hid hQ; clear hR hQ
  go_enter Try.func9, Try.ntmps9
  go_wp2_with fail
  refine (ref_any _ _ _ _ _).mono ?_; rintro e w1 ⟨rfl, hb1⟩; obtain ⟨hc1, hf1⟩ := bcell hb1
  have hz1 : w.heap.size + 1 < w1.heap.size := by have := hb1.size; simp at this; omega
  go_wp2_with fail
  refine (rright_any _ _ _ _ _).mono ?_; rintro e w2 ⟨rfl, hb2⟩; rw [HR.out]; obtain ⟨hc2, hf2⟩ := bcell hb2
  have hz2 : w.heap.size + 1 < w2.heap.size := by have := hb2.size; omega
  go_wp2_with fail
  refine (ref_any _ _ _ _ _).mono ?_; rintro e w3 ⟨rfl, hb3⟩
  go_wp2_with fail
  refine (rright_any _ _ _ _ _).mono ?_; rintro e w4 ⟨rfl, hb4⟩; rw [HQ.out]
  go_wp2_with fail
  refine (awake_any _).mono ?_; rintro e w5 ⟨rfl, hb5⟩
  go_wp2_with fail
  go_ret
  exact ⟨rfl, keepB (keepB (keepB (keepB (keepB (((Below.refl _ _).alloc (Nat.le_refl _) _).alloc (by simp) _) hb1) hb2) hb3) hb4) hb5⟩

theorem wordApart_walk (o n th tg p m uh ug : Int) (w : World) :
    Calls Try.prog 9 #[vW o n th tg, vW p m uh ug] w fun e w' => e = .returned (.bool true) ∧ Below w.heap.size w w' := by
  cases hR : rightW o n th tg
  · exact wordApart_no1 o n th tg p m uh ug w hR
  · cases hQ : rightW p m uh ug
    · exact wordApart_no2 o n th tg p m uh ug w hR hQ
    · have ne : ∀ {a b : Int}, ¬ a = b → (a == b) = false := fun h => beq_eq_false_iff_ne.2 h
      by_cases h1 : o = p
      · subst h1
        by_cases h2 : n = m
        · subst h2
          by_cases h3 : th = uh
          · subst h3
            by_cases h4 : tg = ug
            · subst h4; exact wordApart_eq o n th tg w hR hQ
            · exact wordApart_d o n th tg ug w hR hQ (ne h4) (bits_ne hR hQ (by omega)) (state_ne h4 _ _)
          · by_cases h4 : tg = ug
            · subst h4; exact wordApart_c1 o n th tg uh w hR hQ (ne h3) (bits_ne hR hQ (by omega)) (state_eq _ _ _)
            · exact wordApart_c2 o n th tg uh ug w hR hQ (ne h3) (ne h4) (bits_ne hR hQ (by omega)) (state_ne h4 _ _)
        · by_cases h4 : tg = ug
          · subst h4; exact wordApart_b1 o n th tg m uh w hR hQ (ne h2) (bits_ne hR hQ (by omega)) (state_eq _ _ _)
          · exact wordApart_b2 o n th tg m uh ug w hR hQ (ne h2) (ne h4) (bits_ne hR hQ (by omega)) (state_ne h4 _ _)
      · by_cases h4 : tg = ug
        · subst h4; exact wordApart_a1 o n th tg p m uh w hR hQ (ne h1) (bits_ne hR hQ (by omega)) (state_eq _ _ _)
        · exact wordApart_a2 o n th tg p m uh ug w hR hQ (ne h1) (ne h4) (bits_ne hR hQ (by omega)) (state_ne h4 _ _)
end Go.Proofs.Ytfmffgibkmggiaa
