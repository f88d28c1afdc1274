/- Walk of WordPacks. -/
import Derived.Test.YtfmffgibkmggiaaWordG
import Derived.Deep.RegionHeld3
import Derived.Outline
import Derived.WalkSpells
namespace Go.Proofs.Ytfmffgibkmggiaa
open Go.RowKit

set_option maxHeartbeats 4000000 in
theorem wordPacks_yes (o n th tg : Int) (w : World) (hR : rightW o n th tg = true) :
    Calls Try.prog 3 #[vW o n th tg] w fun e w' => e = .returned (.bool true) ∧ Below w.heap.size w w' := by
  have HR := Lib.hid hR; clear hR
  go_enter Try.func3, Try.ntmps3
  go_wp2_with fail
  refine (pack_w _ _ _ _ _ HR.out).mono ?_; rintro e w1 ⟨rfl, hb1⟩; obtain ⟨hc1, hf1⟩ := bcell hb1
  have hz1 : w.heap.size < w1.heap.size := by have := hb1.size; simp at this; omega
  go_wp2_with fail
  refine (ref_any _ _ _ _ _).mono ?_; rintro e w2 ⟨rfl, hb2⟩; obtain ⟨hc2, hf2⟩ := bcell hb2
  have hz2 : w.heap.size < w2.heap.size := by have := hb2.size; omega
  go_wp2_with fail
  refine (rright_any _ _ _ _ _).mono ?_; rintro e w3 ⟨rfl, hb3⟩; rw [HR.out]; obtain ⟨hc3, hf3⟩ := bcell hb3
  have hz3 : w.heap.size < w3.heap.size := by have := hb3.size; omega
  go_wp2_with fail
  refine (right_any _ _ _ _ _).mono ?_; rintro e w4 ⟨rfl, hb4⟩; rw [HR.out]; obtain ⟨hc4, hf4⟩ := bcell hb4
  have hz4 : w.heap.size < w4.heap.size := by have := hb4.size; omega
  go_wp2_with fail
  refine (unpack_w _ _ _ _ _ HR.out).mono ?_; rintro e w5 ⟨rfl, hb5⟩; obtain ⟨hc5, hf5⟩ := bcell hb5
  have hz5 : w.heap.size < w5.heap.size := by have := hb5.size; omega
  go_wp2_with fail
  have B5 : Below w.heap.size w w5 := keepB (keepB (keepB (keepB (keepB ((Below.refl _ _).alloc (Nat.le_refl _) _) hb1) hb2) hb3) hb4) hb5
  have a0 : w5.cell? ⟨w.heap.size, 0, none⟩ = some (.int .i64 o) := by simp [*, go_sem]
  have a1 : w5.cell? ⟨w.heap.size, 1, none⟩ = some (.int .i64 n) := by simp [*, go_sem]
  have a2 : w5.cell? ⟨w.heap.size, 2, none⟩ = some (.int .i64 th) := by simp [*, go_sem]
  have a3 : w5.cell? ⟨w.heap.size, 3, none⟩ = some (.int .i64 tg) := by simp [*, go_sem]
  clear hc1 hc2 hc3 hc4 hc5 hf1 hf2 hf3 hf4 hf5 hb1 hb2 hb3 hb4 hb5
  have B6 : Below w.heap.size w (w5.alloc (.cells #[.int .i64 o, .int .i64 n, .int .i64 th, .int .i64 tg] 23)) := B5.alloc (by omega) _
  go_region_held3 (fun w' => Below w.heap.size w w' ∧ w'.cell? ⟨w.heap.size, 0, none⟩ = some (.int .i64 o) ∧ w'.cell? ⟨w.heap.size, 1, none⟩ = some (.int .i64 n) ∧ w'.cell? ⟨w.heap.size, 2, none⟩ = some (.int .i64 th) ∧ w'.cell? ⟨w.heap.size, 3, none⟩ = some (.int .i64 tg) ∧ w'.cell? ⟨w5.heap.size, 0, none⟩ = some (.int .i64 o) ∧ w'.cell? ⟨w5.heap.size, 1, none⟩ = some (.int .i64 n) ∧ w'.cell? ⟨w5.heap.size, 2, none⟩ = some (.int .i64 th) ∧ w'.cell? ⟨w5.heap.size, 3, none⟩ = some (.int .i64 tg)) (first | exact ⟨B6.drew, by simp [*, go_sem], by simp [*, go_sem], by simp [*, go_sem], by simp [*, go_sem], by simp [go_sem], by simp [go_sem], by simp [go_sem], by simp [go_sem]⟩ | exact (And.imp (fun h => keepB h hb) (And.imp (cell_later hb) (And.imp (cell_later hb) (And.imp (cell_later hb) (And.imp (cell_later hb) (And.imp (cell_later hb) (And.imp (cell_later hb) (And.imp (cell_later hb) (cell_later hb))))))))) (by assumption) | (trace_state; fail))
    (first
      | (go_at_call 12; refine (ref_any _ _ _ _ _).mono ?_; rintro e w' ⟨rfl, hb⟩)
      | (go_at_call 16; refine (rbits_w _ _ _ _ _ HR.out).mono ?_; rintro e w' ⟨rfl, hb⟩)
      | (go_at_call 17; refine (plain_any _ _ _ _ _).mono ?_; rintro e w' ⟨rfl, hb⟩; rw [HR.out])
      | (go_at_call 14; refine (awake_any _).mono ?_; rintro e w' ⟨rfl, hb⟩))
  all_goals
    go_wp2
    go_ret
    exact ⟨rfl, And.left (by assumption)⟩

set_option maxHeartbeats 4000000 in
theorem wordPacks_no (o n th tg : Int) (w : World) (hR : rightW o n th tg = false) :
    Calls Try.prog 3 #[vW o n th tg] w fun e w' => e = .returned (.bool true) ∧ Below w.heap.size w w' := by
  have HR := Lib.hid hR; clear hR
  go_enter Try.func3, Try.ntmps3
  go_wp2_with fail
  refine (pack_no _ _ _ _ _ HR.out).mono ?_; rintro e w1 ⟨rfl, hb1⟩; obtain ⟨hc1, hf1⟩ := bcell hb1
  have hz1 : w.heap.size < w1.heap.size := by have := hb1.size; simp at this; omega
  go_wp2_with fail
  refine (ref_any _ _ _ _ _).mono ?_; rintro e w2 ⟨rfl, hb2⟩; obtain ⟨hc2, hf2⟩ := bcell hb2
  have hz2 : w.heap.size < w2.heap.size := by have := hb2.size; omega
  go_wp2_with fail
  refine (rright_any _ _ _ _ _).mono ?_; rintro e w3 ⟨rfl, hb3⟩; rw [HR.out]; obtain ⟨hc3, hf3⟩ := bcell hb3
  have hz3 : w.heap.size < w3.heap.size := by have := hb3.size; omega
  go_wp2_with fail
  refine (right_any _ _ _ _ _).mono ?_; rintro e w4 ⟨rfl, hb4⟩; rw [HR.out]; obtain ⟨hc4, hf4⟩ := bcell hb4
  have hz4 : w.heap.size < w4.heap.size := by have := hb4.size; omega
  go_wp2_with fail
  refine (awake_any _).mono ?_; rintro e w5 ⟨rfl, hb5⟩
  go_wp2_with fail
  go_ret
  exact ⟨rfl, keepB (keepB (keepB (keepB (keepB ((Below.refl _ _).alloc (Nat.le_refl _) _) hb1) hb2) hb3) hb4) hb5⟩

theorem wordPacks_walk (o n th tg : Int) (w : World) :
    Calls Try.prog 3 #[vW o n th tg] w fun e w' => e = .returned (.bool true) ∧ Below w.heap.size w w' := by
  cases h : rightW o n th tg
  · exact wordPacks_no o n th tg w h
  · exact wordPacks_yes o n th tg w h
end Go.Proofs.Ytfmffgibkmggiaa
