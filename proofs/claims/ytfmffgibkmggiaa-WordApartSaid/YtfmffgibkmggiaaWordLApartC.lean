/- Walk of WordApart, by cases. -/
import Derived.Test.YtfmffgibkmggiaaWordLApart0
import Derived.Deep.RegionHeld3
import Derived.WalkSpells
import Derived.StillTailTactics
namespace Go.Proofs.Ytfmffgibkmggiaa
open Go.RowKit

set_option maxHeartbeats 8000000 in
theorem wordApart_a2 (o n th tg p m uh ug : Int) (w : World) (hR : rightW o n th tg = true) (hQ : rightW p m uh ug = true) (_d : (o == p) = false) (_e : (tg == ug) = false) (_hB : (bitsW o n th tg == bitsW p m uh ug) = false) (_hS : (stateV tg (th == 0) == stateV ug (uh == 0)) = false) :
    Calls Try.prog 9 #[vW o n th tg, vW p m uh ug] w fun e w' => e = .returned (.bool true) ∧ Below w.heap.size w w' := by
  have HR := Lib.hid hR; have HQ := Lib.hid hQ; clear hR hQ
  have HBR := Lib.hid (right_bd HR.out); have HBQ := Lib.hid (right_bd HQ.out)
  go_enter Try.func9, Try.ntmps9
  go_wp2_with fail
  refine (ref_any _ _ _ _ _).mono ?_; rintro e w1 ⟨rfl, hb1⟩; obtain ⟨hc1, hf1⟩ := bcell hb1
  have hz1 : w.heap.size + 1 < w1.heap.size := by have := hb1.size; simp at this; omega
  have hy1 : w.heap.size < w1.heap.size := by omega
  go_wp2_with fail
  refine (rright_any _ _ _ _ _).mono ?_; rintro e w2 ⟨rfl, hb2⟩; rw [HR.out]; obtain ⟨hc2, hf2⟩ := bcell hb2
  have hz2 : w.heap.size + 1 < w2.heap.size := by have := hb2.size; omega
  have hy2 : w.heap.size < w2.heap.size := by omega
  go_wp2_with fail
  refine (ref_any _ _ _ _ _).mono ?_; rintro e w3 ⟨rfl, hb3⟩; obtain ⟨hc3, hf3⟩ := bcell hb3
  have hz3 : w.heap.size + 1 < w3.heap.size := by have := hb3.size; omega
  have hy3 : w.heap.size < w3.heap.size := by omega
  go_wp2_with fail
  refine (rright_any _ _ _ _ _).mono ?_; rintro e w4 ⟨rfl, hb4⟩; rw [HQ.out]; obtain ⟨hc4, hf4⟩ := bcell hb4
  have hz4 : w.heap.size + 1 < w4.heap.size := by have := hb4.size; omega
  have hy4 : w.heap.size < w4.heap.size := by omega
  go_wp2_with fail
  refine (pack_w _ _ _ _ _ HR.out).mono ?_; rintro e w5 ⟨rfl, hb5⟩; obtain ⟨hc5, hf5⟩ := bcell hb5
  have hz5 : w.heap.size + 1 < w5.heap.size := by have := hb5.size; omega
  have hy5 : w.heap.size < w5.heap.size := by omega
  go_wp2_with fail
  refine (pack_w _ _ _ _ _ HQ.out).mono ?_; rintro e w6 ⟨rfl, hb6⟩; obtain ⟨hc6, hf6⟩ := bcell hb6
  go_wp2_with fail
  have B6 : Below w.heap.size w w6 := keepB (keepB (keepB (keepB (keepB (keepB (((Below.refl _ _).alloc (Nat.le_refl _) _).alloc (by simp) _) hb1) hb2) hb3) hb4) hb5) hb6
  have a0 : w6.cell? ⟨w.heap.size, 0, none⟩ = some (.int .i64 o) := by simp [*, go_sem]
  have a1 : w6.cell? ⟨w.heap.size, 1, none⟩ = some (.int .i64 n) := by simp [*, go_sem]
  have a2 : w6.cell? ⟨w.heap.size, 2, none⟩ = some (.int .i64 th) := by simp [*, go_sem]
  have a3 : w6.cell? ⟨w.heap.size, 3, none⟩ = some (.int .i64 tg) := by simp [*, go_sem]
  have b0 : w6.cell? ⟨w.heap.size + 1, 0, none⟩ = some (.int .i64 p) := by simp [*, go_sem]
  have b1 : w6.cell? ⟨w.heap.size + 1, 1, none⟩ = some (.int .i64 m) := by simp [*, go_sem]
  have b2 : w6.cell? ⟨w.heap.size + 1, 2, none⟩ = some (.int .i64 uh) := by simp [*, go_sem]
  have b3 : w6.cell? ⟨w.heap.size + 1, 3, none⟩ = some (.int .i64 ug) := by simp [*, go_sem]
  clear hc1 hc2 hc3 hc4 hc5 hc6 hf1 hf2 hf3 hf4 hf5 hf6 hb1 hb2 hb3 hb4 hb5 hb6
  go_region_held3 (fun w' => Below w.heap.size w w' ∧ w'.cell? ⟨w.heap.size, 0, none⟩ = some (.int .i64 o) ∧ w'.cell? ⟨w.heap.size, 1, none⟩ = some (.int .i64 n) ∧ w'.cell? ⟨w.heap.size, 2, none⟩ = some (.int .i64 th) ∧ w'.cell? ⟨w.heap.size, 3, none⟩ = some (.int .i64 tg) ∧ w'.cell? ⟨w.heap.size + 1, 0, none⟩ = some (.int .i64 p) ∧ w'.cell? ⟨w.heap.size + 1, 1, none⟩ = some (.int .i64 m) ∧ w'.cell? ⟨w.heap.size + 1, 2, none⟩ = some (.int .i64 uh) ∧ w'.cell? ⟨w.heap.size + 1, 3, none⟩ = some (.int .i64 ug)) (first | assumption | exact ⟨B6.drew, a0, a1, a2, a3, b0, b1, b2, b3⟩ | exact (And.imp (fun h => keepB h hb) (And.imp (cell_later hb) (And.imp (cell_later hb) (And.imp (cell_later hb) (And.imp (cell_later hb) (And.imp (cell_later hb) (And.imp (cell_later hb) (And.imp (cell_later hb) (cell_later hb))))))))) (by assumption))
    (first
      | (go_at_call 17; refine (plain_any _ _ _ _ _).mono ?_; rintro e w' ⟨rfl, hb⟩; rw [HR.out])
      | (go_at_call 19; refine (state_yes _ _ _ HBR.out.2.2.2.2.2.2.1 HBR.out.2.2.2.2.2.2.2).mono ?_; rintro e w' ⟨rfl, rfl⟩))
  have hS := ‹Below w.heap.size w _ ∧ _›
  go_wp2_with fail
  go_region_held3 (fun w' => Below w.heap.size w w' ∧ w'.cell? ⟨w.heap.size, 0, none⟩ = some (.int .i64 o) ∧ w'.cell? ⟨w.heap.size, 1, none⟩ = some (.int .i64 n) ∧ w'.cell? ⟨w.heap.size, 2, none⟩ = some (.int .i64 th) ∧ w'.cell? ⟨w.heap.size, 3, none⟩ = some (.int .i64 tg) ∧ w'.cell? ⟨w.heap.size + 1, 0, none⟩ = some (.int .i64 p) ∧ w'.cell? ⟨w.heap.size + 1, 1, none⟩ = some (.int .i64 m) ∧ w'.cell? ⟨w.heap.size + 1, 2, none⟩ = some (.int .i64 uh) ∧ w'.cell? ⟨w.heap.size + 1, 3, none⟩ = some (.int .i64 ug)) (first | assumption | exact ⟨hS.1.drew, hS.2⟩ | exact (And.imp (fun h => keepB h hb) (And.imp (cell_later hb) (And.imp (cell_later hb) (And.imp (cell_later hb) (And.imp (cell_later hb) (And.imp (cell_later hb) (And.imp (cell_later hb) (And.imp (cell_later hb) (cell_later hb))))))))) (by assumption))
    (first
      | (go_at_call 17; refine (plain_any _ _ _ _ _).mono ?_; rintro e w' ⟨rfl, hb⟩; rw [HQ.out])
      | (go_at_call 19; refine (state_yes _ _ _ HBQ.out.2.2.2.2.2.2.1 HBQ.out.2.2.2.2.2.2.2).mono ?_; rintro e w' ⟨rfl, rfl⟩))
  clear hS
  have hS := ‹Below w.heap.size w _ ∧ _›
  go_wp2_with fail
  obtain ⟨B9, a0', a1', a2', a3', b0', b1', b2', b3'⟩ := hS
  clear hz1 hz2 hz3 hz4 hz5 hy1 hy2 hy3 hy4 hy5 a0 a1 a2 a3 b0 b1 b2 b3 B6
  refine wp_region_still_tail 42 (by kernel_rfl) (by kernel_rfl) ?_
  change wpStill _ _ (World.drew _) (fun a' => wpList _ _ _ _ a' (World.drew _)) _ _
  simp only [List.take_succ_cons, List.take_zero, List.drop_succ_cons, List.drop_zero]
  iterate 42 still_step
  refine wpStill_nil ?_
  go_wp2_with (go_at_call 14; refine (awake_any _).mono ?_; rintro e w9 ⟨rfl, hb9⟩)
  go_ret
  exact ⟨rfl, keepB B9.drew hb9⟩

end Go.Proofs.Ytfmffgibkmggiaa
