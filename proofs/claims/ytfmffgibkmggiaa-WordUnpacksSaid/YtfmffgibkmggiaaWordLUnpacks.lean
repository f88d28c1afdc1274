/- Walk of WordUnpacks. -/
import Derived.Test.YtfmffgibkmggiaaWordG
import Derived.Deep.RegionHeld3
import Derived.WalkSpells
namespace Go.Proofs.Ytfmffgibkmggiaa
open Go.RowKit

set_option maxHeartbeats 4000000 in
theorem wordUnpacks_yes (o n th tg : Int) (w : World) (hR : rightW o n th tg = true) :
    Calls Try.prog 4 #[.int .u64 (bitsW o n th tg)] w fun e w' => e = .returned (.bool true) ∧ Below w.heap.size w w' := by
  have HR := Lib.hid hR; clear hR
  go_enter Try.func4, Try.ntmps4
  go_wp2_with fail
  refine (unpack_w _ _ _ _ _ HR.out).mono ?_; rintro e w1 ⟨rfl, hb1⟩
  have hz1 := hb1.size
  go_wp2_with fail
  refine (rparts_w _ _ _ _ _ HR.out).mono ?_; rintro e w2 ⟨rfl, hb2⟩; obtain ⟨hc2, hf2⟩ := bcell hb2
  have hz2 : w1.heap.size < w2.heap.size := by have := hb2.size; simp at this; omega
  go_wp2_with fail
  refine (rright_any _ _ _ _ _).mono ?_; rintro e w3 ⟨rfl, hb3⟩; rw [HR.out]; obtain ⟨hc3, hf3⟩ := bcell hb3
  have hz3 : w2.heap.size < w3.heap.size := by have := hb3.size; simp at this; omega
  have hz3b : w1.heap.size < w3.heap.size := by omega
  go_wp2_with fail
  refine (pack_w _ _ _ _ _ HR.out).mono ?_; rintro e w4 ⟨rfl, hb4⟩; obtain ⟨hc4, hf4⟩ := bcell hb4
  go_wp2_with fail
  have B4 : Below w.heap.size w w4 := keepB (keepB ((keepB (hb1.alloc hz1 _) hb2).alloc (by omega) _) hb3) hb4
  have a0 : w4.cell? ⟨w1.heap.size, 0, none⟩ = some (.int .i64 o) := by simp [*, go_sem]
  have a1 : w4.cell? ⟨w1.heap.size, 1, none⟩ = some (.int .i64 n) := by simp [*, go_sem]
  have a2 : w4.cell? ⟨w1.heap.size, 2, none⟩ = some (.int .i64 th) := by simp [*, go_sem]
  have a3 : w4.cell? ⟨w1.heap.size, 3, none⟩ = some (.int .i64 tg) := by simp [*, go_sem]
  have b0 : w4.cell? ⟨w2.heap.size, 0, none⟩ = some (.int .i64 o) := by simp [*, go_sem]
  have b1 : w4.cell? ⟨w2.heap.size, 1, none⟩ = some (.int .i64 n) := by simp [*, go_sem]
  have b2 : w4.cell? ⟨w2.heap.size, 2, none⟩ = some (.int .i64 th) := by simp [*, go_sem]
  have b3 : w4.cell? ⟨w2.heap.size, 3, none⟩ = some (.int .i64 tg) := by simp [*, go_sem]
  clear hc2 hc3 hc4 hf2 hf3 hf4 hb1 hb2 hb3 hb4
  go_region_held3 (fun w' => Below w.heap.size w w' ∧ w'.cell? ⟨w1.heap.size, 0, none⟩ = some (.int .i64 o) ∧ w'.cell? ⟨w1.heap.size, 1, none⟩ = some (.int .i64 n) ∧ w'.cell? ⟨w1.heap.size, 2, none⟩ = some (.int .i64 th) ∧ w'.cell? ⟨w1.heap.size, 3, none⟩ = some (.int .i64 tg) ∧ w'.cell? ⟨w2.heap.size, 0, none⟩ = some (.int .i64 o) ∧ w'.cell? ⟨w2.heap.size, 1, none⟩ = some (.int .i64 n) ∧ w'.cell? ⟨w2.heap.size, 2, none⟩ = some (.int .i64 th) ∧ w'.cell? ⟨w2.heap.size, 3, none⟩ = some (.int .i64 tg)) (first | exact ⟨B4.drew, a0, a1, a2, a3, b0, b1, b2, b3⟩ | exact (And.imp (fun h => keepB h hb) (And.imp (cell_later hb) (And.imp (cell_later hb) (And.imp (cell_later hb) (And.imp (cell_later hb) (And.imp (cell_later hb) (And.imp (cell_later hb) (And.imp (cell_later hb) (cell_later hb))))))))) (by assumption))
    (first
      | (go_at_call 12; refine (ref_any _ _ _ _ _).mono ?_; rintro e w' ⟨rfl, hb⟩)
      | (go_at_call 14; refine (awake_any _).mono ?_; rintro e w' ⟨rfl, hb⟩))
  all_goals
    go_wp2
    go_ret
    exact ⟨rfl, And.left (by assumption)⟩

set_option maxHeartbeats 4000000 in
theorem wordUnpacks_no (v : Int) (w : World) (h1 : 0 ≤ v) (h2 : v ≤ 18446744073709551615) (hR : rightV v = false) :
    Calls Try.prog 4 #[.int .u64 v] w fun e w' => e = .returned (.bool true) ∧ Below w.heap.size w w' := by
  have hR2 := hR
  unfold rightV at hR2
  have HR := Lib.hid hR; have HR2 := Lib.hid hR2; clear hR hR2
  go_enter Try.func4, Try.ntmps4
  go_wp2_with fail
  refine (unpack_no _ _ h1 h2 HR.out).mono ?_; rintro e w1 ⟨rfl, hb1⟩
  have hz1 := hb1.size
  go_wp2_with fail
  refine (rparts_any _ _ h1 h2).mono ?_; rintro e w2 ⟨rfl, hb2⟩; obtain ⟨hc2, hf2⟩ := bcell hb2
  have hz2 : w1.heap.size < w2.heap.size := by have := hb2.size; simp at this; omega
  go_wp2_with fail
  refine (rright_any _ _ _ _ _).mono ?_; rintro e w3 ⟨rfl, hb3⟩; rw [HR2.out]; obtain ⟨hc3, hf3⟩ := bcell hb3
  have hz3b : w1.heap.size < w3.heap.size := by have := hb3.size; simp at this; omega
  go_wp2_with fail
  refine (awake_any _).mono ?_; rintro e w4 ⟨rfl, hb4⟩
  go_wp2_with fail
  go_ret
  exact ⟨rfl, keepB (keepB ((keepB (hb1.alloc hz1 _) hb2).alloc (by omega) _) hb3) hb4⟩

theorem wordUnpacks_walk (v : Int) (h1 : 0 ≤ v) (h2 : v ≤ 18446744073709551615) (w : World) :
    Calls Try.prog 4 #[.int .u64 v] w fun e w' => e = .returned (.bool true) ∧ Below w.heap.size w w' := by
  cases h : rightV v
  · exact wordUnpacks_no v w h1 h2 h
  · have k := wordUnpacks_yes (v / 65536 % 65536) (v % 65536) (v / 4294967296 % 256) (v / 1099511627776) w h
    rw [bitsW_of v] at k
    exact k
end Go.Proofs.Ytfmffgibkmggiaa
