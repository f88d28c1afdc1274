/- Contracts of the counts and of the cells of a right lay. Printed by wip/tools/layc.py. -/
import Derived.Test.YtipjbgkfhkidkaaLayB
namespace Go.Proofs.Ytipjbgkfhkidkaa
open Go.RowKit

theorem held_start (w : World) (V S T : Int) : (fun w' : World => w'.cell? ⟨w.heap.size, 0, none⟩ = some (.int .i64 V) ∧ w'.cell? ⟨w.heap.size, 1, none⟩ = some (.int .i64 S) ∧ w'.cell? ⟨w.heap.size, 2, none⟩ = some (.int .i64 T) ∧ w.heap.size < w'.heap.size ∧ Below w.heap.size w w') (w.alloc (.cells #[.int .i64 V, .int .i64 S, .int .i64 T] 31)).drew :=
  ⟨by simp [go_sem], by simp [go_sem], by simp [go_sem], by simp, ((Below.refl _ _).alloc (Nat.le_refl _) _).drew⟩
theorem held_drew {w W : World} {V S T : Int} (h : W.cell? ⟨w.heap.size, 0, none⟩ = some (.int .i64 V) ∧ W.cell? ⟨w.heap.size, 1, none⟩ = some (.int .i64 S) ∧ W.cell? ⟨w.heap.size, 2, none⟩ = some (.int .i64 T) ∧ w.heap.size < W.heap.size ∧ Below w.heap.size w W) : W.drew.cell? ⟨w.heap.size, 0, none⟩ = some (.int .i64 V) ∧ W.drew.cell? ⟨w.heap.size, 1, none⟩ = some (.int .i64 S) ∧ W.drew.cell? ⟨w.heap.size, 2, none⟩ = some (.int .i64 T) ∧ w.heap.size < W.drew.heap.size ∧ Below w.heap.size w W.drew :=
  ⟨h.1, h.2.1, h.2.2.1, h.2.2.2.1, h.2.2.2.2.drew⟩
theorem held_later {w W w1 : World} {V S T : Int} (hb : Below W.heap.size W w1) (h : W.cell? ⟨w.heap.size, 0, none⟩ = some (.int .i64 V) ∧ W.cell? ⟨w.heap.size, 1, none⟩ = some (.int .i64 S) ∧ W.cell? ⟨w.heap.size, 2, none⟩ = some (.int .i64 T) ∧ w.heap.size < W.heap.size ∧ Below w.heap.size w W) : w1.cell? ⟨w.heap.size, 0, none⟩ = some (.int .i64 V) ∧ w1.cell? ⟨w.heap.size, 1, none⟩ = some (.int .i64 S) ∧ w1.cell? ⟨w.heap.size, 2, none⟩ = some (.int .i64 T) ∧ w.heap.size < w1.heap.size ∧ Below w.heap.size w w1 := by
  obtain ⟨a, b, c, d, e⟩ := h
  refine ⟨?_, ?_, ?_, Nat.lt_of_lt_of_le d hb.size, keepL e hb⟩
  · exact (hb.cell (p := ⟨w.heap.size, 0, none⟩) d).trans a
  · exact (hb.cell (p := ⟨w.heap.size, 1, none⟩) d).trans b
  · exact (hb.cell (p := ⟨w.heap.size, 2, none⟩) d).trans c

theorem levels_yes (V S T : Int) (h : Rt V S T) (w : World) :
    Calls Try.prog 63 #[vL V S T] w fun e w' => e = .returned (.int .i64 (lv V)) ∧ Below w.heap.size w w' := by
  have h1 := h.v1
  have h2 := h.v2
  have HR := Lib.hid h.yes
  obtain ⟨n, rfl⟩ := Int.eq_ofNat_of_zero_le (show 0 ≤ V by omega)
  have n1 : 1 ≤ n := by omega
  have n2 : n ≤ 16 := by omega
  clear h
  go_enter Try.func63, Try.ntmps63
  go_wp2_with fail
  refine (right_any _ _ _ _).mono ?_; rintro e w1 ⟨rfl, hb1⟩; rw [HR.out]; obtain ⟨hc1, hf1⟩ := bcellL hb1
  go_wp2_with fail
  refine (len_small n n1 n2 _).mono ?_; rintro e w2 ⟨rfl, rfl⟩
  go_wp2_with fail
  go_ret
  exact ⟨rfl, keepL ((Below.refl _ _).alloc (Nat.le_refl _) _) hb1⟩

theorem vertexNodes_yes (V S T : Int) (h : Rt V S T) (w : World) :
    Calls Try.prog 58 #[vL V S T] w fun e w' => e = .returned (.int .i64 (vn V)) ∧ Below w.heap.size w w' := by
  have hz := sizes h
  have b1 : 1 ≤ lv V * V := hz.vn1
  have b2 : lv V * V ≤ 80 := hz.vn2
  have wr : IntKind.i64.wrap (lv V * V) = lv V * V := IntWalk.i64_in _ (by omega)
  have H := Lib.hid h
  clear hz h
  go_enter Try.func58, Try.ntmps58
  go_wp2_with fail
  go_region_held3 (fun w' => w'.cell? ⟨w.heap.size, 0, none⟩ = some (.int .i64 V) ∧ w'.cell? ⟨w.heap.size, 1, none⟩ = some (.int .i64 S) ∧ w'.cell? ⟨w.heap.size, 2, none⟩ = some (.int .i64 T) ∧ w.heap.size < w'.heap.size ∧ Below w.heap.size w w') (first | assumption | exact held_start w V S T | exact held_drew (by assumption) | exact held_later hb (by assumption))
    (first
      | (go_at_call 63; refine (levels_yes V S T H.out _).mono ?_; rintro e w' ⟨rfl, hb⟩))
  go_wp2_with fail
  go_ret
  exact ⟨rfl, And.right (And.right (And.right (And.right (by assumption))))⟩

theorem slotNodes_yes (V S T : Int) (h : Rt V S T) (w : World) :
    Calls Try.prog 59 #[vL V S T] w fun e w' => e = .returned (.int .i64 (sn V)) ∧ Below w.heap.size w w' := by
  have hz := lv_bd V
  have b1 : 1 ≤ lv V := hz.1
  have b2 : lv V ≤ 5 := hz.2
  clear hz
  go_enter Try.func59, Try.ntmps59
  go_wp2_with (refine (levels_yes V S T h _).mono ?_; rintro e w1 ⟨rfl, hb1⟩)
  go_ret
  exact ⟨rfl, keepL ((Below.refl _ _).alloc (Nat.le_refl _) _) hb1⟩

theorem nodes_yes (V S T : Int) (h : Rt V S T) (w : World) :
    Calls Try.prog 50 #[vL V S T] w fun e w' => e = .returned (.int .i64 (nd V S)) ∧ Below w.heap.size w w' := by
  have hz := sizes h
  have b1 := hz.vn1
  have b2 := hz.vn2
  have b3 := hz.ss1
  have b4 := hz.ss2
  have b5 := hz.sn1
  have b6 := hz.sn2
  have wr : IntKind.i64.wrap (S * sn V) = S * sn V := IntWalk.i64_in _ (by omega)
  have wr2 : IntKind.i64.wrap (vn V + S * sn V) = vn V + S * sn V := IntWalk.i64_in _ (by omega)
  have H := Lib.hid h
  clear hz h
  go_enter Try.func50, Try.ntmps50
  go_wp2_with fail
  go_region_held3 (fun w' => w'.cell? ⟨w.heap.size, 0, none⟩ = some (.int .i64 V) ∧ w'.cell? ⟨w.heap.size, 1, none⟩ = some (.int .i64 S) ∧ w'.cell? ⟨w.heap.size, 2, none⟩ = some (.int .i64 T) ∧ w.heap.size < w'.heap.size ∧ Below w.heap.size w w') (first | assumption | exact held_start w V S T | exact held_drew (by assumption) | exact held_later hb (by assumption))
    (first
      | (go_at_call 58; refine (vertexNodes_yes V S T H.out _).mono ?_; rintro e w' ⟨rfl, hb⟩)
      | (go_at_call 59; refine (slotNodes_yes V S T H.out _).mono ?_; rintro e w' ⟨rfl, hb⟩))
  go_wp2_with fail
  go_ret
  exact ⟨rfl, And.right (And.right (And.right (And.right (by assumption))))⟩

end Go.Proofs.Ytipjbgkfhkidkaa
