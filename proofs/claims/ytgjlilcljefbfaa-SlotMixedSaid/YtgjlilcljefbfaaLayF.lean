/- Contracts of the cells' and the nodes' numbers. Printed by wip/tools/layf.py. -/
import Derived.Test.YtgjlilcljefbfaaLayE
namespace Go.Proofs.Ytgjlilcljefbfaa
open Go.RowKit

theorem cell_p0 (V S T : Int) (h : Rt V S T) (x : Int) (w : World) :
    Calls Try.prog 38 #[vL V S T, .int .i64 0, .int .i64 x] w fun e w' => e = .returned (.int .i64 (cl T 0 x)) ∧ Below w.heap.size w w' := by
  have := cell_any V S T h 0 (by omega) x w
  rw [show preF V S T 0 = 0 from rfl] at this; simpa [szF] using this

theorem cell_p1 (V S T : Int) (h : Rt V S T) (x : Int) (w : World) :
    Calls Try.prog 38 #[vL V S T, .int .i64 1, .int .i64 x] w fun e w' => e = .returned (.int .i64 (cl 1 T x)) ∧ Below w.heap.size w w' := by
  have := cell_any V S T h 1 (by omega) x w
  rw [preF_1] at this; simpa [szF] using this

theorem cell_p2 (V S T : Int) (h : Rt V S T) (x : Int) (w : World) :
    Calls Try.prog 38 #[vL V S T, .int .i64 2, .int .i64 x] w fun e w' => e = .returned (.int .i64 (cl (S * 7) (T + 1) x)) ∧ Below w.heap.size w w' := by
  have := cell_any V S T h 2 (by omega) x w
  rw [preF_2] at this; simpa [szF] using this

theorem cell_p3 (V S T : Int) (h : Rt V S T) (x : Int) (w : World) :
    Calls Try.prog 38 #[vL V S T, .int .i64 3, .int .i64 x] w fun e w' => e = .returned (.int .i64 (cl (vn V) (o3 S T) x)) ∧ Below w.heap.size w w' := by
  have := cell_any V S T h 3 (by omega) x w
  rw [preF_3] at this; simpa [szF] using this

theorem cell_p4 (V S T : Int) (h : Rt V S T) (x : Int) (w : World) :
    Calls Try.prog 38 #[vL V S T, .int .i64 4, .int .i64 x] w fun e w' => e = .returned (.int .i64 (cl (pr V) (o4 V S T) x)) ∧ Below w.heap.size w w' := by
  have := cell_any V S T h 4 (by omega) x w
  rw [preF_4] at this; simpa [szF] using this

theorem cell_p5 (V S T : Int) (h : Rt V S T) (x : Int) (w : World) :
    Calls Try.prog 38 #[vL V S T, .int .i64 5, .int .i64 x] w fun e w' => e = .returned (.int .i64 (cl (nd V S * 7) (o5 V S T) x)) ∧ Below w.heap.size w w' := by
  have := cell_any V S T h 5 (by omega) x w
  rw [preF_5] at this; simpa [szF] using this

theorem slotCell_yes (V S T : Int) (a k : Int) (h : Rt V S T) (w : World) :
    Calls Try.prog 39 #[vL V S T, .int .i64 a, .int .i64 k] w fun e w' => e = .returned (.int .i64 (slotF S T a k)) ∧ Below w.heap.size w w' := by
  rw [← slot_cl]
  have z_l1 := (sizes h).l1
  have z_l2 := (sizes h).l2
  have z_vn1 := (sizes h).vn1
  have z_vn2 := (sizes h).vn2
  have z_sn1 := (sizes h).sn1
  have z_sn2 := (sizes h).sn2
  have z_nd1 := (sizes h).nd1
  have z_nd2 := (sizes h).nd2
  have z_s1 := h.s1
  have z_s2 := h.s2
  have z_v1 := h.v1
  have z_v2 := h.v2
  have H := Lib.hid h
  clear h
  go_enter Try.func39, Try.ntmps39
  go_wp2_with fail
  go_region_held3 (fun w' => w'.cell? ⟨w.heap.size, 0, none⟩ = some (.int .i64 V) ∧ w'.cell? ⟨w.heap.size, 1, none⟩ = some (.int .i64 S) ∧ w'.cell? ⟨w.heap.size, 2, none⟩ = some (.int .i64 T) ∧ w.heap.size < w'.heap.size ∧ Below w.heap.size w w') (first | assumption | exact held_start w V S T | exact held_drew (by assumption) | exact held_later hb (by assumption))
    (first
      | (go_at_call 44; refine (place_any _ _ _ _ (by omega) (by omega) _).mono ?_; rintro e w' ⟨rfl, rfl⟩)
      | (go_at_call 38; refine (cell_p2 V S T H.out _ _).mono ?_; rintro e w' ⟨rfl, hb⟩))
  go_wp2_with fail
  go_ret
  exact ⟨rfl, And.right (And.right (And.right (And.right (by assumption))))⟩

theorem free_yes (V S T : Int) (h : Rt V S T) (w : World) :
    Calls Try.prog 29 #[vL V S T] w fun e w' => e = .returned (.int .i64 T) ∧ Below w.heap.size w w' := by
  go_enter Try.func29, Try.ntmps29
  go_wp2_with (refine (cell_p1 V S T h 0 _).mono ?_; rintro e w1 ⟨rfl, hb1⟩; rw [cl_yes (by omega) (by omega), Int.zero_add])
  go_ret
  exact ⟨rfl, keepL ((Below.refl _ _).alloc (Nat.le_refl _) _) hb1⟩

theorem nextFree_yes (V S T : Int) (a : Int) (h : Rt V S T) (w : World) :
    Calls Try.prog 30 #[vL V S T, .int .i64 a] w fun e w' => e = .returned (.int .i64 (slotF S T a 0)) ∧ Below w.heap.size w w' := by
  go_enter Try.func30, Try.ntmps30
  go_wp2_with (refine (slotCell_yes V S T a 0 h _).mono ?_; rintro e w1 ⟨rfl, hb1⟩)
  go_ret
  exact ⟨rfl, keepL ((Below.refl _ _).alloc (Nat.le_refl _) _) hb1⟩

theorem state_wrap {T a : Int} (h1 : 1 ≤ T) (h2 : T ≤ 8) (b1 : -9223372036854775808 ≤ a) (b2 : a ≤ 9223372036854775807) : cl T 0 (wrap64 (a - 1)) = stateF T a := by
  rw [← state_cl]
  by_cases hm : a = -9223372036854775808
  · subst hm
    rw [cl_no (x := -9223372036854775808 - 1) (by omega), cl_no (Or.inr _)]
    unfold wrap64; omega
  · have : wrap64 (a - 1) = a - 1 := by unfold wrap64; omega
    rw [this]
end Go.Proofs.Ytgjlilcljefbfaa
