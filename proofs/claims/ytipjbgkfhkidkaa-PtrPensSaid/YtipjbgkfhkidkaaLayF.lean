/- Contracts of the cells' and the nodes' numbers. Printed by wip/tools/layf.py. -/
import Derived.Test.YtipjbgkfhkidkaaLayE
namespace Go.Proofs.Ytipjbgkfhkidkaa
open Go.RowKit

theorem cell_p0 (V S T : Int) (h : Rt V S T) (x : Int) (w : World) :
    Calls Try.prog 47 #[vL V S T, .int .i64 0, .int .i64 x] w fun e w' => e = .returned (.int .i64 (cl T 0 x)) ∧ Below w.heap.size w w' := by
  have := cell_any V S T h 0 (by omega) x w
  rw [show preF V S T 0 = 0 from rfl] at this; simpa [szF] using this

theorem cell_p1 (V S T : Int) (h : Rt V S T) (x : Int) (w : World) :
    Calls Try.prog 47 #[vL V S T, .int .i64 1, .int .i64 x] w fun e w' => e = .returned (.int .i64 (cl 1 T x)) ∧ Below w.heap.size w w' := by
  have := cell_any V S T h 1 (by omega) x w
  rw [preF_1] at this; simpa [szF] using this

theorem cell_p2 (V S T : Int) (h : Rt V S T) (x : Int) (w : World) :
    Calls Try.prog 47 #[vL V S T, .int .i64 2, .int .i64 x] w fun e w' => e = .returned (.int .i64 (cl (S * 7) (T + 1) x)) ∧ Below w.heap.size w w' := by
  have := cell_any V S T h 2 (by omega) x w
  rw [preF_2] at this; simpa [szF] using this

theorem cell_p3 (V S T : Int) (h : Rt V S T) (x : Int) (w : World) :
    Calls Try.prog 47 #[vL V S T, .int .i64 3, .int .i64 x] w fun e w' => e = .returned (.int .i64 (cl (vn V) (o3 S T) x)) ∧ Below w.heap.size w w' := by
  have := cell_any V S T h 3 (by omega) x w
  rw [preF_3] at this; simpa [szF] using this

theorem cell_p4 (V S T : Int) (h : Rt V S T) (x : Int) (w : World) :
    Calls Try.prog 47 #[vL V S T, .int .i64 4, .int .i64 x] w fun e w' => e = .returned (.int .i64 (cl (pr V) (o4 V S T) x)) ∧ Below w.heap.size w w' := by
  have := cell_any V S T h 4 (by omega) x w
  rw [preF_4] at this; simpa [szF] using this

theorem cell_p5 (V S T : Int) (h : Rt V S T) (x : Int) (w : World) :
    Calls Try.prog 47 #[vL V S T, .int .i64 5, .int .i64 x] w fun e w' => e = .returned (.int .i64 (cl (nd V S * 7) (o5 V S T) x)) ∧ Below w.heap.size w w' := by
  have := cell_any V S T h 5 (by omega) x w
  rw [preF_5] at this; simpa [szF] using this

theorem state_wrap {T a : Int} (h1 : 1 ≤ T) (h2 : T ≤ 8) (b1 : -9223372036854775808 ≤ a) (b2 : a ≤ 9223372036854775807) : cl T 0 (wrap64 (a - 1)) = stateF T a := by
  rw [← state_cl]
  by_cases hm : a = -9223372036854775808
  · subst hm
    rw [cl_no (x := -9223372036854775808 - 1) (by omega), cl_no (Or.inr _)]
    unfold wrap64; omega
  · have : wrap64 (a - 1) = a - 1 := by unfold wrap64; omega
    rw [this]
theorem state_yes (V S T : Int) (a : Int) (b1 : -9223372036854775808 ≤ a) (b2 : a ≤ 9223372036854775807) (h : Rt V S T) (w : World) :
    Calls Try.prog 23 #[vL V S T, .int .i64 a] w fun e w' => e = .returned (.int .i64 (stateF T a)) ∧ Below w.heap.size w w' := by
  have hw := Lib.hid (state_wrap h.t1 h.t2 b1 b2)
  clear b1 b2
  go_enter Try.func23, Try.ntmps23
  go_wp2_with (refine (cell_p0 V S T h _ _).mono ?_; rintro e w1 ⟨rfl, hb1⟩)
  go_ret
  exact ⟨retL_int hw.out, keepL ((Below.refl _ _).alloc (Nat.le_refl _) _) hb1⟩

theorem field_low (V S T : Int) (b : Int) (h : Rt V S T) (w : World) :
    Calls Try.prog 38 #[vL V S T, .int .i64 (-9223372036854775808), .int .i64 b] w fun e w' => e = .returned (.int .i64 (-1)) ∧ Below w.heap.size w w' := by
  have wr : IntKind.i64.wrap (-9223372036854775809) = 9223372036854775807 := by decide
  have nn : (nd V S) ≤ 9223372036854775807 := by have := (sizes h).nd2; omega
  have z_l1 := (sizes h).l1
  have z_l2 := (sizes h).l2
  have z_vn1 := (sizes h).vn1
  have z_vn2 := (sizes h).vn2
  have z_sn1 := (sizes h).sn1
  have z_sn2 := (sizes h).sn2
  have z_nd1 := (sizes h).nd1
  have z_nd2 := (sizes h).nd2
  have z_s1 := h.s1
  have z_s2 := h.s2
  have z_v1 := h.v1
  have z_v2 := h.v2
  have H := Lib.hid h
  clear h
  go_enter Try.func38, Try.ntmps38
  go_wp2_with fail
  go_region_held3 (fun w' => w'.cell? ⟨w.heap.size, 0, none⟩ = some (.int .i64 V) ∧ w'.cell? ⟨w.heap.size, 1, none⟩ = some (.int .i64 S) ∧ w'.cell? ⟨w.heap.size, 2, none⟩ = some (.int .i64 T) ∧ w.heap.size < w'.heap.size ∧ Below w.heap.size w w') (first | assumption | exact held_start w V S T | exact held_drew (by assumption) | exact held_later hb (by assumption))
    (first
      | (go_at_call 50; refine (nodes_yes V S T H.out _).mono ?_; rintro e w' ⟨rfl, hb⟩)
      | (go_at_call 49; refine (place_any _ _ _ _ (by omega) (by omega) _).mono ?_; rintro e w' ⟨rfl, rfl⟩; rw [pl_no (by omega)])
      | (go_at_call 47; refine (cell_p5 V S T H.out _ _).mono ?_; rintro e w' ⟨rfl, hb⟩; rw [cl_no (by omega)]))
  go_wp2_with fail
  go_ret
  exact ⟨rfl, And.right (And.right (And.right (And.right (by assumption))))⟩

theorem field_in (V S T : Int) (a b : Int) (h : Rt V S T) (b1 : -9223372036854775807 ≤ a) (b2 : a ≤ 9223372036854775807) (w : World) :
    Calls Try.prog 38 #[vL V S T, .int .i64 a, .int .i64 b] w fun e w' => e = .returned (.int .i64 (fieldF V S T a b)) ∧ Below w.heap.size w w' := by
  have wr : IntKind.i64.wrap (a - 1) = a - 1 := IntWalk.i64_in _ (by omega)
  rw [← field_cl]
  have z_l1 := (sizes h).l1
  have z_l2 := (sizes h).l2
  have z_vn1 := (sizes h).vn1
  have z_vn2 := (sizes h).vn2
  have z_sn1 := (sizes h).sn1
  have z_sn2 := (sizes h).sn2
  have z_nd1 := (sizes h).nd1
  have z_nd2 := (sizes h).nd2
  have z_s1 := h.s1
  have z_s2 := h.s2
  have z_v1 := h.v1
  have z_v2 := h.v2
  have H := Lib.hid h
  clear h
  go_enter Try.func38, Try.ntmps38
  go_wp2_with fail
  go_region_held3 (fun w' => w'.cell? ⟨w.heap.size, 0, none⟩ = some (.int .i64 V) ∧ w'.cell? ⟨w.heap.size, 1, none⟩ = some (.int .i64 S) ∧ w'.cell? ⟨w.heap.size, 2, none⟩ = some (.int .i64 T) ∧ w.heap.size < w'.heap.size ∧ Below w.heap.size w w') (first | assumption | exact held_start w V S T | exact held_drew (by assumption) | exact held_later hb (by assumption))
    (first
      | (go_at_call 50; refine (nodes_yes V S T H.out _).mono ?_; rintro e w' ⟨rfl, hb⟩)
      | (go_at_call 49; refine (place_any _ _ _ _ (by omega) (by omega) _).mono ?_; rintro e w' ⟨rfl, rfl⟩)
      | (go_at_call 47; refine (cell_p5 V S T H.out _ _).mono ?_; rintro e w' ⟨rfl, hb⟩))
  go_wp2_with fail
  go_ret
  exact ⟨rfl, And.right (And.right (And.right (And.right (by assumption))))⟩

theorem field_yes (V S T : Int) (a b : Int) (h : Rt V S T) (b1 : -9223372036854775808 ≤ a) (b2 : a ≤ 9223372036854775807) (w : World) :
    Calls Try.prog 38 #[vL V S T, .int .i64 a, .int .i64 b] w fun e w' => e = .returned (.int .i64 (fieldF V S T a b)) ∧ Below w.heap.size w w' := by
  by_cases hm : a = -9223372036854775808
  · subst hm
    rw [show fieldF V S T (-9223372036854775808) b = -1 from if_neg (by omega)]
    exact field_low V S T b h w
  · exact field_in V S T a b h (by omega) b2 w

end Go.Proofs.Ytipjbgkfhkidkaa
