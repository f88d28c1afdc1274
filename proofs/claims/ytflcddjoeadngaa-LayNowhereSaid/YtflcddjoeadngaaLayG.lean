/- Contracts of Arc, Edge, and the reference's Levels. Printed by wip/tools/layg.py. -/
import Derived.Test.YtflcddjoeadngaaLayF
namespace Go.Proofs.Ytflcddjoeadngaa
open Go.RowKit

theorem arc_no (V S T : Int) (a l s : Int) (h : Rt V S T) (hq : (pl a S (pl l (lv V) s 2) (sn V) == -1) = true) (w : World) :
    Calls Try.prog 18 #[vL V S T, .int .i64 a, .int .i64 l, .int .i64 s] w fun e w' => e = .returned (.int .i64 (0)) ∧ Below w.heap.size w w' := by
  have pb := pl_bd (r := a) (R := S) (c := pl l (lv V) s 2) (C := sn V) (by have := h.s2; omega) (by have := (sizes h).sn2; omega) (by have := (sizes h).sn1; omega)
  have pb1 : -1 ≤ pl a S (pl l (lv V) s 2) (sn V) := pb.1
  have pb2 : pl a S (pl l (lv V) s 2) (sn V) ≤ 360000 := pb.2
  clear pb
  have z_l1 := (sizes h).l1
  have z_l2 := (sizes h).l2
  have z_vn1 := (sizes h).vn1
  have z_vn2 := (sizes h).vn2
  have z_sn1 := (sizes h).sn1
  have z_sn2 := (sizes h).sn2
  have z_nd1 := (sizes h).nd1
  have z_nd2 := (sizes h).nd2
  have z_s1 := h.s1
  have z_s2 := h.s2
  have z_v1 := h.v1
  have z_v2 := h.v2
  have H := Lib.hid h
  clear h
  go_enter Try.func18, Try.ntmps18
  go_wp2_with fail
  go_region_held3 (fun w' => w'.cell? ⟨w.heap.size, 0, none⟩ = some (.int .i64 V) ∧ w'.cell? ⟨w.heap.size, 1, none⟩ = some (.int .i64 S) ∧ w'.cell? ⟨w.heap.size, 2, none⟩ = some (.int .i64 T) ∧ w.heap.size < w'.heap.size ∧ Below w.heap.size w w') (first | assumption | exact held_start w V S T | exact held_drew (by assumption) | exact held_later hb (by assumption))
    (first
      | (go_at_call 13; refine (levels_yes V S T H.out _).mono ?_; rintro e w' ⟨rfl, hb⟩)
      | (go_at_call 39; refine (place_any _ _ _ _ (by omega) (by omega) _).mono ?_; rintro e w' ⟨rfl, rfl⟩)
      | (go_at_call 38; refine (slotNodes_yes V S T H.out _).mono ?_; rintro e w' ⟨rfl, hb⟩))
  go_wp2_with fail
  go_ret
  exact ⟨rfl, And.right (And.right (And.right (And.right (by assumption))))⟩

theorem arc_some (V S T : Int) (a l s : Int) (h : Rt V S T) (hq : (pl a S (pl l (lv V) s 2) (sn V) == -1) = false) (w : World) :
    Calls Try.prog 18 #[vL V S T, .int .i64 a, .int .i64 l, .int .i64 s] w fun e w' => e = .returned (.int .i64 (vn V + pl a S (pl l (lv V) s 2) (sn V) + 1)) ∧ Below w.heap.size w w' := by
  have pb := pl_bd (r := a) (R := S) (c := pl l (lv V) s 2) (C := sn V) (by have := h.s2; omega) (by have := (sizes h).sn2; omega) (by have := (sizes h).sn1; omega)
  have pb1 : -1 ≤ pl a S (pl l (lv V) s 2) (sn V) := pb.1
  have pb2 : pl a S (pl l (lv V) s 2) (sn V) ≤ 360000 := pb.2
  clear pb
  have z_l1 := (sizes h).l1
  have z_l2 := (sizes h).l2
  have z_vn1 := (sizes h).vn1
  have z_vn2 := (sizes h).vn2
  have z_sn1 := (sizes h).sn1
  have z_sn2 := (sizes h).sn2
  have z_nd1 := (sizes h).nd1
  have z_nd2 := (sizes h).nd2
  have z_s1 := h.s1
  have z_s2 := h.s2
  have z_v1 := h.v1
  have z_v2 := h.v2
  have H := Lib.hid h
  clear h
  go_enter Try.func18, Try.ntmps18
  go_wp2_with fail
  go_region_held3 (fun w' => w'.cell? ⟨w.heap.size, 0, none⟩ = some (.int .i64 V) ∧ w'.cell? ⟨w.heap.size, 1, none⟩ = some (.int .i64 S) ∧ w'.cell? ⟨w.heap.size, 2, none⟩ = some (.int .i64 T) ∧ w.heap.size < w'.heap.size ∧ Below w.heap.size w w') (first | assumption | exact held_start w V S T | exact held_drew (by assumption) | exact held_later hb (by assumption))
    (first
      | (go_at_call 13; refine (levels_yes V S T H.out _).mono ?_; rintro e w' ⟨rfl, hb⟩)
      | (go_at_call 39; refine (place_any _ _ _ _ (by omega) (by omega) _).mono ?_; rintro e w' ⟨rfl, rfl⟩)
      | (go_at_call 38; refine (slotNodes_yes V S T H.out _).mono ?_; rintro e w' ⟨rfl, hb⟩))
  have hS := ‹_ ∧ _›
  have hlt := And.left (And.right (And.right (And.right hS)))
  have hBB := Lib.hid (And.right (And.right (And.right (And.right hS))))
  go_wp2_with (refine (vertexNodes_yes V S T H.out _).mono ?_; rintro e w1 ⟨rfl, hb1⟩)
  go_wp2_with fail
  go_ret
  exact ⟨rfl, keepL (hBB.out) hb1 (by omega)⟩

theorem arc_yes (V S T : Int) (a l s : Int) (h : Rt V S T) (w : World) :
    Calls Try.prog 18 #[vL V S T, .int .i64 a, .int .i64 l, .int .i64 s] w fun e w' => e = .returned (.int .i64 (arcF V S a l s)) ∧ Below w.heap.size w w' := by
  by_cases hq : pl a S (pl l (lv V) s 2) (sn V) = -1
  · rw [show arcF V S a l s = 0 from if_pos hq]; exact arc_no V S T a l s h (beq_iff_eq.2 hq) w
  · rw [show arcF V S a l s = vn V + pl a S (pl l (lv V) s 2) (sn V) + 1 from if_neg hq]; exact arc_some V S T a l s h (beq_eq_false_iff_ne.2 hq) w


theorem edge_no (V S T : Int) (a b : Int) (hn : ¬ (0 ≤ min a b ∧ a ≠ b ∧ max a b < V)) (w : World) :
    Calls Try.prog 29 #[vL V S T, .int .i64 a, .int .i64 b] w fun e w' => e = .returned (.int .i64 (-1)) ∧ Below w.heap.size w w' := by
  have hc : (b < a ∧ b < 0) ∨ (b < a ∧ 0 ≤ b ∧ V ≤ a) ∨ (a < b ∧ a < 0) ∨ (a = b ∧ a < 0) ∨ (a = b ∧ 0 ≤ a) ∨ (a < b ∧ 0 ≤ a ∧ V ≤ b) := by omega
  clear hn
  rcases hc with ⟨h1, h2⟩ | ⟨h1, h2, h3⟩ | ⟨h1, h2⟩ | ⟨h1, h2⟩ | ⟨h1, h2⟩ | ⟨h1, h2, h3⟩
  · have h4 : ¬ a ≤ b := by omega
    go_enter Try.func29, Try.ntmps29
    go_wp2_with fail
    go_ret
    exact ⟨rfl, (Below.refl _ _).alloc (Nat.le_refl _) _⟩
  · have h4 : (b == a) = false := by simpa using (show b ≠ a by omega)
    go_enter Try.func29, Try.ntmps29
    go_wp2_with fail
    go_ret
    exact ⟨rfl, (Below.refl _ _).alloc (Nat.le_refl _) _⟩
  · have h4 : ¬ b < a := by omega
    go_enter Try.func29, Try.ntmps29
    go_wp2_with fail
    go_ret
    exact ⟨rfl, (Below.refl _ _).alloc (Nat.le_refl _) _⟩
  · subst h1
    go_enter Try.func29, Try.ntmps29
    go_wp2_with fail
    go_ret
    exact ⟨rfl, (Below.refl _ _).alloc (Nat.le_refl _) _⟩
  · subst h1
    go_enter Try.func29, Try.ntmps29
    go_wp2_with fail
    go_ret
    exact ⟨rfl, (Below.refl _ _).alloc (Nat.le_refl _) _⟩
  · have h4 : (a == b) = false := by simpa using (show a ≠ b by omega)
    go_enter Try.func29, Try.ntmps29
    go_wp2_with fail
    go_ret
    exact ⟨rfl, (Below.refl _ _).alloc (Nat.le_refl _) _⟩


theorem edge_lt (V S T : Int) (a b : Int) (h : Rt V S T) (h1 : 0 ≤ a) (h2 : a < b) (h3 : b < V) (w : World) :
    Calls Try.prog 29 #[vL V S T, .int .i64 a, .int .i64 b] w fun e w' => e = .returned (.int .i64 (cl (pr V) (o4 V S T) (ahF V a + b - a - 1))) ∧ Below w.heap.size w w' := by
  have v2 := h.v2
  have m1 : 0 ≤ a * (2 * V - a - 1) := Int.mul_nonneg h1 (by omega)
  have m2 : a * (2 * V - a - 1) ≤ 1000 := by
    have e1 : a * (2 * V - a - 1) ≤ 16 * (2 * V - a - 1) := Int.mul_le_mul_of_nonneg_right (by omega) (by omega)
    omega
  have hne : (a == b) = false := by simpa using (show a ≠ b by omega)
  unfold ahF
  go_enter Try.func29, Try.ntmps29
  go_wp2_with (refine (cell_p4 V S T h _ _).mono ?_; rintro e w1 ⟨rfl, hb1⟩)
  go_ret
  exact ⟨rfl, keepL ((Below.refl _ _).alloc (Nat.le_refl _) _) hb1⟩


theorem edge_gt (V S T : Int) (a b : Int) (h : Rt V S T) (h1 : 0 ≤ b) (h2 : b < a) (h3 : a < V) (w : World) :
    Calls Try.prog 29 #[vL V S T, .int .i64 a, .int .i64 b] w fun e w' => e = .returned (.int .i64 (cl (pr V) (o4 V S T) (ahF V b + a - b - 1))) ∧ Below w.heap.size w w' := by
  have v2 := h.v2
  have m1 : 0 ≤ b * (2 * V - b - 1) := Int.mul_nonneg h1 (by omega)
  have m2 : b * (2 * V - b - 1) ≤ 1000 := by
    have e1 : b * (2 * V - b - 1) ≤ 16 * (2 * V - b - 1) := Int.mul_le_mul_of_nonneg_right (by omega) (by omega)
    omega
  have hne : (b == a) = false := by simpa using (show b ≠ a by omega)
  unfold ahF
  go_enter Try.func29, Try.ntmps29
  go_wp2_with (refine (cell_p4 V S T h _ _).mono ?_; rintro e w1 ⟨rfl, hb1⟩)
  go_ret
  exact ⟨rfl, keepL ((Below.refl _ _).alloc (Nat.le_refl _) _) hb1⟩


theorem edge_yes (V S T : Int) (a b : Int) (h : Rt V S T) (w : World) :
    Calls Try.prog 29 #[vL V S T, .int .i64 a, .int .i64 b] w fun e w' => e = .returned (.int .i64 (edgeF V S T a b)) ∧ Below w.heap.size w w' := by
  by_cases hn : 0 ≤ min a b ∧ a ≠ b ∧ max a b < V
  · unfold edgeF
    rw [if_neg (by omega)]
    by_cases hab : a < b
    · rw [show min a b = a by omega, show max a b = b by omega]
      exact edge_lt V S T a b h (by omega) hab (by omega) w
    · rw [show min a b = b by omega, show max a b = a by omega]
      exact edge_gt V S T a b h (by omega) (by omega) (by omega) w
  · rw [show edgeF V S T a b = -1 from if_pos (by omega)]
    exact edge_no V S T a b hn w


/-- How far the reference has come: so many powers are counted, the next one is there. -/
def PowAt (V n p : Int) : Prop := (n = 0 ∧ p = 1) ∨ (n = 1 ∧ p = 2 ∧ 1 ≤ V) ∨ (n = 2 ∧ p = 4 ∧ 2 ≤ V) ∨ (n = 3 ∧ p = 8 ∧ 4 ≤ V) ∨ (n = 4 ∧ p = 16 ∧ 8 ≤ V) ∨ (n = 5 ∧ p = 32 ∧ 16 ≤ V)
theorem powAt_bd {V n p : Int} (h : PowAt V n p) : 0 ≤ n ∧ n ≤ 5 ∧ 1 ≤ p ∧ p ≤ 32 := by unfold PowAt at h; omega
theorem powAt_next {V n p : Int} (h : PowAt V n p) (h1 : p ≤ V) (h2 : V ≤ 16) : PowAt V (n + 1) (p * 2) := by unfold PowAt at *; omega
theorem powAt_end {V n p : Int} (h : PowAt V n p) (h0 : 1 ≤ V) (h1 : V < p) (h2 : V ≤ 16) : n = lv V := by
  unfold PowAt at h; unfold lv
  split <;> (try split) <;> (try split) <;> (try split) <;> omega

theorem rlevels_yes (V S T : Int) (h : Rt V S T) (w : World) :
    Calls Try.prog 14 #[vL V S T] w fun e w' => e = .returned (.int .i64 (lv V)) ∧ Below w.heap.size w w' := by
  have h1 := h.v1
  have h2 := h.v2
  go_enter Try.func14, Try.ntmps14
  go_wp2_with fail
  go_loop [3, 4] (fun n p => ∃ i j : Int, PowAt V i j ∧ n = .int .i64 i ∧ p = .int .i64 j) (fun _ p => (32 - intOf p).toNat)
  case atStart => exact ⟨0, 1, Or.inl ⟨rfl, rfl⟩, rfl, rfl⟩
  case round =>
    obtain ⟨i, j, hp, rfl, rfl⟩ := hrel
    have hb := powAt_bd hp
    have b1 : 0 ≤ i := hb.1
    have b2 : i ≤ 5 := hb.2.1
    have b3 : 1 ≤ j := hb.2.2.1
    have b4 : j ≤ 32 := hb.2.2.2
    clear hb
    have HP := Lib.hid hp
    clear hp
    by_cases hle : j ≤ V
    · go_wp2_with fail
      go_round
      case rel => exact ⟨_, _, powAt_next HP.out hle h2, rfl, rfl⟩
      case measure => simp [intOf]; omega
    · go_wp2_with fail
      go_ret
      exact ⟨retL_int (powAt_end HP.out h1 (by omega) h2), (Below.refl _ _).alloc (Nat.le_refl _) _⟩

end Go.Proofs.Ytflcddjoeadngaa
