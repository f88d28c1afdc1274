/- LayNowhere: its closures, and what is nowhere. Printed by wip/tools/layi.py. -/
import Derived.Test.YtflcddjoeadngaaLayH
namespace Go.Proofs.Ytflcddjoeadngaa
open Go.RowKit

/-- Is a number there, of n from 0 on? -/
def inB (n x : Int) : Bool := decide (0 ≤ x ∧ x < n)
theorem inB_yes {n x : Int} (h : inB n x = true) : 0 ≤ x ∧ x < n := of_decide_eq_true h
theorem inB_no {n x : Int} (h : inB n x = false) : x < 0 ∨ n ≤ x := by have := of_decide_eq_false h; omega
theorem inB_eq {n x : Int} : (decide (0 ≤ x) && decide (x < n)) = inB n x := by unfold inB; rw [Bool.decide_and]
def sideB (x : Int) : Bool := decide (x = 0 ∨ x = 1)
/-- Is a number of a cell as it should be? -/
def okB (n x : Int) (t : Bool) : Bool := decide ((t = true ∧ 0 ≤ x ∧ x < n) ∨ (t = false ∧ x = -1))
theorem okB_yes {n x : Int} {t : Bool} (h : (t = true ∧ 0 ≤ x ∧ x < n) ∨ (t = false ∧ x = -1)) : okB n x t = true := decide_eq_true h

theorem vertexC (g : Nat) (N x : Int) (w : World) (h : w.cell? ⟨g, 0, none⟩ = some (.int .i64 N)) :
    Calls Try.prog 31 #[.int .i64 x, .pointer (some ⟨g, 0, none⟩)] w fun e w' => e = .returned (.bool (inB N x)) ∧ w = w' := by
  rw [← inB_eq]
  by_cases h0 : 0 ≤ x
  · go_enter Try.func31, Try.ntmps31
    go_wp2
    go_ret
    exact ⟨retL_bool (by simp [h0]), rfl⟩
  · go_enter Try.func31, Try.ntmps31
    go_wp2
    go_ret
    exact ⟨retL_bool (by simp; omega), rfl⟩

theorem slotC (g : Nat) (N x : Int) (w : World) (h : w.cell? ⟨g, 1, none⟩ = some (.int .i64 N)) :
    Calls Try.prog 32 #[.int .i64 x, .pointer (some ⟨g, 0, none⟩)] w fun e w' => e = .returned (.bool (inB N x)) ∧ w = w' := by
  rw [← inB_eq]
  by_cases h0 : 0 ≤ x
  · go_enter Try.func32, Try.ntmps32
    go_wp2
    go_ret
    exact ⟨retL_bool (by simp [h0]), rfl⟩
  · go_enter Try.func32, Try.ntmps32
    go_wp2
    go_ret
    exact ⟨retL_bool (by simp; omega), rfl⟩

theorem levelC (g : Nat) (N x : Int) (w : World) (h : w.cell? ⟨g, 0, none⟩ = some (.int .i64 N)) :
    Calls Try.prog 33 #[.int .i64 x, .pointer (some ⟨g, 0, none⟩)] w fun e w' => e = .returned (.bool (inB N x)) ∧ w = w' := by
  rw [← inB_eq]
  by_cases h0 : 0 ≤ x
  · go_enter Try.func33, Try.ntmps33
    go_wp2
    go_ret
    exact ⟨retL_bool (by simp [h0]), rfl⟩
  · go_enter Try.func33, Try.ntmps33
    go_wp2
    go_ret
    exact ⟨retL_bool (by simp; omega), rfl⟩
theorem sideC (x : Int) (w : World) :
    Calls Try.prog 34 #[.int .i64 x] w fun e w' => e = .returned (.bool (sideB x)) ∧ w = w' := by
  by_cases h0 : x = 0
  · subst h0
    go_enter Try.func34, Try.ntmps34
    go_wp2
    go_ret
    exact ⟨retL_bool (by simp [sideB]), rfl⟩
  · have h1 : (x == 0) = false := by simpa using h0
    go_enter Try.func34, Try.ntmps34
    go_wp2
    go_ret
    exact ⟨retL_bool (by rw [Bool.eq_iff_iff]; simp [sideB, h0]), rfl⟩
theorem isC (g : Nat) (V S T : Int) (H : Rt V S T) (x : Int) (t : Bool) (w : World) (h0 : w.cell? ⟨g, 0, none⟩ = some (.int .i64 V)) (h1 : w.cell? ⟨g, 1, none⟩ = some (.int .i64 S)) (h2 : w.cell? ⟨g, 2, none⟩ = some (.int .i64 T)) :
    Calls Try.prog 35 #[.int .i64 x, .bool t, .pointer (some ⟨g, 0, none⟩)] w fun e w' => e = .returned (.bool (okB (cn V S T) x t)) ∧ Below w.heap.size w w' := by
  have HR := Lib.hid H
  clear H
  have hn : 0 ≤ cn V S T := by have := HR.out.t1; have := HR.out.s1; have := (sizes HR.out).vn1; have := (sizes HR.out).pr1; have := (sizes HR.out).nd1; unfold cn; omega
  cases t
  · by_cases h : x = -1
    · subst h
      go_enter Try.func35, Try.ntmps35
      go_wp2_with (refine (cells_yes V S T HR.out _).mono ?_; rintro e w1 ⟨rfl, hb1⟩)
      go_ret
      exact ⟨retL_bool (by unfold okB; simp; omega), hb1⟩
    · by_cases hx : 0 ≤ x
      · go_enter Try.func35, Try.ntmps35
        go_wp2_with (refine (cells_yes V S T HR.out _).mono ?_; rintro e w1 ⟨rfl, hb1⟩)
        go_ret
        exact ⟨retL_bool (by unfold okB; simp; omega), Below.refl _ _⟩
      · have hx1 : (x == -1) = false := by simpa using h
        have hx2 : decide (0 ≤ x) = false := decide_eq_false hx
        go_enter Try.func35, Try.ntmps35
        go_wp2_with (refine (cells_yes V S T HR.out _).mono ?_; rintro e w1 ⟨rfl, hb1⟩)
        go_ret
        exact ⟨retL_bool (by unfold okB; simp; omega), Below.refl _ _⟩
  · by_cases hx : 0 ≤ x
    · go_enter Try.func35, Try.ntmps35
      go_wp2_with (refine (cells_yes V S T HR.out _).mono ?_; rintro e w1 ⟨rfl, hb1⟩)
      go_ret
      exact ⟨retL_bool (by unfold okB; simp; omega), hb1⟩
    · have hx2 : decide (0 ≤ x) = false := decide_eq_false hx
      go_enter Try.func35, Try.ntmps35
      go_wp2_with (refine (cells_yes V S T HR.out _).mono ?_; rintro e w1 ⟨rfl, hb1⟩)
      go_ret
      exact ⟨retL_bool (by unfold okB; simp; omega), Below.refl _ _⟩

section
variable {V S T a b : Int}
theorem vertex_there (h : Rt V S T) : (vertexF V a b != 0) = (inB (lv V) a && inB V b) := by
  unfold vertexF inB pl
  have := h.v1
  split
  · rw [show ((-1 : Int) + 1 != 0) = false by decide, ← Bool.decide_and]; symm; rw [decide_eq_false_iff_not]; omega
  · rename_i hn
    have m : 0 ≤ a * V := Int.mul_nonneg (by omega) (by omega)
    rw [show (a * V + b + 1 != 0) = true by simp; omega, ← Bool.decide_and]; symm; rw [decide_eq_true_eq]; omega
theorem arc_there {s l d : Int} (h : Rt V S T) : (arcF V S s l d != 0) = (inB S s && (inB (lv V) l && sideB d)) := by
  have z := sizes h
  have z1 := z.vn1
  have z2 := z.sn1
  have z3 : sn V = lv V * 2 := rfl
  unfold arcF
  by_cases hs : inB S s = true
  · have h1 := inB_yes hs
    by_cases hl : 0 ≤ l ∧ l < lv V ∧ 0 ≤ d ∧ d < 2
    · have m : 0 ≤ s * sn V := Int.mul_nonneg h1.1 (by omega)
      rw [pl_yes (r := l) (c := d) hl.1 hl.2.1 hl.2.2.1 hl.2.2.2, pl_yes h1.1 h1.2 (by omega) (by omega), if_neg (by omega), hs]
      have e1 : inB (lv V) l = true := decide_eq_true ⟨hl.1, hl.2.1⟩
      have e2 : sideB d = true := decide_eq_true (by omega)
      rw [e1, e2]; simp; omega
    · rw [pl_no (r := l) (c := d) (by omega), pl_no (r := s) (by omega), if_pos rfl, hs]
      have : (inB (lv V) l && sideB d) = false := by
        unfold inB sideB; rw [← Bool.decide_and, decide_eq_false_iff_not]; omega
      rw [this]; rfl
  · have h1 := inB_no (by simpa using hs)
    rw [pl_no (r := s) (by omega), if_pos rfl]
    simp at hs; rw [hs]; rfl
theorem sideB_0 : sideB 0 = true := rfl
theorem inB_lv0 (V : Int) : inB (lv V) 0 = true := decide_eq_true ⟨by omega, by have := (lv_bd V).1; omega⟩
theorem cn_big (h : Rt V S T) : T + 1 + S * 7 + vn V + pr V + nd V S * 7 = cn V S T ∧ 0 ≤ S * 7 ∧ 1 ≤ vn V ∧ 0 ≤ pr V ∧ 1 ≤ nd V S := ⟨rfl, by have := h.s1; omega, (sizes h).vn1, (sizes h).pr1, (sizes h).nd1⟩
theorem state_ok (h : Rt V S T) : okB (cn V S T) (stateF T a) (decide (1 ≤ a) && decide (a ≤ T)) = true := by
  have := cn_big h
  rw [← Bool.decide_and]
  refine okB_yes ?_
  unfold stateF
  by_cases hc : 1 ≤ a ∧ a ≤ T
  · rw [if_pos hc]; exact .inl ⟨decide_eq_true hc, by omega, by omega⟩
  · rw [if_neg hc]; exact .inr ⟨decide_eq_false hc, rfl⟩
theorem slot_ok (h : Rt V S T) {k : Int} (k0 : 0 ≤ k) (k1 : k < 7) : okB (cn V S T) (slotF S T a k) (inB S a) = true := by
  have := cn_big h
  have := h.t1
  refine okB_yes ?_
  unfold slotF inB
  by_cases hc : 0 ≤ a ∧ a < S
  · rw [if_pos ⟨hc.1, hc.2, k0, k1⟩]; exact .inl ⟨decide_eq_true hc, by omega, by omega⟩
  · rw [if_neg (by omega)]; exact .inr ⟨decide_eq_false hc, rfl⟩
theorem side_ok (h : Rt V S T) {f : Int} (f0 : 0 ≤ f) (f1 : f < 6) : okB (cn V S T) (slotF S T a (sideF f b)) (inB S a && sideB b) = true := by
  by_cases hb : b = 0 ∨ b = 1
  · have : sideB b = true := decide_eq_true hb
    rw [this, Bool.and_true, show sideF f b = f + b from if_neg (by omega)]
    exact slot_ok h (by omega) (by omega)
  · have : sideB b = false := decide_eq_false hb
    rw [this, Bool.and_false, show sideF f b = -1 from if_pos (by omega)]
    exact okB_yes (.inr ⟨rfl, by unfold slotF; rw [if_neg (by omega)]⟩)
theorem head_ok (h : Rt V S T) : okB (cn V S T) (headF V S T a b) (inB V a && inB (lv V) b) = true := by
  have := cn_big h
  have := h.t1
  refine okB_yes ?_
  unfold inB
  rw [← Bool.decide_and]
  by_cases hc : (0 ≤ a ∧ a < V) ∧ 0 ≤ b ∧ b < lv V
  · have q := (head_spec (V := V) (S := S) (T := T) a b).1 ⟨hc.1.1, hc.1.2, hc.2.1, hc.2.2⟩
    refine .inl ⟨decide_eq_true hc, ?_, ?_⟩ <;> rw [q.1] <;> unfold o3 <;> omega
  · exact .inr ⟨decide_eq_false hc, (head_spec (V := V) (S := S) (T := T) a b).2 (by omega)⟩
theorem edge_ok (h : Rt V S T) (hne : a ≠ b) : okB (cn V S T) (edgeF V S T a b) (inB V a && inB V b) = true := by
  have := cn_big h
  have := h.t1
  refine okB_yes ?_
  unfold inB
  rw [← Bool.decide_and]
  by_cases hc : (0 ≤ a ∧ a < V) ∧ 0 ≤ b ∧ b < V
  · have q := (edge_spec (V := V) (S := S) (T := T) a b).1 ⟨by omega, hne, by omega⟩
    refine .inl ⟨decide_eq_true hc, ?_, ?_⟩ <;> rw [q.1] <;> unfold o4 <;> omega
  · exact .inr ⟨decide_eq_false hc, (edge_spec (V := V) (S := S) (T := T) a b).2 (by omega)⟩
theorem edge_same (a : Int) : okB (cn V S T) (edgeF V S T a a) false = true :=
  okB_yes (.inr ⟨rfl, (edge_spec (V := V) (S := S) (T := T) a a).2 (by omega)⟩)
theorem field_ok (h : Rt V S T) {t : Bool} (ht : t = decide (1 ≤ a ∧ a ≤ nd V S ∧ 0 ≤ b ∧ b < 7)) : okB (cn V S T) (fieldF V S T a b) t = true := by
  have := cn_big h
  have := h.t1
  subst ht
  refine okB_yes ?_
  unfold fieldF
  by_cases hc : 1 ≤ a ∧ a ≤ nd V S ∧ 0 ≤ b ∧ b < 7
  · rw [if_pos hc]; exact .inl ⟨decide_eq_true hc, by unfold o5; omega, by unfold o5; omega⟩
  · rw [if_neg hc]; exact .inr ⟨decide_eq_false hc, rfl⟩
end

section
variable {w W W' : World} {V S T : Int} {g7 b : Nat}
/-- The lay, and the number of its levels, lie where they lie. -/
def LV (w : World) (V S T : Int) (g7 : Nat) (W : World) : Prop := LB w V S T W ∧ W.cell? ⟨g7, 0, none⟩ = some (.int .i64 (lv V)) ∧ g7 < W.heap.size
theorem LV.later (h : LV w V S T g7 W) (hb : Below W.heap.size W W') : LV w V S T g7 W' := ⟨h.1.later hb, (hb.cell (p := ⟨g7, 0, none⟩) h.2.2).trans h.2.1, Nat.lt_of_lt_of_le h.2.2 hb.size⟩
theorem LV.cells (h : LV w V S T g7 W) : W.cell? ⟨w.heap.size, 0, none⟩ = some (.int .i64 V) ∧ W.cell? ⟨w.heap.size, 1, none⟩ = some (.int .i64 S) ∧ W.cell? ⟨w.heap.size, 2, none⟩ = some (.int .i64 T) ∧ W.cell? ⟨g7, 0, none⟩ = some (.int .i64 (lv V)) := ⟨h.1.cells.1, h.1.cells.2.1, h.1.cells.2.2, h.2.1⟩
theorem LV.end_ (h : LV w V S T g7 W) : Below w.heap.size w W := h.1.2
theorem there_one (W : World) (z : Value) (t : TypeId) : (W.alloc (.cells #[z] t)).there W.heap.size 0 1 := fun j hj => by
  have hb := Blk.new W t #[z]
  refine ⟨?_, hb.frozen _⟩
  rw [hb.cell, Nat.zero_add, Array.getElem?_eq_getElem (by simpa using hj)]; rfl
theorem there_oneA {z : Value} {t : TypeId} (hb : Below (W.alloc (.cells #[z] t)).heap.size (W.alloc (.cells #[z] t)) W') : W'.there W.heap.size 0 1 :=
  there_below hb (by simp) (there_one W z t)
theorem there_oneB {z : Value} {t : TypeId} (hb : Below ((W.alloc (.cells #[z] t)).drew).heap.size ((W.alloc (.cells #[z] t)).drew) W') : W'.there W.heap.size 0 1 :=
  there_below hb (by simp) ((World.there_drew _ _ _ _).2 (there_one W z t))
theorem there_lt (h : W.there b 0 1) : b < W.heap.size := by
  obtain ⟨u, hu⟩ := Option.isSome_iff_exists.1 (h 0 (by omega)).1
  exact World.block_lt_of_cell? W _ hu
theorem there_later (hb : Below W.heap.size W W') (h : W.there b 0 1) : W'.there b 0 1 := there_below hb (there_lt h) h
theorem zAt1 (W : World) (b : Nat) (h : W.there b 0 1) : W.cell? ⟨b, 0, none⟩ = some (zAt W b 0) ∧ W.frozen? ⟨b, 0, none⟩ = false := ⟨zAt_there h (i := 0) (by omega), zAt_free h (i := 0) (by omega)⟩
theorem LV.ofA (h : LB w V S T W) (t : TypeId) : LV w V S T W.heap.size (W.alloc (.cells #[.int .i64 (lv V)] t)) := ⟨h.alloc _, by simp [go_sem], by simp⟩
theorem LV.ofB (h : LB w V S T W) (t : W.there b 0 1) (hb : w.heap.size < b) : LV w V S T b (W.setCell ⟨b, 0, none⟩ (.int .i64 (lv V))) :=
  ⟨h.far hb 0 _, World.cell?_setCell_same' _ _ _ (by have := (t 0 (by omega)).1; rwa [Nat.zero_add] at this), by have := there_lt t; simpa [World.setCell] using this⟩
end
end Go.Proofs.Ytflcddjoeadngaa
