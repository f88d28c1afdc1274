/- Walk of LayNodes: its parts. Printed by wip/tools/laylh.py. -/
import Derived.Test.YtflcddjoeadngaaLayS
namespace Go.Proofs.Ytflcddjoeadngaa
open Go.RowKit

theorem node_1 (V S T A B : Int) (h : Rt V S T) (a0 : 0 ≤ A) (a1 : A < lv V) (b0 : 0 ≤ B) (b1 : B < V) (k : Nat) (hk : (k : Int) = A * V + B) (w : World) :
    Calls Try.prog 16 #[vL V S T, .int .i64 ((k : Int) + 1)] w fun e w' => e = .returned (.tuple #[vT false A B 0 0, .bool true]) ∧ Below w.heap.size w w' := by
  have hv := h.v1
  have m := mul_up (k := A) (V := V) (L := lv V - 1) a0 (by omega) (by omega)
  have e : (lv V - 1) * V = vn V - V := by unfold vn; rw [Int.sub_mul]; omega
  have := node_vertex V S T (k + 1) h (by omega) (by omega) w
  rw [show (k : Int) + 1 - 1 = B + A * V by omega, Int.add_mul_ediv_right _ _ (by omega), Int.add_mul_emod_self_right, Int.ediv_eq_zero_of_lt b0 b1, Int.emod_eq_of_lt b0 b1, Int.zero_add] at this
  exact this
theorem node_2 (V S T A B C : Int) (h : Rt V S T) (a0 : 0 ≤ A) (a1 : A < S) (b0 : 0 ≤ B) (b1 : B < lv V) (c : C = 0 ∨ C = 1) (k : Nat) (hk : (k : Int) = vn V + A * sn V + 2 * B + C) (w : World) :
    Calls Try.prog 16 #[vL V S T, .int .i64 ((k : Int) + 1)] w fun e w' => e = .returned (.tuple #[vT true B 0 A C, .bool true]) ∧ Below w.heap.size w w' := by
  have z := sizes h
  have hs := z.sn1
  have es : sn V = lv V * 2 := rfl
  have m := mul_up (k := A) (V := sn V) (L := S - 1) a0 (by omega) (by omega)
  have e : (S - 1) * sn V = S * sn V - sn V := by rw [Int.sub_mul]; omega
  have en : nd V S = vn V + S * sn V := rfl
  have d0 : 0 ≤ 2 * B + C := by omega
  have d1 : 2 * B + C < sn V := by omega
  have := node_arc V S T (k + 1) h (by omega) (by omega) w
  rw [show (k : Int) + 1 - 1 - vn V = 2 * B + C + A * sn V by omega, Int.add_mul_ediv_right _ _ (by omega), Int.add_mul_emod_self_right, Int.ediv_eq_zero_of_lt d0 d1, Int.emod_eq_of_lt d0 d1, Int.zero_add, show (2 * B + C) / 2 = B by omega, show (2 * B + C + A * sn V) % 2 = C by rw [es, ← Int.mul_assoc]; omega] at this
  exact this
theorem node_in (V S T x : Int) (h : Rt V S T) (h1 : 1 ≤ x) (h2 : x ≤ nd V S) (w : World) :
    Calls Try.prog 16 #[vL V S T, .int .i64 x] w fun e w' => ∃ (b : Bool) (l v s d : Int), e = .returned (.tuple #[vT b l v s d, .bool true]) ∧ Below w.heap.size w w' := by
  by_cases hx : x - 1 < vn V
  · exact (node_vertex V S T x h h1 hx w).mono fun e w' ⟨he, hb⟩ => ⟨_, _, _, _, _, he, hb⟩
  · exact (node_arc V S T x h h2 (by omega) w).mono fun e w' ⟨he, hb⟩ => ⟨_, _, _, _, _, he, hb⟩
theorem vertex_is (V S T A B : Int) (h : Rt V S T) (a0 : 0 ≤ A) (a1 : A < lv V) (b0 : 0 ≤ B) (b1 : B < V) (k : Nat) (hk : (k : Int) = A * V + B) (w : World) :
    Calls Try.prog 17 #[vL V S T, .int .i64 A, .int .i64 B] w fun e w' => e = .returned (.int .i64 ((k : Int) + 1)) ∧ Below w.heap.size w w' :=
  isI (vertex_yes V S T A B h w) (by unfold vertexF; rw [pl_yes a0 a1 b0 b1, hk])
theorem arc_is (V S T A B C : Int) (h : Rt V S T) (a0 : 0 ≤ A) (a1 : A < S) (b0 : 0 ≤ B) (b1 : B < lv V) (c : C = 0 ∨ C = 1) (k : Nat) (hk : (k : Int) = vn V + A * sn V + 2 * B + C) (w : World) :
    Calls Try.prog 18 #[vL V S T, .int .i64 A, .int .i64 B, .int .i64 C] w fun e w' => e = .returned (.int .i64 ((k : Int) + 1)) ∧ Below w.heap.size w w' := by
  have z := sizes h
  have hs := z.sn1
  have es : sn V = lv V * 2 := rfl
  refine isI (arc_yes V S T A B C h w) ?_
  have m := Int.mul_nonneg a0 (show 0 ≤ sn V by omega)
  unfold arcF
  rw [pl_yes b0 b1 (show 0 ≤ C by omega) (show C < 2 by omega), pl_yes a0 a1 (by omega) (by omega), if_neg (by omega)]
  omega

section
variable {w W W' : World} {V S T : Int} {g n gn g8 b0 : Nat} {f : Nat → Nm} {nm : Nm} {th : Array Value}
/-- The lay lies where it lies. -/
def LB (w : World) (V S T : Int) (W : World) : Prop := Blk W w.heap.size 23 #[.int .i64 V, .int .i64 S, .int .i64 T] ∧ Below w.heap.size w W
theorem LB.later (h : LB w V S T W) (hb : Below W.heap.size W W') : LB w V S T W' := ⟨h.1.below hb h.1.lt, keepL h.2 hb (Nat.le_of_lt h.1.lt)⟩
theorem LB.drew (h : LB w V S T W) : LB w V S T W.drew := ⟨h.1.drew, h.2.drew⟩
theorem LB.alloc (h : LB w V S T W) (o : Obj) : LB w V S T (W.alloc o) := ⟨h.1.alloc o, h.2.alloc (Nat.le_of_lt h.1.lt) o⟩
theorem LB.far (h : LB w V S T W) {b : Nat} (hb : w.heap.size < b) (i : Nat) (u : Value) : LB w V S T (W.setCell ⟨b, i, none⟩ u) := ⟨h.1.far (by simp; omega) u, h.2.setCell (by simp; omega) u⟩
theorem LB.cells (h : LB w V S T W) : W.cell? ⟨w.heap.size, 0, none⟩ = some (.int .i64 V) ∧ W.cell? ⟨w.heap.size, 1, none⟩ = some (.int .i64 S) ∧ W.cell? ⟨w.heap.size, 2, none⟩ = some (.int .i64 T) := ⟨h.1.cell 0, h.1.cell 1, h.1.cell 2⟩
theorem LB.lt (h : LB w V S T W) : w.heap.size < W.heap.size := h.1.lt
theorem LB.end_ (h : LB w V S T W) : Below w.heap.size w W := h.2
theorem LB.start (w : World) (V S T : Int) : LB w V S T (w.alloc (.cells #[.int .i64 V, .int .i64 S, .int .i64 T] 23)) := ⟨Blk.new _ _ _, (Below.refl _ _).alloc (Nat.le_refl _) _⟩

/-- The same, and a row of n names. -/
def LR (w : World) (V S T : Int) (g n : Nat) (f : Nat → Nm) (W : World) : Prop := LB w V S T W ∧ g < W.heap.size ∧ ∀ k, k < n → NmAt W g k (f k)
theorem LR.later (h : LR w V S T g n f W) (hb : Below W.heap.size W W') : LR w V S T g n f W' := ⟨h.1.later hb, Nat.lt_of_lt_of_le h.2.1 hb.size, fun k hk => (h.2.2 k hk).below hb h.2.1⟩
theorem LR.drew (h : LR w V S T g n f W) : LR w V S T g n f W.drew := ⟨h.1.drew, h.2.1, h.2.2⟩
theorem LR.alloc (h : LR w V S T g n f W) (o : Obj) : LR w V S T g n f (W.alloc o) := h.later ((Below.refl _ W).alloc (Nat.le_refl _) o)
theorem LR.far (h : LR w V S T g n f W) {b : Nat} (hb : w.heap.size < b) (hg : g < b) (i : Nat) (u : Value) : LR w V S T g n f (W.setCell ⟨b, i, none⟩ u) := by
  have ne : ∀ j, (⟨b, i, none⟩ : Addr) ≠ ⟨g, j, none⟩ := fun j e => by injection e with e; omega
  refine ⟨h.1.far hb i u, by simpa [World.setCell] using h.2.1, fun k hk => ?_⟩
  obtain ⟨a, b, c, d⟩ := h.2.2 k hk
  exact ⟨(World.cell?_setCell_other _ _ _ _ (ne _)).trans a, (World.cell?_setCell_other _ _ _ _ (ne _)).trans b, (World.cell?_setCell_other _ _ _ _ (ne _)).trans c, (World.cell?_setCell_other _ _ _ _ (ne _)).trans d⟩
theorem LR.cells (h : LR w V S T g n f W) : W.cell? ⟨w.heap.size, 0, none⟩ = some (.int .i64 V) ∧ W.cell? ⟨w.heap.size, 1, none⟩ = some (.int .i64 S) ∧ W.cell? ⟨w.heap.size, 2, none⟩ = some (.int .i64 T) := h.1.cells
theorem LR.lt (h : LR w V S T g n f W) : w.heap.size < W.heap.size := h.1.1.lt
theorem LR.end_ (h : LR w V S T g n f W) : Below w.heap.size w W := h.1.2

/-- The same, and a name and a thing. -/
def LT (w : World) (V S T : Int) (g n : Nat) (f : Nat → Nm) (gn : Nat) (nm : Nm) (g8 : Nat) (th : Array Value) (W : World) : Prop :=
  LR w V S T g n f W ∧ Blk W gn 32 #[.int .i64 nm.k, .int .i64 nm.a, .int .i64 nm.b, .int .i64 nm.c] ∧ Blk W g8 34 th
theorem LT.later (h : LT w V S T g n f gn nm g8 th W) (hb : Below W.heap.size W W') : LT w V S T g n f gn nm g8 th W' := ⟨h.1.later hb, h.2.1.below hb h.2.1.lt, h.2.2.below hb h.2.2.lt⟩
theorem LT.alloc (h : LT w V S T g n f gn nm g8 th W) (o : Obj) : LT w V S T g n f gn nm g8 th (W.alloc o) := ⟨h.1.alloc o, h.2.1.alloc o, h.2.2.alloc o⟩
theorem LT.drew (h : LT w V S T g n f gn nm g8 th W) : LT w V S T g n f gn nm g8 th W.drew := ⟨h.1.drew, h.2.1.drew, h.2.2.drew⟩
theorem LT.far (h : LT w V S T g n f gn nm g8 th W) {b : Nat} (h1 : w.heap.size < b) (h2 : g < b) (h3 : gn < b) (h4 : g8 < b) (i : Nat) (u : Value) : LT w V S T g n f gn nm g8 th (W.setCell ⟨b, i, none⟩ u) :=
  ⟨h.1.far h1 h2 i u, h.2.1.far (by simp; omega) u, h.2.2.far (by simp; omega) u⟩
theorem LT.cells (h : LT w V S T g n f gn nm g8 th W) : W.cell? ⟨w.heap.size, 0, none⟩ = some (.int .i64 V) ∧ W.cell? ⟨w.heap.size, 1, none⟩ = some (.int .i64 S) ∧ W.cell? ⟨w.heap.size, 2, none⟩ = some (.int .i64 T) ∧ W.cell? ⟨gn, 0, none⟩ = some (.int .i64 nm.k) ∧ W.cell? ⟨gn, 1, none⟩ = some (.int .i64 nm.a) ∧ W.cell? ⟨gn, 2, none⟩ = some (.int .i64 nm.b) ∧ W.cell? ⟨gn, 3, none⟩ = some (.int .i64 nm.c) :=
  ⟨h.1.cells.1, h.1.cells.2.1, h.1.cells.2.2, h.2.1.cell 0, h.2.1.cell 1, h.2.1.cell 2, h.2.1.cell 3⟩
theorem LT.start (h : LR w V S T g n f W) (b : Blk W gn 32 #[.int .i64 nm.k, .int .i64 nm.a, .int .i64 nm.b, .int .i64 nm.c]) : LT w V S T g n f gn nm W.heap.size th (W.alloc (.cells th 34)) :=
  ⟨h.alloc _, b.alloc _, Blk.new _ _ _⟩
theorem LT.thing {t0 t1 t2 t3 t4 : Value} (h : LT w V S T g n f gn nm g8 #[t0, t1, t2, t3, t4] W) : W.cell? ⟨g8, 0, none⟩ = some t0 ∧ W.cell? ⟨g8, 1, none⟩ = some t1 ∧ W.cell? ⟨g8, 2, none⟩ = some t2 ∧ W.cell? ⟨g8, 3, none⟩ = some t3 ∧ W.cell? ⟨g8, 4, none⟩ = some t4 :=
  ⟨h.2.2.cell 0, h.2.2.cell 1, h.2.2.cell 2, h.2.2.cell 3, h.2.2.cell 4⟩
theorem LT.far5 (h1 : w.heap.size < b0) (h2 : g < b0) (h3 : gn < b0) (h4 : g8 < b0) (a b c d e : Value) (h : LT w V S T g n f gn nm g8 th W) : LT w V S T g n f gn nm g8 th (((((W.setCell ⟨b0, 0, none⟩ a).setCell ⟨b0, 1, none⟩ b).setCell ⟨b0, 2, none⟩ c).setCell ⟨b0, 3, none⟩ d).setCell ⟨b0, 4, none⟩ e) :=
  ((((h.far h1 h2 h3 h4 0 a).far h1 h2 h3 h4 1 b).far h1 h2 h3 h4 2 c).far h1 h2 h3 h4 3 d).far h1 h2 h3 h4 4 e
/-- The same, and there is room for a thing. -/
def LQ (w : World) (V S T : Int) (g n : Nat) (f : Nat → Nm) (gn : Nat) (nm : Nm) (g8 : Nat) (th : Array Value) (b0 : Nat) (W : World) : Prop :=
  LT w V S T g n f gn nm g8 th W ∧ W.there b0 0 5 ∧ b0 < W.heap.size ∧ w.heap.size < b0 ∧ g < b0 ∧ gn < b0 ∧ g8 < b0
theorem LQ.mk_ (h : LT w V S T g n f gn nm g8 th W) (t : W.there b0 0 5) (a : b0 < W.heap.size) (b : w.heap.size < b0) (c : g < b0) (d : gn < b0) (e : g8 < b0) : LQ w V S T g n f gn nm g8 th b0 W := ⟨h, t, a, b, c, d, e⟩
theorem LQ.later (h : LQ w V S T g n f gn nm g8 th b0 W) (hb : Below W.heap.size W W') : LQ w V S T g n f gn nm g8 th b0 W' := ⟨h.1.later hb, there_below hb h.2.2.1 h.2.1, Nat.lt_of_lt_of_le h.2.2.1 hb.size, h.2.2.2⟩
theorem LQ.drew (h : LQ w V S T g n f gn nm g8 th b0 W) : LQ w V S T g n f gn nm g8 th b0 W.drew := ⟨h.1.drew, (World.there_drew _ _ _ _).2 h.2.1, h.2.2⟩
theorem LQ.far5 (a b c d e : Value) (h : LQ w V S T g n f gn nm g8 th b0 W) : LQ w V S T g n f gn nm g8 th b0 (((((W.setCell ⟨b0, 0, none⟩ a).setCell ⟨b0, 1, none⟩ b).setCell ⟨b0, 2, none⟩ c).setCell ⟨b0, 3, none⟩ d).setCell ⟨b0, 4, none⟩ e) :=
  ⟨h.1.far5 h.2.2.2.1 h.2.2.2.2.1 h.2.2.2.2.2.1 h.2.2.2.2.2.2 a b c d e, World.there_setCells h.2.1 b0 0 [a, b, c, d, e], by simpa [World.setCell] using h.2.2.1, h.2.2.2⟩
theorem LQ.cells (h : LQ w V S T g n f gn nm g8 th b0 W) : W.cell? ⟨w.heap.size, 0, none⟩ = some (.int .i64 V) ∧ W.cell? ⟨w.heap.size, 1, none⟩ = some (.int .i64 S) ∧ W.cell? ⟨w.heap.size, 2, none⟩ = some (.int .i64 T) ∧ W.cell? ⟨gn, 0, none⟩ = some (.int .i64 nm.k) ∧ W.cell? ⟨gn, 1, none⟩ = some (.int .i64 nm.a) ∧ W.cell? ⟨gn, 2, none⟩ = some (.int .i64 nm.b) ∧ W.cell? ⟨gn, 3, none⟩ = some (.int .i64 nm.c) := h.1.cells
end
theorem there_new (W : World) (z0 z1 z2 z3 z4 : Value) (t : TypeId) : (W.alloc (.cells #[z0, z1, z2, z3, z4] t)).there W.heap.size 0 5 := fun j hj => by
  have hb := Blk.new W t #[z0, z1, z2, z3, z4]
  refine ⟨?_, hb.frozen _⟩
  rw [hb.cell, Nat.zero_add, Array.getElem?_eq_getElem (by simpa using hj)]; rfl
theorem there_fresh {W W' : World} {z0 z1 z2 z3 z4 : Value} {t : TypeId} (hb : Below ((W.alloc (.cells #[z0, z1, z2, z3, z4] t)).drew).heap.size ((W.alloc (.cells #[z0, z1, z2, z3, z4] t)).drew) W') : W'.there W.heap.size 0 5 := by
  exact there_below hb (by simp) ((World.there_drew _ _ _ _).2 (there_new W z0 z1 z2 z3 z4 t))
theorem zAt5 (W : World) (b : Nat) (h : W.there b 0 5) : (W.cell? ⟨b, 0, none⟩ = some (zAt W b 0) ∧ W.cell? ⟨b, 1, none⟩ = some (zAt W b 1) ∧ W.cell? ⟨b, 2, none⟩ = some (zAt W b 2) ∧ W.cell? ⟨b, 3, none⟩ = some (zAt W b 3) ∧ W.cell? ⟨b, 4, none⟩ = some (zAt W b 4)) ∧ W.frozen? ⟨b, 0, none⟩ = false ∧ W.frozen? ⟨b, 1, none⟩ = false ∧ W.frozen? ⟨b, 2, none⟩ = false ∧ W.frozen? ⟨b, 3, none⟩ = false ∧ W.frozen? ⟨b, 4, none⟩ = false :=
  ⟨⟨zAt_there h (i := 0) (by omega), zAt_there h (i := 1) (by omega), zAt_there h (i := 2) (by omega), zAt_there h (i := 3) (by omega), zAt_there h (i := 4) (by omega)⟩, zAt_free h (i := 0) (by omega), zAt_free h (i := 1) (by omega), zAt_free h (i := 2) (by omega), zAt_free h (i := 3) (by omega), zAt_free h (i := 4) (by omega)⟩
end Go.Proofs.Ytflcddjoeadngaa

