/- Contracts of sizes and of one cell. Printed by wip/tools/layd.py. -/
import Derived.Test.YtipjbgkfhkidkaaLayC
import Derived.Deep.MidRow
namespace Go.Proofs.Ytipjbgkfhkidkaa
open Go.RowKit

abbrev vZ (V S T : Int) : Value := .agg #[.int .i64 T, .int .i64 1, .int .i64 (S * 7), .int .i64 (vn V), .int .i64 (pr V), .int .i64 (nd V S * 7)]

theorem there_below {B : Nat} {W w1 : World} (hb : Below B W w1) {b o n : Nat} (hlt : b < B) (h : W.there b o n) : w1.there b o n := fun j hj =>
  ⟨(congrArg Option.isSome (hb.cell (p := ⟨b, o + j, none⟩) hlt)).trans (h j hj).1, (hb.frozen (p := ⟨b, o + j, none⟩) hlt).trans (h j hj).2⟩
theorem zheld_later {w W w1 : World} {V S T : Int} (hb : Below W.heap.size W w1) (h : W.cell? ⟨w.heap.size, 0, none⟩ = some (.int .i64 V) ∧ W.cell? ⟨w.heap.size, 1, none⟩ = some (.int .i64 S) ∧ W.cell? ⟨w.heap.size, 2, none⟩ = some (.int .i64 T) ∧ W.there (w.heap.size + 1) 0 6 ∧ w.heap.size + 1 < W.heap.size ∧ Below w.heap.size w W) : w1.cell? ⟨w.heap.size, 0, none⟩ = some (.int .i64 V) ∧ w1.cell? ⟨w.heap.size, 1, none⟩ = some (.int .i64 S) ∧ w1.cell? ⟨w.heap.size, 2, none⟩ = some (.int .i64 T) ∧ w1.there (w.heap.size + 1) 0 6 ∧ w.heap.size + 1 < w1.heap.size ∧ Below w.heap.size w w1 := by
  obtain ⟨x0, x1, x2, x3, x4, x5⟩ := h
  exact ⟨(hb.cell (p := ⟨w.heap.size, 0, none⟩) (Nat.lt_of_succ_lt x4)).trans x0, (hb.cell (p := ⟨w.heap.size, 1, none⟩) (Nat.lt_of_succ_lt x4)).trans x1, (hb.cell (p := ⟨w.heap.size, 2, none⟩) (Nat.lt_of_succ_lt x4)).trans x2, there_below hb x4 x3, Nat.lt_of_lt_of_le x4 hb.size, keepL x5 hb (Nat.le_of_lt (Nat.lt_of_succ_lt x4))⟩
theorem zheld_drew {w W : World} {V S T : Int} (h : W.cell? ⟨w.heap.size, 0, none⟩ = some (.int .i64 V) ∧ W.cell? ⟨w.heap.size, 1, none⟩ = some (.int .i64 S) ∧ W.cell? ⟨w.heap.size, 2, none⟩ = some (.int .i64 T) ∧ W.there (w.heap.size + 1) 0 6 ∧ w.heap.size + 1 < W.heap.size ∧ Below w.heap.size w W) : W.drew.cell? ⟨w.heap.size, 0, none⟩ = some (.int .i64 V) ∧ W.drew.cell? ⟨w.heap.size, 1, none⟩ = some (.int .i64 S) ∧ W.drew.cell? ⟨w.heap.size, 2, none⟩ = some (.int .i64 T) ∧ W.drew.there (w.heap.size + 1) 0 6 ∧ w.heap.size + 1 < W.drew.heap.size ∧ Below w.heap.size w W.drew :=
  ⟨h.1, h.2.1, h.2.2.1, h.2.2.2.1, h.2.2.2.2.1, h.2.2.2.2.2.drew⟩
theorem below_setCells {n : Nat} {a w : World} (h : Below n a w) {b : Nat} (hb : n ≤ b) (vs : List Value) : ∀ (o : Nat), Below n a (w.setCells b o vs) := by
  induction vs generalizing w with
  | nil => intro o; exact h
  | cons v r ih => intro o; exact ih (h.setCell hb v) (o + 1)
theorem size_setCells (b : Nat) (vs : List Value) : ∀ (o : Nat) (w : World), (w.setCells b o vs).heap.size = w.heap.size := by
  induction vs with
  | nil => intro o w; rfl
  | cons v r ih => intro o w; exact (ih (o + 1) _).trans (by simp [World.setCell])
theorem far_setCells {w : World} {b o : Nat} {vs : List Value} {g i : Nat} (h : g ≠ b) : (w.setCells b o vs).cell? ⟨g, i, none⟩ = w.cell? ⟨g, i, none⟩ :=
  World.cell?_setCells_out b vs o w ⟨g, i, none⟩ (fun e => absurd e h)
theorem zheld_set {w W : World} {V S T : Int} (vs : List Value) (h : W.cell? ⟨w.heap.size, 0, none⟩ = some (.int .i64 V) ∧ W.cell? ⟨w.heap.size, 1, none⟩ = some (.int .i64 S) ∧ W.cell? ⟨w.heap.size, 2, none⟩ = some (.int .i64 T) ∧ W.there (w.heap.size + 1) 0 6 ∧ w.heap.size + 1 < W.heap.size ∧ Below w.heap.size w W) : (W.setCells (w.heap.size + 1) 0 vs).cell? ⟨w.heap.size, 0, none⟩ = some (.int .i64 V) ∧ (W.setCells (w.heap.size + 1) 0 vs).cell? ⟨w.heap.size, 1, none⟩ = some (.int .i64 S) ∧ (W.setCells (w.heap.size + 1) 0 vs).cell? ⟨w.heap.size, 2, none⟩ = some (.int .i64 T) ∧ (W.setCells (w.heap.size + 1) 0 vs).there (w.heap.size + 1) 0 6 ∧ w.heap.size + 1 < (W.setCells (w.heap.size + 1) 0 vs).heap.size ∧ Below w.heap.size w (W.setCells (w.heap.size + 1) 0 vs) := by
  obtain ⟨x0, x1, x2, x3, x4, x5⟩ := h
  exact ⟨(far_setCells (by omega)).trans x0, (far_setCells (by omega)).trans x1, (far_setCells (by omega)).trans x2, World.there_setCells x3 _ _ _, by rw [size_setCells]; exact x4, below_setCells x5 (by omega) _ _⟩

theorem zheld_set6 {w W : World} {V S T : Int} (a b c d e f : Value) (h : W.cell? ⟨w.heap.size, 0, none⟩ = some (.int .i64 V) ∧ W.cell? ⟨w.heap.size, 1, none⟩ = some (.int .i64 S) ∧ W.cell? ⟨w.heap.size, 2, none⟩ = some (.int .i64 T) ∧ W.there (w.heap.size + 1) 0 6 ∧ w.heap.size + 1 < W.heap.size ∧ Below w.heap.size w W) : ((((((W.setCell ⟨w.heap.size + 1, 0, none⟩ a).setCell ⟨w.heap.size + 1, 1, none⟩ b).setCell ⟨w.heap.size + 1, 2, none⟩ c).setCell ⟨w.heap.size + 1, 3, none⟩ d).setCell ⟨w.heap.size + 1, 4, none⟩ e).setCell ⟨w.heap.size + 1, 5, none⟩ f).cell? ⟨w.heap.size, 0, none⟩ = some (.int .i64 V) ∧ ((((((W.setCell ⟨w.heap.size + 1, 0, none⟩ a).setCell ⟨w.heap.size + 1, 1, none⟩ b).setCell ⟨w.heap.size + 1, 2, none⟩ c).setCell ⟨w.heap.size + 1, 3, none⟩ d).setCell ⟨w.heap.size + 1, 4, none⟩ e).setCell ⟨w.heap.size + 1, 5, none⟩ f).cell? ⟨w.heap.size, 1, none⟩ = some (.int .i64 S) ∧ ((((((W.setCell ⟨w.heap.size + 1, 0, none⟩ a).setCell ⟨w.heap.size + 1, 1, none⟩ b).setCell ⟨w.heap.size + 1, 2, none⟩ c).setCell ⟨w.heap.size + 1, 3, none⟩ d).setCell ⟨w.heap.size + 1, 4, none⟩ e).setCell ⟨w.heap.size + 1, 5, none⟩ f).cell? ⟨w.heap.size, 2, none⟩ = some (.int .i64 T) ∧ ((((((W.setCell ⟨w.heap.size + 1, 0, none⟩ a).setCell ⟨w.heap.size + 1, 1, none⟩ b).setCell ⟨w.heap.size + 1, 2, none⟩ c).setCell ⟨w.heap.size + 1, 3, none⟩ d).setCell ⟨w.heap.size + 1, 4, none⟩ e).setCell ⟨w.heap.size + 1, 5, none⟩ f).there (w.heap.size + 1) 0 6 ∧ w.heap.size + 1 < ((((((W.setCell ⟨w.heap.size + 1, 0, none⟩ a).setCell ⟨w.heap.size + 1, 1, none⟩ b).setCell ⟨w.heap.size + 1, 2, none⟩ c).setCell ⟨w.heap.size + 1, 3, none⟩ d).setCell ⟨w.heap.size + 1, 4, none⟩ e).setCell ⟨w.heap.size + 1, 5, none⟩ f).heap.size ∧ Below w.heap.size w ((((((W.setCell ⟨w.heap.size + 1, 0, none⟩ a).setCell ⟨w.heap.size + 1, 1, none⟩ b).setCell ⟨w.heap.size + 1, 2, none⟩ c).setCell ⟨w.heap.size + 1, 3, none⟩ d).setCell ⟨w.heap.size + 1, 4, none⟩ e).setCell ⟨w.heap.size + 1, 5, none⟩ f) :=
  zheld_set [a, b, c, d, e, f] h
/-- What lies there, whatever it is. -/
def zAt (W : World) (b i : Nat) : Value := (W.cell? ⟨b, i, none⟩).getD undef
theorem zAt_there {W : World} {b n i : Nat} (h : W.there b 0 n) (hi : i < n) : W.cell? ⟨b, i, none⟩ = some (zAt W b i) := by
  have := (h i hi).1
  rw [Nat.zero_add] at this
  obtain ⟨u, hu⟩ := Option.isSome_iff_exists.1 this
  unfold zAt; rw [hu]; rfl
theorem zAt_free {W : World} {b n i : Nat} (h : W.there b 0 n) (hi : i < n) : W.frozen? ⟨b, i, none⟩ = false := by
  have := (h i hi).2
  rwa [Nat.zero_add] at this

set_option maxRecDepth 100000 in
set_option maxHeartbeats 4000000 in
theorem sizes_yes (V S T : Int) (h : Rt V S T) (w : World) :
    Calls Try.prog 48 #[vL V S T] w fun e w' => e = .returned (vZ V S T) ∧ Below w.heap.size w w' := by
  have hz := sizes h
  have s1 := h.s1
  have s2 := h.s2
  have v1 := h.v1
  have v2 := h.v2
  have b1 := hz.vn1
  have b2 := hz.vn2
  have b3 := hz.nd1
  have b4 := hz.nd2
  have b5 : 0 ≤ V * (V - 1) := Int.mul_nonneg (by omega) (by omega)
  have b6 : V * (V - 1) ≤ 1000 := by
    have := Int.mul_le_mul_of_nonneg_right v2 (show 0 ≤ V - 1 by omega)
    omega
  have wr1 : IntKind.i64.wrap (S * 7) = S * 7 := IntWalk.i64_in _ (by omega)
  have wr2 : IntKind.i64.wrap (V - 1) = V - 1 := IntWalk.i64_in _ (by omega)
  have wr3 : IntKind.i64.wrap (V * (V - 1)) = V * (V - 1) := IntWalk.i64_in _ (by omega)
  have wr5 : IntKind.i64.wrap (nd V S * 7) = nd V S * 7 := IntWalk.i64_in _ (by omega)
  have tq : (V * (V - 1)).tdiv 2 = pr V := Int.tdiv_eq_ediv_of_nonneg b5
  have wr4 : IntKind.i64.wrap (pr V) = pr V := IntWalk.i64_in _ (by have := hz.pr1; have := hz.pr2; omega)
  have H := Lib.hid h
  have HR := Lib.hid h.yes
  clear hz h
  go_enter Try.func48, Try.ntmps48
  go_wp2_with fail
  refine (right_any _ _ _ _).mono ?_; rintro e w1 ⟨rfl, hb1⟩; rw [HR.out]; obtain ⟨hc1, hf1⟩ := bcellL hb1
  go_wp2_with fail
  have hsz : w.heap.size + 1 < w1.heap.size := by have := hb1.size; simp at this; omega
  have hB : Below w.heap.size w w1 := keepL (((Below.refl _ _).alloc (Nat.le_refl _) _).alloc (by simp) _) hb1
  have y0 : w1.cell? ⟨w.heap.size, 0, none⟩ = some (.int .i64 V) := by simp [*, go_sem]
  have y1 : w1.cell? ⟨w.heap.size, 1, none⟩ = some (.int .i64 S) := by simp [*, go_sem]
  have y2 : w1.cell? ⟨w.heap.size, 2, none⟩ = some (.int .i64 T) := by simp [*, go_sem]
  have y3 : w1.there (w.heap.size + 1) 0 6 := by
    refine there_below hb1 (by simp) (fun j hj => ?_)
    have : j = 0 ∨ j = 1 ∨ j = 2 ∨ j = 3 ∨ j = 4 ∨ j = 5 := by omega
    rcases this with rfl | rfl | rfl | rfl | rfl | rfl <;> exact ⟨by simp [go_sem], by simp [go_sem]⟩
  clear hc1 hf1 hb1
  have HS := Lib.hid (And.intro y0 (And.intro y1 (And.intro y2 (And.intro y3 (And.intro hsz hB)))))
  clear y0 y1 y2 y3 hB
  have hz : ∀ W : World, W.there (w.heap.size + 1) 0 6 → W.cell? ⟨w.heap.size + 1, 0, none⟩ = some (zAt W (w.heap.size + 1) 0) ∧ W.cell? ⟨w.heap.size + 1, 1, none⟩ = some (zAt W (w.heap.size + 1) 1) ∧ W.cell? ⟨w.heap.size + 1, 2, none⟩ = some (zAt W (w.heap.size + 1) 2) ∧ W.cell? ⟨w.heap.size + 1, 3, none⟩ = some (zAt W (w.heap.size + 1) 3) ∧ W.cell? ⟨w.heap.size + 1, 4, none⟩ = some (zAt W (w.heap.size + 1) 4) ∧ W.cell? ⟨w.heap.size + 1, 5, none⟩ = some (zAt W (w.heap.size + 1) 5) :=
    fun W ht => ⟨zAt_there ht (i := 0) (by omega), zAt_there ht (i := 1) (by omega), zAt_there ht (i := 2) (by omega), zAt_there ht (i := 3) (by omega), zAt_there ht (i := 4) (by omega), zAt_there ht (i := 5) (by omega)⟩
  have hzf : ∀ W : World, W.there (w.heap.size + 1) 0 6 → W.frozen? ⟨w.heap.size + 1, 0, none⟩ = false ∧ W.frozen? ⟨w.heap.size + 1, 1, none⟩ = false ∧ W.frozen? ⟨w.heap.size + 1, 2, none⟩ = false ∧ W.frozen? ⟨w.heap.size + 1, 3, none⟩ = false ∧ W.frozen? ⟨w.heap.size + 1, 4, none⟩ = false ∧ W.frozen? ⟨w.heap.size + 1, 5, none⟩ = false :=
    fun W ht => ⟨zAt_free ht (i := 0) (by omega), zAt_free ht (i := 1) (by omega), zAt_free ht (i := 2) (by omega), zAt_free ht (i := 3) (by omega), zAt_free ht (i := 4) (by omega), zAt_free ht (i := 5) (by omega)⟩
  go_region_held3 (fun w' => w'.cell? ⟨w.heap.size, 0, none⟩ = some (.int .i64 V) ∧ w'.cell? ⟨w.heap.size, 1, none⟩ = some (.int .i64 S) ∧ w'.cell? ⟨w.heap.size, 2, none⟩ = some (.int .i64 T) ∧ w'.there (w.heap.size + 1) 0 6 ∧ w.heap.size + 1 < w'.heap.size ∧ Below w.heap.size w w') (first | (with_reducible assumption) | (with_reducible exact zheld_set6 _ _ _ _ _ _ (by assumption)) | (with_reducible exact zheld_later hb (by assumption)) | (with_reducible exact zheld_drew HS.out))
    (first
      | (go_at_call 58; refine (vertexNodes_yes V S T H.out _).mono ?_; rintro e w' ⟨rfl, hb⟩)
      | (go_at_call 50; refine (nodes_yes V S T H.out _).mono ?_; rintro e w' ⟨rfl, hb⟩; have HT := Lib.hid (zheld_later hb (by assumption)).2.2.2.1))
  have hfin := And.right (And.right (And.right (And.right (And.right (by assumption)))))
  have ht := hz _ HT.out
  clear hz hzf
  go_wp2_with fail
  exact bodyPost_ret (v := vZ V S T) (by simp [results, Try.results48, go_sem, ht]) rfl ⟨rfl, hfin⟩
end Go.Proofs.Ytipjbgkfhkidkaa
