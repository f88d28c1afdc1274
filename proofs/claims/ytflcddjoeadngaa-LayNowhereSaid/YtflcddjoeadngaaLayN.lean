/- Contract of Node. Printed by wip/tools/layn.py. -/
import Derived.Test.YtflcddjoeadngaaLayG
namespace Go.Proofs.Ytflcddjoeadngaa
open Go.RowKit

theorem gheld_later {w W w1 : World} {V S T : Int} {n : Nat} (hb : Below W.heap.size W w1) (h : W.cell? ⟨w.heap.size, 0, none⟩ = some (.int .i64 V) ∧ W.cell? ⟨w.heap.size, 1, none⟩ = some (.int .i64 S) ∧ W.cell? ⟨w.heap.size, 2, none⟩ = some (.int .i64 T) ∧ W.there (w.heap.size + 1) 0 n ∧ w.heap.size + 1 < W.heap.size ∧ Below w.heap.size w W) : w1.cell? ⟨w.heap.size, 0, none⟩ = some (.int .i64 V) ∧ w1.cell? ⟨w.heap.size, 1, none⟩ = some (.int .i64 S) ∧ w1.cell? ⟨w.heap.size, 2, none⟩ = some (.int .i64 T) ∧ w1.there (w.heap.size + 1) 0 n ∧ w.heap.size + 1 < w1.heap.size ∧ Below w.heap.size w w1 := by
  obtain ⟨x0, x1, x2, x3, x4, x5⟩ := h
  exact ⟨(hb.cell (p := ⟨w.heap.size, 0, none⟩) (Nat.lt_of_succ_lt x4)).trans x0, (hb.cell (p := ⟨w.heap.size, 1, none⟩) (Nat.lt_of_succ_lt x4)).trans x1, (hb.cell (p := ⟨w.heap.size, 2, none⟩) (Nat.lt_of_succ_lt x4)).trans x2, there_below hb x4 x3, Nat.lt_of_lt_of_le x4 hb.size, keepL x5 hb (Nat.le_of_lt (Nat.lt_of_succ_lt x4))⟩
theorem gheld_drew {w W : World} {V S T : Int} {n : Nat} (h : W.cell? ⟨w.heap.size, 0, none⟩ = some (.int .i64 V) ∧ W.cell? ⟨w.heap.size, 1, none⟩ = some (.int .i64 S) ∧ W.cell? ⟨w.heap.size, 2, none⟩ = some (.int .i64 T) ∧ W.there (w.heap.size + 1) 0 n ∧ w.heap.size + 1 < W.heap.size ∧ Below w.heap.size w W) : W.drew.cell? ⟨w.heap.size, 0, none⟩ = some (.int .i64 V) ∧ W.drew.cell? ⟨w.heap.size, 1, none⟩ = some (.int .i64 S) ∧ W.drew.cell? ⟨w.heap.size, 2, none⟩ = some (.int .i64 T) ∧ W.drew.there (w.heap.size + 1) 0 n ∧ w.heap.size + 1 < W.drew.heap.size ∧ Below w.heap.size w W.drew :=
  ⟨h.1, h.2.1, h.2.2.1, h.2.2.2.1, h.2.2.2.2.1, h.2.2.2.2.2.drew⟩
theorem gheld_set {w W : World} {V S T : Int} {n : Nat} (vs : List Value) (h : W.cell? ⟨w.heap.size, 0, none⟩ = some (.int .i64 V) ∧ W.cell? ⟨w.heap.size, 1, none⟩ = some (.int .i64 S) ∧ W.cell? ⟨w.heap.size, 2, none⟩ = some (.int .i64 T) ∧ W.there (w.heap.size + 1) 0 n ∧ w.heap.size + 1 < W.heap.size ∧ Below w.heap.size w W) : (W.setCells (w.heap.size + 1) 0 vs).cell? ⟨w.heap.size, 0, none⟩ = some (.int .i64 V) ∧ (W.setCells (w.heap.size + 1) 0 vs).cell? ⟨w.heap.size, 1, none⟩ = some (.int .i64 S) ∧ (W.setCells (w.heap.size + 1) 0 vs).cell? ⟨w.heap.size, 2, none⟩ = some (.int .i64 T) ∧ (W.setCells (w.heap.size + 1) 0 vs).there (w.heap.size + 1) 0 n ∧ w.heap.size + 1 < (W.setCells (w.heap.size + 1) 0 vs).heap.size ∧ Below w.heap.size w (W.setCells (w.heap.size + 1) 0 vs) := by
  obtain ⟨x0, x1, x2, x3, x4, x5⟩ := h
  exact ⟨(far_setCells (by omega)).trans x0, (far_setCells (by omega)).trans x1, (far_setCells (by omega)).trans x2, World.there_setCells x3 _ _ _, by rw [size_setCells]; exact x4, below_setCells x5 (by omega) _ _⟩
theorem gheld_set5 {w W : World} {V S T : Int} {n : Nat} (a b c d e : Value) (h : W.cell? ⟨w.heap.size, 0, none⟩ = some (.int .i64 V) ∧ W.cell? ⟨w.heap.size, 1, none⟩ = some (.int .i64 S) ∧ W.cell? ⟨w.heap.size, 2, none⟩ = some (.int .i64 T) ∧ W.there (w.heap.size + 1) 0 n ∧ w.heap.size + 1 < W.heap.size ∧ Below w.heap.size w W) : (((((W.setCell ⟨w.heap.size + 1, 0, none⟩ a).setCell ⟨w.heap.size + 1, 1, none⟩ b).setCell ⟨w.heap.size + 1, 2, none⟩ c).setCell ⟨w.heap.size + 1, 3, none⟩ d).setCell ⟨w.heap.size + 1, 4, none⟩ e).cell? ⟨w.heap.size, 0, none⟩ = some (.int .i64 V) ∧ (((((W.setCell ⟨w.heap.size + 1, 0, none⟩ a).setCell ⟨w.heap.size + 1, 1, none⟩ b).setCell ⟨w.heap.size + 1, 2, none⟩ c).setCell ⟨w.heap.size + 1, 3, none⟩ d).setCell ⟨w.heap.size + 1, 4, none⟩ e).cell? ⟨w.heap.size, 1, none⟩ = some (.int .i64 S) ∧ (((((W.setCell ⟨w.heap.size + 1, 0, none⟩ a).setCell ⟨w.heap.size + 1, 1, none⟩ b).setCell ⟨w.heap.size + 1, 2, none⟩ c).setCell ⟨w.heap.size + 1, 3, none⟩ d).setCell ⟨w.heap.size + 1, 4, none⟩ e).cell? ⟨w.heap.size, 2, none⟩ = some (.int .i64 T) ∧ (((((W.setCell ⟨w.heap.size + 1, 0, none⟩ a).setCell ⟨w.heap.size + 1, 1, none⟩ b).setCell ⟨w.heap.size + 1, 2, none⟩ c).setCell ⟨w.heap.size + 1, 3, none⟩ d).setCell ⟨w.heap.size + 1, 4, none⟩ e).there (w.heap.size + 1) 0 n ∧ w.heap.size + 1 < (((((W.setCell ⟨w.heap.size + 1, 0, none⟩ a).setCell ⟨w.heap.size + 1, 1, none⟩ b).setCell ⟨w.heap.size + 1, 2, none⟩ c).setCell ⟨w.heap.size + 1, 3, none⟩ d).setCell ⟨w.heap.size + 1, 4, none⟩ e).heap.size ∧ Below w.heap.size w (((((W.setCell ⟨w.heap.size + 1, 0, none⟩ a).setCell ⟨w.heap.size + 1, 1, none⟩ b).setCell ⟨w.heap.size + 1, 2, none⟩ c).setCell ⟨w.heap.size + 1, 3, none⟩ d).setCell ⟨w.heap.size + 1, 4, none⟩ e) :=
  gheld_set [a, b, c, d, e] h
theorem gheld_set5d {w W : World} {V S T : Int} {n : Nat} (a b c d e : Value) (h : W.cell? ⟨w.heap.size, 0, none⟩ = some (.int .i64 V) ∧ W.cell? ⟨w.heap.size, 1, none⟩ = some (.int .i64 S) ∧ W.cell? ⟨w.heap.size, 2, none⟩ = some (.int .i64 T) ∧ W.there (w.heap.size + 1) 0 n ∧ w.heap.size + 1 < W.heap.size ∧ Below w.heap.size w W) : (((((W.setCell ⟨w.heap.size + 1, 0, none⟩ a).setCell ⟨w.heap.size + 1, 1, none⟩ b).setCell ⟨w.heap.size + 1, 2, none⟩ c).setCell ⟨w.heap.size + 1, 3, none⟩ d).setCell ⟨w.heap.size + 1, 4, none⟩ e).drew.cell? ⟨w.heap.size, 0, none⟩ = some (.int .i64 V) ∧ (((((W.setCell ⟨w.heap.size + 1, 0, none⟩ a).setCell ⟨w.heap.size + 1, 1, none⟩ b).setCell ⟨w.heap.size + 1, 2, none⟩ c).setCell ⟨w.heap.size + 1, 3, none⟩ d).setCell ⟨w.heap.size + 1, 4, none⟩ e).drew.cell? ⟨w.heap.size, 1, none⟩ = some (.int .i64 S) ∧ (((((W.setCell ⟨w.heap.size + 1, 0, none⟩ a).setCell ⟨w.heap.size + 1, 1, none⟩ b).setCell ⟨w.heap.size + 1, 2, none⟩ c).setCell ⟨w.heap.size + 1, 3, none⟩ d).setCell ⟨w.heap.size + 1, 4, none⟩ e).drew.cell? ⟨w.heap.size, 2, none⟩ = some (.int .i64 T) ∧ (((((W.setCell ⟨w.heap.size + 1, 0, none⟩ a).setCell ⟨w.heap.size + 1, 1, none⟩ b).setCell ⟨w.heap.size + 1, 2, none⟩ c).setCell ⟨w.heap.size + 1, 3, none⟩ d).setCell ⟨w.heap.size + 1, 4, none⟩ e).drew.there (w.heap.size + 1) 0 n ∧ w.heap.size + 1 < (((((W.setCell ⟨w.heap.size + 1, 0, none⟩ a).setCell ⟨w.heap.size + 1, 1, none⟩ b).setCell ⟨w.heap.size + 1, 2, none⟩ c).setCell ⟨w.heap.size + 1, 3, none⟩ d).setCell ⟨w.heap.size + 1, 4, none⟩ e).drew.heap.size ∧ Below w.heap.size w (((((W.setCell ⟨w.heap.size + 1, 0, none⟩ a).setCell ⟨w.heap.size + 1, 1, none⟩ b).setCell ⟨w.heap.size + 1, 2, none⟩ c).setCell ⟨w.heap.size + 1, 3, none⟩ d).setCell ⟨w.heap.size + 1, 4, none⟩ e).drew :=
  gheld_drew (gheld_set5 a b c d e h)

/-- What a node is, as a value. -/
abbrev vT (arc : Bool) (l v s d : Int) : Value := .agg #[.bool arc, .int .i64 l, .int .i64 v, .int .i64 s, .int .i64 d]

theorem node_low (V S T x : Int) (h1 : x < 1) (w : World) :
    Calls Try.prog 16 #[vL V S T, .int .i64 x] w fun e w' => e = .returned (.tuple #[vT false 0 0 0 0, .bool false]) ∧ Below w.heap.size w w' := by
  go_enter Try.func16, Try.ntmps16
  go_wp2_with fail
  exact bodyPost_ret (v := .tuple #[vT false 0 0 0 0, .bool false]) (by simp [results, Try.results16, go_sem]) rfl ⟨rfl, ((Below.refl _ _).alloc (Nat.le_refl _) _).alloc (by simp) _⟩
theorem node_high (V S T x : Int) (h : Rt V S T) (h1 : nd V S < x) (w : World) :
    Calls Try.prog 16 #[vL V S T, .int .i64 x] w fun e w' => e = .returned (.tuple #[vT false 0 0 0 0, .bool false]) ∧ Below w.heap.size w w' := by
  have h2 : 1 ≤ x := by have := (sizes h).nd1; omega
  have H := Lib.hid h
  clear h
  go_enter Try.func16, Try.ntmps16
  go_wp2_with fail
  refine (nodes_yes V S T H.out _).mono ?_; rintro e w1 ⟨rfl, hb1⟩; obtain ⟨hc1, hf1⟩ := bcellL hb1
  have hsz : w.heap.size + 1 < w1.heap.size := by have := hb1.size; simp at this; omega
  have ht : w1.there (w.heap.size + 1) 0 5 := by
    refine there_below hb1 (by simp) (fun j hj => ?_)
    have : j = 0 ∨ j = 1 ∨ j = 2 ∨ j = 3 ∨ j = 4 := by omega
    rcases this with rfl | rfl | rfl | rfl | rfl <;> exact ⟨by simp [go_sem], by simp [go_sem]⟩
  go_wp2_with fail
  exact bodyPost_ret (v := .tuple #[vT false 0 0 0 0, .bool false]) (by simp [results, Try.results16, go_sem, *]) rfl ⟨rfl, below_setCells (keepL (((Below.refl _ _).alloc (Nat.le_refl _) _).alloc (by simp) _) hb1) (b := w.heap.size + 1) (by omega) [.bool false, .int .i64 0, .int .i64 0, .int .i64 0, .int .i64 0] 0⟩

set_option maxHeartbeats 2000000 in
theorem node_vertex (V S T x : Int) (h : Rt V S T) (h1 : 1 ≤ x) (h2 : x - 1 < vn V) (w : World) :
    Calls Try.prog 16 #[vL V S T, .int .i64 x] w fun e w' => e = .returned (.tuple #[vT false ((x - 1) / V) ((x - 1) % V) 0 0, .bool true]) ∧ Below w.heap.size w w' := by
  have h3 : vn V ≤ nd V S := by have := (sizes h).ss1; unfold nd; omega
  have hz := sizes h
  have z1 := hz.vn1
  have z2 := hz.vn2
  have z3 := hz.sn1
  have z4 := hz.sn2
  have z5 := hz.nd2
  have v1 := h.v1
  have v2 := h.v2
  have h5 : 1 ≤ x := by omega
  have h6 : x ≤ nd V S := by omega
  have H := Lib.hid h
  clear h hz
  have d0 : ¬ V = 0 := by omega
  have d1 : 0 ≤ (x - 1) / V := Int.ediv_nonneg (by omega) (by omega)
  have d2 : (x - 1) / V ≤ 560 := by have := Int.ediv_le_self V (show 0 ≤ (x - 1) by omega); omega
  have d3 : 0 ≤ (x - 1) % V := Int.emod_nonneg _ (by omega)
  have d4 : (x - 1) % V < V := Int.emod_lt_of_pos _ (by omega)
  have t1 : (x - 1).tdiv V = (x - 1) / V := Int.tdiv_eq_ediv_of_nonneg (by omega)
  have t2 : (x - 1).tmod V = (x - 1) % V := Int.tmod_eq_emod_of_nonneg (by omega)
  have wq1 : IntKind.i64.wrap ((x - 1) / V) = (x - 1) / V := IntWalk.i64_in _ (by omega)
  have wq2 : IntKind.i64.wrap ((x - 1) % V) = (x - 1) % V := IntWalk.i64_in _ (by omega)
  go_enter Try.func16, Try.ntmps16
  go_wp2_with fail
  refine (nodes_yes V S T H.out _).mono ?_; rintro e w1 ⟨rfl, hb1⟩; obtain ⟨hc1, hf1⟩ := bcellL hb1
  have hs1 : w.heap.size < w1.heap.size := by have := hb1.size; simp at this; omega
  go_wp2_with fail
  refine (vertexNodes_yes V S T H.out _).mono ?_; rintro e w2 ⟨rfl, hb2⟩; obtain ⟨hc2, hf2⟩ := bcellL hb2
  go_wp2_with fail
  have hsz : w.heap.size + 1 < w2.heap.size := by have := hb1.size; have := hb2.size; simp at *; omega
  have hB : Below w.heap.size w w2 := keepL (keepL (((Below.refl _ _).alloc (Nat.le_refl _) _).alloc (by simp) _) hb1) hb2 (by have := hb1.size; simp at this; omega)
  have y0 : w2.cell? ⟨w.heap.size, 0, none⟩ = some (.int .i64 V) := by simp [*, go_sem]
  have y1 : w2.cell? ⟨w.heap.size, 1, none⟩ = some (.int .i64 S) := by simp [*, go_sem]
  have y2 : w2.cell? ⟨w.heap.size, 2, none⟩ = some (.int .i64 T) := by simp [*, go_sem]
  have y3 : w2.there (w.heap.size + 1) 0 5 := by
    refine there_below hb2 (by have := hb1.size; simp at this; omega) (there_below hb1 (by simp) (fun j hj => ?_))
    have : j = 0 ∨ j = 1 ∨ j = 2 ∨ j = 3 ∨ j = 4 := by omega
    rcases this with rfl | rfl | rfl | rfl | rfl <;> exact ⟨by simp [go_sem], by simp [go_sem]⟩
  have HT := Lib.hid y3
  clear hc1 hf1 hb1 hc2 hf2 hb2
  have HS := Lib.hid (And.intro y0 (And.intro y1 (And.intro y2 (And.intro y3 (And.intro hsz hB)))))
  clear y0 y1 y2 hB
  have hz : ∀ W : World, W.there (w.heap.size + 1) 0 5 → W.cell? ⟨w.heap.size + 1, 0, none⟩ = some (zAt W (w.heap.size + 1) 0) ∧ W.cell? ⟨w.heap.size + 1, 1, none⟩ = some (zAt W (w.heap.size + 1) 1) ∧ W.cell? ⟨w.heap.size + 1, 2, none⟩ = some (zAt W (w.heap.size + 1) 2) ∧ W.cell? ⟨w.heap.size + 1, 3, none⟩ = some (zAt W (w.heap.size + 1) 3) ∧ W.cell? ⟨w.heap.size + 1, 4, none⟩ = some (zAt W (w.heap.size + 1) 4) :=
    fun W ht => ⟨zAt_there ht (i := 0) (by omega), zAt_there ht (i := 1) (by omega), zAt_there ht (i := 2) (by omega), zAt_there ht (i := 3) (by omega), zAt_there ht (i := 4) (by omega)⟩
  have hzf : ∀ W : World, W.there (w.heap.size + 1) 0 5 → W.frozen? ⟨w.heap.size + 1, 0, none⟩ = false ∧ W.frozen? ⟨w.heap.size + 1, 1, none⟩ = false ∧ W.frozen? ⟨w.heap.size + 1, 2, none⟩ = false ∧ W.frozen? ⟨w.heap.size + 1, 3, none⟩ = false ∧ W.frozen? ⟨w.heap.size + 1, 4, none⟩ = false :=
    fun W ht => ⟨zAt_free ht (i := 0) (by omega), zAt_free ht (i := 1) (by omega), zAt_free ht (i := 2) (by omega), zAt_free ht (i := 3) (by omega), zAt_free ht (i := 4) (by omega)⟩
  go_region_held3 (fun w' => w'.cell? ⟨w.heap.size, 0, none⟩ = some (.int .i64 V) ∧ w'.cell? ⟨w.heap.size, 1, none⟩ = some (.int .i64 S) ∧ w'.cell? ⟨w.heap.size, 2, none⟩ = some (.int .i64 T) ∧ w'.there (w.heap.size + 1) 0 5 ∧ w.heap.size + 1 < w'.heap.size ∧ Below w.heap.size w w') (first | (with_reducible assumption) | (with_reducible exact gheld_set5 _ _ _ _ _ (by assumption)) | (with_reducible exact gheld_set5d _ _ _ _ _ HS.out) | (with_reducible exact gheld_later hb (by assumption)) | (with_reducible exact gheld_drew HS.out))
    (first
      | fail)
  have hfin := And.right (And.right (And.right (And.right (And.right (by assumption)))))
  have ht := hz _ HT.out
  clear hz hzf
  go_wp2_with fail
  exact bodyPost_ret (v := .tuple #[vT false ((x - 1) / V) ((x - 1) % V) 0 0, .bool true]) (by simp [results, Try.results16, go_sem, ht]) rfl ⟨rfl, hfin⟩

set_option maxHeartbeats 2000000 in
theorem node_arc (V S T x : Int) (h : Rt V S T) (h1 : x ≤ nd V S) (h2 : vn V ≤ x - 1) (w : World) :
    Calls Try.prog 16 #[vL V S T, .int .i64 x] w fun e w' => e = .returned (.tuple #[vT true ((x - 1 - vn V) % sn V / 2) 0 ((x - 1 - vn V) / sn V) ((x - 1 - vn V) % 2), .bool true]) ∧ Below w.heap.size w w' := by
  have hz := sizes h
  have z1 := hz.vn1
  have z2 := hz.vn2
  have z3 := hz.sn1
  have z4 := hz.sn2
  have z5 := hz.nd2
  have v1 := h.v1
  have v2 := h.v2
  have h5 : 1 ≤ x := by have := (sizes h).vn1; omega
  have h6 : x ≤ nd V S := by omega
  have H := Lib.hid h
  clear h hz
  have d0 : ¬ (sn V) = 0 := by omega
  have d1 : 0 ≤ (x - 1 - vn V) / (sn V) := Int.ediv_nonneg (by omega) (by omega)
  have d2 : (x - 1 - vn V) / (sn V) ≤ 560 := by have := Int.ediv_le_self (sn V) (show 0 ≤ (x - 1 - vn V) by omega); omega
  have d3 : 0 ≤ (x - 1 - vn V) % (sn V) := Int.emod_nonneg _ (by omega)
  have d4 : (x - 1 - vn V) % (sn V) < (sn V) := Int.emod_lt_of_pos _ (by omega)
  have t1 : (x - 1 - vn V).tdiv (sn V) = (x - 1 - vn V) / (sn V) := Int.tdiv_eq_ediv_of_nonneg (by omega)
  have t2 : (x - 1 - vn V).tmod (sn V) = (x - 1 - vn V) % (sn V) := Int.tmod_eq_emod_of_nonneg (by omega)
  have wq1 : IntKind.i64.wrap ((x - 1 - vn V) / (sn V)) = (x - 1 - vn V) / (sn V) := IntWalk.i64_in _ (by omega)
  have wq2 : IntKind.i64.wrap ((x - 1 - vn V) % (sn V)) = (x - 1 - vn V) % (sn V) := IntWalk.i64_in _ (by omega)
  have t3 : ((x - 1 - vn V) % sn V).tdiv 2 = (x - 1 - vn V) % sn V / 2 := Int.tdiv_eq_ediv_of_nonneg d3
  have t4 : (x - 1 - vn V).tmod 2 = (x - 1 - vn V) % 2 := Int.tmod_eq_emod_of_nonneg (by omega)
  have wq3 : IntKind.i64.wrap ((x - 1 - vn V) % sn V / 2) = (x - 1 - vn V) % sn V / 2 := IntWalk.i64_in _ (by omega)
  have wq4 : IntKind.i64.wrap ((x - 1 - vn V) % 2) = (x - 1 - vn V) % 2 := IntWalk.i64_in _ (by omega)
  go_enter Try.func16, Try.ntmps16
  go_wp2_with fail
  refine (nodes_yes V S T H.out _).mono ?_; rintro e w1 ⟨rfl, hb1⟩; obtain ⟨hc1, hf1⟩ := bcellL hb1
  have hs1 : w.heap.size < w1.heap.size := by have := hb1.size; simp at this; omega
  go_wp2_with fail
  refine (vertexNodes_yes V S T H.out _).mono ?_; rintro e w2 ⟨rfl, hb2⟩; obtain ⟨hc2, hf2⟩ := bcellL hb2
  go_wp2_with fail
  have hs2 : w.heap.size < w2.heap.size := by have := hb2.size; omega
  refine (vertexNodes_yes V S T H.out _).mono ?_; rintro e w3 ⟨rfl, hb3⟩; obtain ⟨hc3, hf3⟩ := bcellL hb3
  go_wp2_with fail
  have hsz : w.heap.size + 1 < w3.heap.size := by have := hb1.size; have := hb2.size; have := hb3.size; simp at *; omega
  have hB : Below w.heap.size w w3 := keepL (keepL (keepL (((Below.refl _ _).alloc (Nat.le_refl _) _).alloc (by simp) _) hb1) hb2 (by omega)) hb3 (by omega)
  have y0 : w3.cell? ⟨w.heap.size, 0, none⟩ = some (.int .i64 V) := by simp [*, go_sem]
  have y1 : w3.cell? ⟨w.heap.size, 1, none⟩ = some (.int .i64 S) := by simp [*, go_sem]
  have y2 : w3.cell? ⟨w.heap.size, 2, none⟩ = some (.int .i64 T) := by simp [*, go_sem]
  have y3 : w3.there (w.heap.size + 1) 0 5 := by
    refine there_below hb3 (by have := hb1.size; have := hb2.size; simp at *; omega) (there_below hb2 (by have := hb1.size; simp at this; omega) (there_below hb1 (by simp) (fun j hj => ?_)))
    have : j = 0 ∨ j = 1 ∨ j = 2 ∨ j = 3 ∨ j = 4 := by omega
    rcases this with rfl | rfl | rfl | rfl | rfl <;> exact ⟨by simp [go_sem], by simp [go_sem]⟩
  clear hc1 hf1 hb1 hc2 hf2 hb2 hc3 hf3 hb3
  have HS := Lib.hid (And.intro y0 (And.intro y1 (And.intro y2 (And.intro y3 (And.intro hsz hB)))))
  clear y0 y1 y2 hB
  have hz : ∀ W : World, W.there (w.heap.size + 1) 0 5 → W.cell? ⟨w.heap.size + 1, 0, none⟩ = some (zAt W (w.heap.size + 1) 0) ∧ W.cell? ⟨w.heap.size + 1, 1, none⟩ = some (zAt W (w.heap.size + 1) 1) ∧ W.cell? ⟨w.heap.size + 1, 2, none⟩ = some (zAt W (w.heap.size + 1) 2) ∧ W.cell? ⟨w.heap.size + 1, 3, none⟩ = some (zAt W (w.heap.size + 1) 3) ∧ W.cell? ⟨w.heap.size + 1, 4, none⟩ = some (zAt W (w.heap.size + 1) 4) :=
    fun W ht => ⟨zAt_there ht (i := 0) (by omega), zAt_there ht (i := 1) (by omega), zAt_there ht (i := 2) (by omega), zAt_there ht (i := 3) (by omega), zAt_there ht (i := 4) (by omega)⟩
  have hzf : ∀ W : World, W.there (w.heap.size + 1) 0 5 → W.frozen? ⟨w.heap.size + 1, 0, none⟩ = false ∧ W.frozen? ⟨w.heap.size + 1, 1, none⟩ = false ∧ W.frozen? ⟨w.heap.size + 1, 2, none⟩ = false ∧ W.frozen? ⟨w.heap.size + 1, 3, none⟩ = false ∧ W.frozen? ⟨w.heap.size + 1, 4, none⟩ = false :=
    fun W ht => ⟨zAt_free ht (i := 0) (by omega), zAt_free ht (i := 1) (by omega), zAt_free ht (i := 2) (by omega), zAt_free ht (i := 3) (by omega), zAt_free ht (i := 4) (by omega)⟩
  go_region_held3 (fun w' => w'.cell? ⟨w.heap.size, 0, none⟩ = some (.int .i64 V) ∧ w'.cell? ⟨w.heap.size, 1, none⟩ = some (.int .i64 S) ∧ w'.cell? ⟨w.heap.size, 2, none⟩ = some (.int .i64 T) ∧ w'.there (w.heap.size + 1) 0 5 ∧ w.heap.size + 1 < w'.heap.size ∧ Below w.heap.size w w') (first | (with_reducible assumption) | (with_reducible exact gheld_set5 _ _ _ _ _ (by assumption)) | (with_reducible exact gheld_set5d _ _ _ _ _ HS.out) | (with_reducible exact gheld_later hb (by assumption)) | (with_reducible exact gheld_drew HS.out))
    (first
      | (go_at_call 38; refine (slotNodes_yes V S T H.out _).mono ?_; rintro e w' ⟨rfl, hb⟩; have HT := Lib.hid (gheld_later hb (by assumption)).2.2.2.1))
  have hfin := And.right (And.right (And.right (And.right (And.right (by assumption)))))
  have ht := hz _ HT.out
  clear hz hzf
  go_wp2_with fail
  exact bodyPost_ret (v := .tuple #[vT true ((x - 1 - vn V) % sn V / 2) 0 ((x - 1 - vn V) / sn V) ((x - 1 - vn V) % 2), .bool true]) (by simp [results, Try.results16, go_sem, ht]) rfl ⟨rfl, hfin⟩

end Go.Proofs.Ytflcddjoeadngaa
