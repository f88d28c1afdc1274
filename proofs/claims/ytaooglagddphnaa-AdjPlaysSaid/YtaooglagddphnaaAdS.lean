/- What may not be is passed over by a step. Printed by wip/tools/adq.py. -/
import Derived.Test.YtaooglagddphnaaAdQ
namespace Go.Proofs.Ytaooglagddphnaa
open Go.RowKit

set_option maxRecDepth 100000

section
variable {w w0 : World} {base q eb lb p gb cap m n : Nat} {V S T kd s u v l : Int} {f : Nat → Int} {mk : Nat → Nat} {ts : List Tp} {bs : List E1} {qq : Nat → Nat → List Nat}
set_option maxHeartbeats 8000000 in
theorem step_bad12 (h : PM12 w0 w base q eb lb V S T p gb cap m n f mk ts bs qq) (hE : ER V S T f bs) (hx : ((u == v) = true) ∨ ((u == v) = false ∧ u < 0) ∨ ((u == v) = false ∧ 0 ≤ u ∧ V ≤ u) ∨ ((u == v) = false ∧ 0 ≤ u ∧ u < V ∧ v < 0) ∨ ((u == v) = false ∧ 0 ≤ u ∧ u < V ∧ 0 ≤ v ∧ V ≤ v) ∨ ((u == v) = false ∧ 0 ≤ u ∧ u < V ∧ 0 ≤ v ∧ v < V ∧ s < 0) ∨ ((u == v) = false ∧ 0 ≤ u ∧ u < V ∧ 0 ≤ v ∧ v < V ∧ 0 ≤ s ∧ S ≤ s) ∨ ((u == v) = false ∧ 0 ≤ u ∧ u < V ∧ 0 ≤ v ∧ v < V ∧ 0 ≤ s ∧ s < S ∧ l < 0) ∨ ((u == v) = false ∧ 0 ≤ u ∧ u < V ∧ 0 ≤ v ∧ v < V ∧ 0 ≤ s ∧ s < S ∧ 0 ≤ l ∧ lv V ≤ l)) :
    Calls Try.prog 13 #[.pointer (some ⟨q, 0, none⟩), vO12 kd s u v l] w (StD12 w0 base q eb lb V S T p gb cap m n ts bs qq kd s u v l) := by
  have HR := Lib.hid h.ps.ta.hR
  have HX : Hid (SX12 w0 ((w.alloc (.cells #[.int .i64 kd, .int .i64 s, .int .i64 u, .int .i64 v, .int .i64 l] 47)).alloc (.cells #[.int .i64 V, .int .i64 S, .int .i64 T] 23)) base q eb lb w.heap.size (w.heap.size + 1) V S T p gb cap m n f mk ts bs qq kd s u v l) := Lib.hid ⟨(h.alloc _).alloc _, (Blk.new _ _ _).alloc _, new_next _ _ _ _ _⟩
  obtain ⟨y0, y1, y2, y3, y4, y5, y6, y7, y8, y9, y10, y11, y12, y13, y14⟩ := h.ps.pb.cells
  have qlt := h.ps.pb.lt
  clear h
  go_enter Try.func13, Try.ntmps13
  go_wp2_with fail
  clear y0 y1 y2 y3 y4 y5 y6 y7 y8 y9 y10 y11 y12 y13 y14 qlt
  generalize (w.alloc (.cells #[.int .i64 kd, .int .i64 s, .int .i64 u, .int .i64 v, .int .i64 l] 47)).alloc (.cells #[.int .i64 V, .int .i64 S, .int .i64 T] 23) = w1 at HX ⊢
  generalize w.heap.size + 1 = lo at HX ⊢
  generalize w.heap.size = ob at HX ⊢
  have Hd := Lib.hid HX.out.drew
  clear HX
  have HE := Lib.hid hE
  clear hE
  rcases hx with hx | ⟨h0, hx⟩ | ⟨h0, h1, hx⟩ | ⟨h0, h1, h2, hx⟩ | ⟨h0, h1, h2, h3, hx⟩ | ⟨h0, h1, h2, h3, h4, hx⟩ | ⟨h0, h1, h2, h3, h4, h5, hx⟩ | ⟨h0, h1, h2, h3, h4, h5, h6, hx⟩ | ⟨h0, h1, h2, h3, h4, h5, h6, h7, hx⟩
  · as_aux_lemma =>
      have hrule := SQ12.rule ob lo q eb lb p V S T kd s u v l
      obtain ⟨⟨x0, x1, x2, x3, x4⟩, ⟨l0, l1, l2⟩, y0, y1, y2, y3, y4, y5, y6, y7, y8, y9, y10, y11, y12, y13, y14⟩ := SQ12.rule _ _ _ _ _ _ _ _ _ _ _ _ _ _ _ Hd.out.sq
      obtain ⟨olt, llt, qlt⟩ := Hd.out.lt
      refine wp_region_held_drew (S := (fun W => SQ12 W ob lo q eb lb p V S T kd s u v l)) (by kernel_rfl) ?_ (fun hHeld => ?_)
      · exact Hd.out.sq
      refine tkN (i := 0) (v := ?_) rfl ?_ ?_
      rotate_left
      · (intro w hSw; (try dsimp only at hSw); go_simp; try with_reducible rfl)
      try simp only [Act.put, sq1, sq2, sq3, sq4, sq5]
      refine tkN (i := 1) (v := ?_) rfl ?_ ?_
      rotate_left
      · (intro w hSw; (try dsimp only at hSw); go_simp; try with_reducible rfl)
      try simp only [Act.put, sq1, sq2, sq3, sq4, sq5, sq6]
      refine tkN (i := 2) (v := ?_) rfl ?_ ?_
      rotate_left
      · (intro w hSw; (try dsimp only at hSw); go_simp; try with_reducible rfl)
      try simp only [Act.put, sq1, sq2, sq3, sq4, sq5, sq6]
      refine tkN (i := 3) (v := ?_) rfl ?_ ?_
      rotate_left
      · (intro w hSw; (try dsimp only at hSw); go_simp; try with_reducible rfl)
      try simp only [Act.put, sq1, sq2, sq3, sq4, sq5, sq6]
      refine tkN (i := 4) (v := ?_) rfl ?_ ?_
      rotate_left
      · (intro w hSw; (try dsimp only at hSw); go_simp; try with_reducible rfl)
      try simp only [Act.put, sq1, sq2, sq3, sq4, sq5, sq6]
      refine tkN (i := 5) (v := ?_) rfl ?_ ?_
      rotate_left
      · (intro w hSw; (try dsimp only at hSw); go_simp; try with_reducible rfl)
      try simp only [Act.put, sq1, sq2, sq3, sq4, sq5, sq6]
      refine tkF (i := 6) rfl ?_
      try simp only [Act.put, sq1, sq2, sq3, sq4, sq5, sq6]
      refine tkF (i := 7) rfl ?_
      try simp only [Act.put, sq1, sq2, sq3, sq4, sq5, sq6]
      refine tkF (i := 8) rfl ?_
      try simp only [Act.put, sq1, sq2, sq3, sq4, sq5, sq6]
      refine tkN (i := 9) (v := ?_) rfl ?_ ?_
      rotate_left
      · (intro w hSw; (try dsimp only at hSw); go_simp; try with_reducible rfl)
      try simp only [Act.put, sq1, sq2, sq3, sq4, sq5, sq6]
      refine tkN (i := 10) (v := ?_) rfl ?_ ?_
      rotate_left
      · (intro w hSw; (try dsimp only at hSw); go_simp; try with_reducible rfl)
      try simp only [Act.put, sq1, sq2, sq3, sq4, sq5, sq6]
      refine tkF (i := 11) rfl ?_
      try simp only [Act.put, sq1, sq2, sq3, sq4, sq5, sq6]
      refine tkF (i := 12) rfl ?_
      try simp only [Act.put, sq1, sq2, sq3, sq4, sq5, sq6]
      refine tkF (i := 13) rfl ?_
      try simp only [Act.put, sq1, sq2, sq3, sq4, sq5, sq6]
      refine tkF (i := 14) rfl ?_
      try simp only [Act.put, sq1, sq2, sq3, sq4, sq5, sq6]
      refine tkF (i := 15) rfl ?_
      try simp only [Act.put, sq1, sq2, sq3, sq4, sq5, sq6]
      refine tkN (i := 16) (v := ?_) rfl ?_ ?_
      rotate_left
      · (intro w hSw; (try dsimp only at hSw); go_simp; try with_reducible rfl)
      try simp only [Act.put, sq1, sq2, sq3, sq4, sq5, sq6]
      refine tkN (i := 17) (v := ?_) rfl ?_ ?_
      rotate_left
      · (intro w hSw; (try dsimp only at hSw); go_simp; try with_reducible rfl)
      try simp only [Act.put, sq1, sq2, sq3, sq4, sq5, sq6]
      refine tkF (i := 18) rfl ?_
      try simp only [Act.put, sq1, sq2, sq3, sq4, sq5, sq6]
      refine tkF (i := 19) rfl ?_
      try simp only [Act.put, sq1, sq2, sq3, sq4, sq5, sq6]
      refine tkF (i := 20) rfl ?_
      try simp only [Act.put, sq1, sq2, sq3, sq4, sq5, sq6]
      refine tkN (i := 21) (v := ?_) rfl ?_ ?_
      rotate_left
      · (intro w hSw; (try dsimp only at hSw); go_simp; try with_reducible rfl)
      try simp only [Act.put, sq1, sq2, sq3, sq4, sq5, sq6]
      refine tkN (i := 22) (v := ?_) rfl ?_ ?_
      rotate_left
      · (intro w hSw; (try dsimp only at hSw); go_simp; try with_reducible rfl)
      try simp only [Act.put, sq1, sq2, sq3, sq4, sq5, sq6]
      refine tkF (i := 23) rfl ?_
      try simp only [Act.put, sq1, sq2, sq3, sq4, sq5, sq6]
      refine tkF (i := 24) rfl ?_
      try simp only [Act.put, sq1, sq2, sq3, sq4, sq5, sq6]
      refine tkF (i := 25) rfl ?_
      try simp only [Act.put, sq1, sq2, sq3, sq4, sq5, sq6]
      refine tkF (i := 26) rfl ?_
      try simp only [Act.put, sq1, sq2, sq3, sq4, sq5, sq6]
      refine tkF (i := 27) rfl ?_
      try simp only [Act.put, sq1, sq2, sq3, sq4, sq5, sq6]
      refine tkN (i := 28) (v := ?_) rfl ?_ ?_
      rotate_left
      · (intro w hSw; (try dsimp only at hSw); go_simp; try with_reducible rfl)
      try simp only [Act.put, sq1, sq2, sq3, sq4, sq5, sq6]
      refine tkN (i := 29) (v := ?_) rfl ?_ ?_
      rotate_left
      · (intro w hSw; (try dsimp only at hSw); go_simp; try with_reducible rfl)
      try simp only [Act.put, sq1, sq2, sq3, sq4, sq5, sq6]
      refine tkF (i := 30) rfl ?_
      try simp only [Act.put, sq1, sq2, sq3, sq4, sq5, sq6]
      refine tkF (i := 31) rfl ?_
      try simp only [Act.put, sq1, sq2, sq3, sq4, sq5, sq6]
      refine tkF (i := 32) rfl ?_
      try simp only [Act.put, sq1, sq2, sq3, sq4, sq5, sq6]
      refine tkN (i := 33) (v := ?_) rfl ?_ ?_
      rotate_left
      · (intro w hSw; (try dsimp only at hSw); go_simp; try with_reducible rfl)
      try simp only [Act.put, sq1, sq2, sq3, sq4, sq5, sq6]
      refine tkN (i := 34) (v := ?_) rfl ?_ ?_
      rotate_left
      · (intro w hSw; (try dsimp only at hSw); go_simp; try with_reducible rfl)
      try simp only [Act.put, sq1, sq2, sq3, sq4, sq5, sq6]
      refine tkF (i := 35) rfl ?_
      try simp only [Act.put, sq1, sq2, sq3, sq4, sq5, sq6]
      refine tkF (i := 36) rfl ?_
      try simp only [Act.put, sq1, sq2, sq3, sq4, sq5, sq6]
      refine tkF (i := 37) rfl ?_
      try simp only [Act.put, sq1, sq2, sq3, sq4, sq5, sq6]
      refine tkF (i := 38) rfl ?_
      try simp only [Act.put, sq1, sq2, sq3, sq4, sq5, sq6]
      refine tkF (i := 39) rfl ?_
      try simp only [Act.put, sq1, sq2, sq3, sq4, sq5, sq6]
      refine tkN (i := 40) (v := ?_) rfl ?_ ?_
      rotate_left
      · (intro w hSw; (try dsimp only at hSw); go_simp; try with_reducible rfl)
      try simp only [Act.put, sq1, sq2, sq3, sq4, sq5, sq6]
      refine tkN (i := 41) (v := ?_) rfl ?_ ?_
      rotate_left
      · (intro w hSw; (try dsimp only at hSw); go_simp; try with_reducible rfl)
      try simp only [Act.put, sq1, sq2, sq3, sq4, sq5, sq6]
      refine tkF (i := 42) rfl ?_
      try simp only [Act.put, sq1, sq2, sq3, sq4, sq5, sq6]
      refine tkF (i := 43) rfl ?_
      try simp only [Act.put, sq1, sq2, sq3, sq4, sq5, sq6]
      refine tkF (i := 44) rfl ?_
      try simp only [Act.put, sq1, sq2, sq3, sq4, sq5, sq6]
      refine tkN (i := 45) (v := ?_) rfl ?_ ?_
      rotate_left
      · (intro w hSw; (try dsimp only at hSw); go_simp; try with_reducible rfl)
      try simp only [Act.put, sq1, sq2, sq3, sq4, sq5, sq6]
      refine tkN (i := 46) (v := ?_) rfl ?_ ?_
      rotate_left
      · (intro w hSw; (try dsimp only at hSw); go_simp; try with_reducible rfl)
      try simp only [Act.put, sq1, sq2, sq3, sq4, sq5, sq6]
      refine tkF (i := 47) rfl ?_
      try simp only [Act.put, sq1, sq2, sq3, sq4, sq5, sq6]
      refine tkF (i := 48) rfl ?_
      try simp only [Act.put, sq1, sq2, sq3, sq4, sq5, sq6]
      refine tkF (i := 49) rfl ?_
      try simp only [Act.put, sq1, sq2, sq3, sq4, sq5, sq6]
      refine tkF (i := 50) rfl ?_
      try simp only [Act.put, sq1, sq2, sq3, sq4, sq5, sq6]
      refine tkF (i := 51) rfl ?_
      try simp only [Act.put, sq1, sq2, sq3, sq4, sq5, sq6]
      refine tkN (i := 52) (v := ?_) rfl ?_ ?_
      rotate_left
      · (intro w hSw; (try dsimp only at hSw); go_simp; try with_reducible rfl)
      try simp only [Act.put, sq1, sq2, sq3, sq4, sq5, sq6]
      refine wpAnyH_done (by kernel_rfl) ?_ _
      clear hrule x0 x1 x2 x3 x4 l0 l1 l2 y0 y1 y2 y3 y4 y5 y6 y7 y8 y9 y10 y11 y12 y13 y14 olt llt qlt
      go_wp2_with fail
      (try simp only [Exit.inBlock, Exit.then]); refine bodyPost_ret (results_none rfl _ _ _) rfl ?_
      exact Hd.out.stays HE.out
  · as_aux_lemma =>
      have g0 : (u == v) = false := by assumption
      have hrule := SQ12.rule ob lo q eb lb p V S T kd s u v l
      obtain ⟨⟨x0, x1, x2, x3, x4⟩, ⟨l0, l1, l2⟩, y0, y1, y2, y3, y4, y5, y6, y7, y8, y9, y10, y11, y12, y13, y14⟩ := SQ12.rule _ _ _ _ _ _ _ _ _ _ _ _ _ _ _ Hd.out.sq
      obtain ⟨olt, llt, qlt⟩ := Hd.out.lt
      refine wp_region_held_drew (S := (fun W => SQ12 W ob lo q eb lb p V S T kd s u v l)) (by kernel_rfl) ?_ (fun hHeld => ?_)
      · exact Hd.out.sq
      refine tkN (i := 0) (v := ?_) rfl ?_ ?_
      rotate_left
      · (intro w hSw; (try dsimp only at hSw); go_simp; try with_reducible rfl)
      try simp only [Act.put, sq1, sq2, sq3, sq4, sq5]
      refine tkN (i := 1) (v := ?_) rfl ?_ ?_
      rotate_left
      · (intro w hSw; (try dsimp only at hSw); go_simp; try with_reducible rfl)
      try simp only [Act.put, sq1, sq2, sq3, sq4, sq5, sq6]
      refine tkN (i := 2) (v := ?_) rfl ?_ ?_
      rotate_left
      · (intro w hSw; (try dsimp only at hSw); go_simp; try with_reducible rfl)
      try simp only [Act.put, sq1, sq2, sq3, sq4, sq5, sq6]
      refine tkN (i := 3) (v := ?_) rfl ?_ ?_
      rotate_left
      · (intro w hSw; (try dsimp only at hSw); go_simp; try with_reducible rfl)
      try simp only [Act.put, sq1, sq2, sq3, sq4, sq5, sq6]
      refine tkN (i := 4) (v := ?_) rfl ?_ ?_
      rotate_left
      · (intro w hSw; (try dsimp only at hSw); go_simp; try with_reducible rfl)
      try simp only [Act.put, sq1, sq2, sq3, sq4, sq5, sq6]
      refine tkN (i := 5) (v := ?_) rfl ?_ ?_
      rotate_left
      · (intro w hSw; (try dsimp only at hSw); go_simp; try with_reducible rfl)
      try simp only [Act.put, sq1, sq2, sq3, sq4, sq5, sq6]
      refine tkN (i := 6) (v := ?_) rfl ?_ ?_
      rotate_left
      · (intro w hSw; (try dsimp only at hSw); go_simp; try with_reducible rfl)
      try simp only [Act.put, sq1, sq2, sq3, sq4, sq5, sq6]
      refine tkN (i := 7) (v := ?_) rfl ?_ ?_
      rotate_left
      · (intro w hSw; (try dsimp only at hSw); go_simp; try with_reducible rfl)
      try simp only [Act.put, sq1, sq2, sq3, sq4, sq5, sq6]
      refine tkN (i := 8) (v := ?_) rfl ?_ ?_
      rotate_left
      · (intro w hSw; (try dsimp only at hSw); go_simp; try with_reducible rfl)
      try simp only [Act.put, sq1, sq2, sq3, sq4, sq5, sq6]
      refine tkN (i := 9) (v := ?_) rfl ?_ ?_
      rotate_left
      · (intro w hSw; (try dsimp only at hSw); go_simp; try with_reducible rfl)
      try simp only [Act.put, sq1, sq2, sq3, sq4, sq5, sq6]
      refine tkN (i := 10) (v := ?_) rfl ?_ ?_
      rotate_left
      · (intro w hSw; (try dsimp only at hSw); go_simp; try with_reducible rfl)
      try simp only [Act.put, sq1, sq2, sq3, sq4, sq5, sq6]
      refine tkF (i := 11) rfl ?_
      try simp only [Act.put, sq1, sq2, sq3, sq4, sq5, sq6]
      refine tkF (i := 12) rfl ?_
      try simp only [Act.put, sq1, sq2, sq3, sq4, sq5, sq6]
      refine tkF (i := 13) rfl ?_
      try simp only [Act.put, sq1, sq2, sq3, sq4, sq5, sq6]
      refine tkF (i := 14) rfl ?_
      try simp only [Act.put, sq1, sq2, sq3, sq4, sq5, sq6]
      refine tkF (i := 15) rfl ?_
      try simp only [Act.put, sq1, sq2, sq3, sq4, sq5, sq6]
      refine tkN (i := 16) (v := ?_) rfl ?_ ?_
      rotate_left
      · (intro w hSw; (try dsimp only at hSw); go_simp; try with_reducible rfl)
      try simp only [Act.put, sq1, sq2, sq3, sq4, sq5, sq6]
      refine tkN (i := 17) (v := ?_) rfl ?_ ?_
      rotate_left
      · (intro w hSw; (try dsimp only at hSw); go_simp; try with_reducible rfl)
      try simp only [Act.put, sq1, sq2, sq3, sq4, sq5, sq6]
      refine tkF (i := 18) rfl ?_
      try simp only [Act.put, sq1, sq2, sq3, sq4, sq5, sq6]
      refine tkF (i := 19) rfl ?_
      try simp only [Act.put, sq1, sq2, sq3, sq4, sq5, sq6]
      refine tkF (i := 20) rfl ?_
      try simp only [Act.put, sq1, sq2, sq3, sq4, sq5, sq6]
      refine tkN (i := 21) (v := ?_) rfl ?_ ?_
      rotate_left
      · (intro w hSw; (try dsimp only at hSw); go_simp; try with_reducible rfl)
      try simp only [Act.put, sq1, sq2, sq3, sq4, sq5, sq6]
      refine tkN (i := 22) (v := ?_) rfl ?_ ?_
      rotate_left
      · (intro w hSw; (try dsimp only at hSw); go_simp; try with_reducible rfl)
      try simp only [Act.put, sq1, sq2, sq3, sq4, sq5, sq6]
      refine tkF (i := 23) rfl ?_
      try simp only [Act.put, sq1, sq2, sq3, sq4, sq5, sq6]
      refine tkF (i := 24) rfl ?_
      try simp only [Act.put, sq1, sq2, sq3, sq4, sq5, sq6]
      refine tkF (i := 25) rfl ?_
      try simp only [Act.put, sq1, sq2, sq3, sq4, sq5, sq6]
      refine tkF (i := 26) rfl ?_
      try simp only [Act.put, sq1, sq2, sq3, sq4, sq5, sq6]
      refine tkF (i := 27) rfl ?_
      try simp only [Act.put, sq1, sq2, sq3, sq4, sq5, sq6]
      refine tkN (i := 28) (v := ?_) rfl ?_ ?_
      rotate_left
      · (intro w hSw; (try dsimp only at hSw); go_simp; try with_reducible rfl)
      try simp only [Act.put, sq1, sq2, sq3, sq4, sq5, sq6]
      refine tkN (i := 29) (v := ?_) rfl ?_ ?_
      rotate_left
      · (intro w hSw; (try dsimp only at hSw); go_simp; try with_reducible rfl)
      try simp only [Act.put, sq1, sq2, sq3, sq4, sq5, sq6]
      refine tkF (i := 30) rfl ?_
      try simp only [Act.put, sq1, sq2, sq3, sq4, sq5, sq6]
      refine tkF (i := 31) rfl ?_
      try simp only [Act.put, sq1, sq2, sq3, sq4, sq5, sq6]
      refine tkF (i := 32) rfl ?_
      try simp only [Act.put, sq1, sq2, sq3, sq4, sq5, sq6]
      refine tkN (i := 33) (v := ?_) rfl ?_ ?_
      rotate_left
      · (intro w hSw; (try dsimp only at hSw); go_simp; try with_reducible rfl)
      try simp only [Act.put, sq1, sq2, sq3, sq4, sq5, sq6]
      refine tkN (i := 34) (v := ?_) rfl ?_ ?_
      rotate_left
      · (intro w hSw; (try dsimp only at hSw); go_simp; try with_reducible rfl)
      try simp only [Act.put, sq1, sq2, sq3, sq4, sq5, sq6]
      refine tkF (i := 35) rfl ?_
      try simp only [Act.put, sq1, sq2, sq3, sq4, sq5, sq6]
      refine tkF (i := 36) rfl ?_
      try simp only [Act.put, sq1, sq2, sq3, sq4, sq5, sq6]
      refine tkF (i := 37) rfl ?_
      try simp only [Act.put, sq1, sq2, sq3, sq4, sq5, sq6]
      refine tkF (i := 38) rfl ?_
      try simp only [Act.put, sq1, sq2, sq3, sq4, sq5, sq6]
      refine tkF (i := 39) rfl ?_
      try simp only [Act.put, sq1, sq2, sq3, sq4, sq5, sq6]
      refine tkN (i := 40) (v := ?_) rfl ?_ ?_
      rotate_left
      · (intro w hSw; (try dsimp only at hSw); go_simp; try with_reducible rfl)
      try simp only [Act.put, sq1, sq2, sq3, sq4, sq5, sq6]
      refine tkN (i := 41) (v := ?_) rfl ?_ ?_
      rotate_left
      · (intro w hSw; (try dsimp only at hSw); go_simp; try with_reducible rfl)
      try simp only [Act.put, sq1, sq2, sq3, sq4, sq5, sq6]
      refine tkF (i := 42) rfl ?_
      try simp only [Act.put, sq1, sq2, sq3, sq4, sq5, sq6]
      refine tkF (i := 43) rfl ?_
      try simp only [Act.put, sq1, sq2, sq3, sq4, sq5, sq6]
      refine tkF (i := 44) rfl ?_
      try simp only [Act.put, sq1, sq2, sq3, sq4, sq5, sq6]
      refine tkN (i := 45) (v := ?_) rfl ?_ ?_
      rotate_left
      · (intro w hSw; (try dsimp only at hSw); go_simp; try with_reducible rfl)
      try simp only [Act.put, sq1, sq2, sq3, sq4, sq5, sq6]
      refine tkN (i := 46) (v := ?_) rfl ?_ ?_
      rotate_left
      · (intro w hSw; (try dsimp only at hSw); go_simp; try with_reducible rfl)
      try simp only [Act.put, sq1, sq2, sq3, sq4, sq5, sq6]
      refine tkF (i := 47) rfl ?_
      try simp only [Act.put, sq1, sq2, sq3, sq4, sq5, sq6]
      refine tkF (i := 48) rfl ?_
      try simp only [Act.put, sq1, sq2, sq3, sq4, sq5, sq6]
      refine tkF (i := 49) rfl ?_
      try simp only [Act.put, sq1, sq2, sq3, sq4, sq5, sq6]
      refine tkF (i := 50) rfl ?_
      try simp only [Act.put, sq1, sq2, sq3, sq4, sq5, sq6]
      refine tkF (i := 51) rfl ?_
      try simp only [Act.put, sq1, sq2, sq3, sq4, sq5, sq6]
      refine tkN (i := 52) (v := ?_) rfl ?_ ?_
      rotate_left
      · (intro w hSw; (try dsimp only at hSw); go_simp; try with_reducible rfl)
      try simp only [Act.put, sq1, sq2, sq3, sq4, sq5, sq6]
      refine wpAnyH_done (by kernel_rfl) ?_ _
      clear hrule x0 x1 x2 x3 x4 l0 l1 l2 y0 y1 y2 y3 y4 y5 y6 y7 y8 y9 y10 y11 y12 y13 y14 olt llt qlt
      go_wp2_with fail
      (try simp only [Exit.inBlock, Exit.then]); refine bodyPost_ret (results_none rfl _ _ _) rfl ?_
      exact Hd.out.stays HE.out
  · as_aux_lemma =>
      have g0 : (u == v) = false := by assumption
      have g1 : ¬ u < 0 := by omega
      have gd1 : decide (u < 0) = false := decide_eq_false g1
      clear h1
      have hrule := SQ12.rule ob lo q eb lb p V S T kd s u v l
      obtain ⟨⟨x0, x1, x2, x3, x4⟩, ⟨l0, l1, l2⟩, y0, y1, y2, y3, y4, y5, y6, y7, y8, y9, y10, y11, y12, y13, y14⟩ := SQ12.rule _ _ _ _ _ _ _ _ _ _ _ _ _ _ _ Hd.out.sq
      obtain ⟨olt, llt, qlt⟩ := Hd.out.lt
      refine wp_region_held_drew (S := (fun W => SQ12 W ob lo q eb lb p V S T kd s u v l)) (by kernel_rfl) ?_ (fun hHeld => ?_)
      · exact Hd.out.sq
      refine tkN (i := 0) (v := ?_) rfl ?_ ?_
      rotate_left
      · (intro w hSw; (try dsimp only at hSw); go_simp; try with_reducible rfl)
      try simp only [Act.put, sq1, sq2, sq3, sq4, sq5]
      refine tkN (i := 1) (v := ?_) rfl ?_ ?_
      rotate_left
      · (intro w hSw; (try dsimp only at hSw); go_simp; try with_reducible rfl)
      try simp only [Act.put, sq1, sq2, sq3, sq4, sq5, sq6]
      refine tkN (i := 2) (v := ?_) rfl ?_ ?_
      rotate_left
      · (intro w hSw; (try dsimp only at hSw); go_simp; try with_reducible rfl)
      try simp only [Act.put, sq1, sq2, sq3, sq4, sq5, sq6]
      refine tkN (i := 3) (v := ?_) rfl ?_ ?_
      rotate_left
      · (intro w hSw; (try dsimp only at hSw); go_simp; try with_reducible rfl)
      try simp only [Act.put, sq1, sq2, sq3, sq4, sq5, sq6]
      refine tkN (i := 4) (v := ?_) rfl ?_ ?_
      rotate_left
      · (intro w hSw; (try dsimp only at hSw); go_simp; try with_reducible rfl)
      try simp only [Act.put, sq1, sq2, sq3, sq4, sq5, sq6]
      refine tkN (i := 5) (v := ?_) rfl ?_ ?_
      rotate_left
      · (intro w hSw; (try dsimp only at hSw); go_simp; try with_reducible rfl)
      try simp only [Act.put, sq1, sq2, sq3, sq4, sq5, sq6]
      refine tkN (i := 6) (v := ?_) rfl ?_ ?_
      rotate_left
      · (intro w hSw; (try dsimp only at hSw); go_simp; try with_reducible rfl)
      try simp only [Act.put, sq1, sq2, sq3, sq4, sq5, sq6]
      refine tkN (i := 7) (v := ?_) rfl ?_ ?_
      rotate_left
      · (intro w hSw; (try dsimp only at hSw); go_simp; try with_reducible rfl)
      try simp only [Act.put, sq1, sq2, sq3, sq4, sq5, sq6]
      refine tkN (i := 8) (v := ?_) rfl ?_ ?_
      rotate_left
      · (intro w hSw; (try dsimp only at hSw); go_simp; try with_reducible rfl)
      try simp only [Act.put, sq1, sq2, sq3, sq4, sq5, sq6]
      refine tkN (i := 9) (v := ?_) rfl ?_ ?_
      rotate_left
      · (intro w hSw; (try dsimp only at hSw); go_simp; try with_reducible rfl)
      try simp only [Act.put, sq1, sq2, sq3, sq4, sq5, sq6]
      refine tkN (i := 10) (v := ?_) rfl ?_ ?_
      rotate_left
      · (intro w hSw; (try dsimp only at hSw); go_simp; try with_reducible rfl)
      try simp only [Act.put, sq1, sq2, sq3, sq4, sq5, sq6]
      refine tkN (i := 11) (v := ?_) rfl ?_ ?_
      rotate_left
      · (intro w hSw; (try dsimp only at hSw); go_simp; try with_reducible rfl)
      try simp only [Act.put, sq1, sq2, sq3, sq4, sq5, sq6]
      refine tkN (i := 12) (v := ?_) rfl ?_ ?_
      rotate_left
      · (intro w hSw; (try dsimp only at hSw); go_simp; try with_reducible rfl)
      try simp only [Act.put, sq1, sq2, sq3, sq4, sq5, sq6]
      refine tkN (i := 13) (v := ?_) rfl ?_ ?_
      rotate_left
      · (intro w hSw; (try dsimp only at hSw); go_simp; try with_reducible rfl)
      try simp only [Act.put, sq1, sq2, sq3, sq4, sq5, sq6]
      refine tkN (i := 14) (v := ?_) rfl ?_ ?_
      rotate_left
      · (intro w hSw; (try dsimp only at hSw); go_simp; try with_reducible rfl)
      try simp only [Act.put, sq1, sq2, sq3, sq4, sq5, sq6]
      refine tkN (i := 15) (v := ?_) rfl ?_ ?_
      rotate_left
      · (intro w hSw; (try dsimp only at hSw); go_simp; try with_reducible rfl)
      try simp only [Act.put, sq1, sq2, sq3, sq4, sq5, sq6]
      refine tkN (i := 16) (v := ?_) rfl ?_ ?_
      rotate_left
      · (intro w hSw; (try dsimp only at hSw); go_simp; try with_reducible rfl)
      try simp only [Act.put, sq1, sq2, sq3, sq4, sq5, sq6]
      refine tkN (i := 17) (v := ?_) rfl ?_ ?_
      rotate_left
      · (intro w hSw; (try dsimp only at hSw); go_simp; try with_reducible rfl)
      try simp only [Act.put, sq1, sq2, sq3, sq4, sq5, sq6]
      refine tkF (i := 18) rfl ?_
      try simp only [Act.put, sq1, sq2, sq3, sq4, sq5, sq6]
      refine tkF (i := 19) rfl ?_
      try simp only [Act.put, sq1, sq2, sq3, sq4, sq5, sq6]
      refine tkF (i := 20) rfl ?_
      try simp only [Act.put, sq1, sq2, sq3, sq4, sq5, sq6]
      refine tkN (i := 21) (v := ?_) rfl ?_ ?_
      rotate_left
      · (intro w hSw; (try dsimp only at hSw); go_simp; try with_reducible rfl)
      try simp only [Act.put, sq1, sq2, sq3, sq4, sq5, sq6]
      refine tkN (i := 22) (v := ?_) rfl ?_ ?_
      rotate_left
      · (intro w hSw; (try dsimp only at hSw); go_simp; try with_reducible rfl)
      try simp only [Act.put, sq1, sq2, sq3, sq4, sq5, sq6]
      refine tkF (i := 23) rfl ?_
      try simp only [Act.put, sq1, sq2, sq3, sq4, sq5, sq6]
      refine tkF (i := 24) rfl ?_
      try simp only [Act.put, sq1, sq2, sq3, sq4, sq5, sq6]
      refine tkF (i := 25) rfl ?_
      try simp only [Act.put, sq1, sq2, sq3, sq4, sq5, sq6]
      refine tkF (i := 26) rfl ?_
      try simp only [Act.put, sq1, sq2, sq3, sq4, sq5, sq6]
      refine tkF (i := 27) rfl ?_
      try simp only [Act.put, sq1, sq2, sq3, sq4, sq5, sq6]
      refine tkN (i := 28) (v := ?_) rfl ?_ ?_
      rotate_left
      · (intro w hSw; (try dsimp only at hSw); go_simp; try with_reducible rfl)
      try simp only [Act.put, sq1, sq2, sq3, sq4, sq5, sq6]
      refine tkN (i := 29) (v := ?_) rfl ?_ ?_
      rotate_left
      · (intro w hSw; (try dsimp only at hSw); go_simp; try with_reducible rfl)
      try simp only [Act.put, sq1, sq2, sq3, sq4, sq5, sq6]
      refine tkF (i := 30) rfl ?_
      try simp only [Act.put, sq1, sq2, sq3, sq4, sq5, sq6]
      refine tkF (i := 31) rfl ?_
      try simp only [Act.put, sq1, sq2, sq3, sq4, sq5, sq6]
      refine tkF (i := 32) rfl ?_
      try simp only [Act.put, sq1, sq2, sq3, sq4, sq5, sq6]
      refine tkN (i := 33) (v := ?_) rfl ?_ ?_
      rotate_left
      · (intro w hSw; (try dsimp only at hSw); go_simp; try with_reducible rfl)
      try simp only [Act.put, sq1, sq2, sq3, sq4, sq5, sq6]
      refine tkN (i := 34) (v := ?_) rfl ?_ ?_
      rotate_left
      · (intro w hSw; (try dsimp only at hSw); go_simp; try with_reducible rfl)
      try simp only [Act.put, sq1, sq2, sq3, sq4, sq5, sq6]
      refine tkF (i := 35) rfl ?_
      try simp only [Act.put, sq1, sq2, sq3, sq4, sq5, sq6]
      refine tkF (i := 36) rfl ?_
      try simp only [Act.put, sq1, sq2, sq3, sq4, sq5, sq6]
      refine tkF (i := 37) rfl ?_
      try simp only [Act.put, sq1, sq2, sq3, sq4, sq5, sq6]
      refine tkF (i := 38) rfl ?_
      try simp only [Act.put, sq1, sq2, sq3, sq4, sq5, sq6]
      refine tkF (i := 39) rfl ?_
      try simp only [Act.put, sq1, sq2, sq3, sq4, sq5, sq6]
      refine tkN (i := 40) (v := ?_) rfl ?_ ?_
      rotate_left
      · (intro w hSw; (try dsimp only at hSw); go_simp; try with_reducible rfl)
      try simp only [Act.put, sq1, sq2, sq3, sq4, sq5, sq6]
      refine tkN (i := 41) (v := ?_) rfl ?_ ?_
      rotate_left
      · (intro w hSw; (try dsimp only at hSw); go_simp; try with_reducible rfl)
      try simp only [Act.put, sq1, sq2, sq3, sq4, sq5, sq6]
      refine tkF (i := 42) rfl ?_
      try simp only [Act.put, sq1, sq2, sq3, sq4, sq5, sq6]
      refine tkF (i := 43) rfl ?_
      try simp only [Act.put, sq1, sq2, sq3, sq4, sq5, sq6]
      refine tkF (i := 44) rfl ?_
      try simp only [Act.put, sq1, sq2, sq3, sq4, sq5, sq6]
      refine tkN (i := 45) (v := ?_) rfl ?_ ?_
      rotate_left
      · (intro w hSw; (try dsimp only at hSw); go_simp; try with_reducible rfl)
      try simp only [Act.put, sq1, sq2, sq3, sq4, sq5, sq6]
      refine tkN (i := 46) (v := ?_) rfl ?_ ?_
      rotate_left
      · (intro w hSw; (try dsimp only at hSw); go_simp; try with_reducible rfl)
      try simp only [Act.put, sq1, sq2, sq3, sq4, sq5, sq6]
      refine tkF (i := 47) rfl ?_
      try simp only [Act.put, sq1, sq2, sq3, sq4, sq5, sq6]
      refine tkF (i := 48) rfl ?_
      try simp only [Act.put, sq1, sq2, sq3, sq4, sq5, sq6]
      refine tkF (i := 49) rfl ?_
      try simp only [Act.put, sq1, sq2, sq3, sq4, sq5, sq6]
      refine tkF (i := 50) rfl ?_
      try simp only [Act.put, sq1, sq2, sq3, sq4, sq5, sq6]
      refine tkF (i := 51) rfl ?_
      try simp only [Act.put, sq1, sq2, sq3, sq4, sq5, sq6]
      refine tkN (i := 52) (v := ?_) rfl ?_ ?_
      rotate_left
      · (intro w hSw; (try dsimp only at hSw); go_simp; try with_reducible rfl)
      try simp only [Act.put, sq1, sq2, sq3, sq4, sq5, sq6]
      refine wpAnyH_done (by kernel_rfl) ?_ _
      clear hrule x0 x1 x2 x3 x4 l0 l1 l2 y0 y1 y2 y3 y4 y5 y6 y7 y8 y9 y10 y11 y12 y13 y14 olt llt qlt
      go_wp2_with fail
      (try simp only [Exit.inBlock, Exit.then]); refine bodyPost_ret (results_none rfl _ _ _) rfl ?_
      exact Hd.out.stays HE.out
  · as_aux_lemma =>
      have g0 : (u == v) = false := by assumption
      have g1 : ¬ u < 0 := by omega
      have gd1 : decide (u < 0) = false := decide_eq_false g1
      have g2 : ¬ V ≤ u := by omega
      have gd2 : decide (V ≤ u) = false := decide_eq_false g2
      clear h1 h2
      have hrule := SQ12.rule ob lo q eb lb p V S T kd s u v l
      obtain ⟨⟨x0, x1, x2, x3, x4⟩, ⟨l0, l1, l2⟩, y0, y1, y2, y3, y4, y5, y6, y7, y8, y9, y10, y11, y12, y13, y14⟩ := SQ12.rule _ _ _ _ _ _ _ _ _ _ _ _ _ _ _ Hd.out.sq
      obtain ⟨olt, llt, qlt⟩ := Hd.out.lt
      refine wp_region_held_drew (S := (fun W => SQ12 W ob lo q eb lb p V S T kd s u v l)) (by kernel_rfl) ?_ (fun hHeld => ?_)
      · exact Hd.out.sq
      refine tkN (i := 0) (v := ?_) rfl ?_ ?_
      rotate_left
      · (intro w hSw; (try dsimp only at hSw); go_simp; try with_reducible rfl)
      try simp only [Act.put, sq1, sq2, sq3, sq4, sq5]
      refine tkN (i := 1) (v := ?_) rfl ?_ ?_
      rotate_left
      · (intro w hSw; (try dsimp only at hSw); go_simp; try with_reducible rfl)
      try simp only [Act.put, sq1, sq2, sq3, sq4, sq5, sq6]
      refine tkN (i := 2) (v := ?_) rfl ?_ ?_
      rotate_left
      · (intro w hSw; (try dsimp only at hSw); go_simp; try with_reducible rfl)
      try simp only [Act.put, sq1, sq2, sq3, sq4, sq5, sq6]
      refine tkN (i := 3) (v := ?_) rfl ?_ ?_
      rotate_left
      · (intro w hSw; (try dsimp only at hSw); go_simp; try with_reducible rfl)
      try simp only [Act.put, sq1, sq2, sq3, sq4, sq5, sq6]
      refine tkN (i := 4) (v := ?_) rfl ?_ ?_
      rotate_left
      · (intro w hSw; (try dsimp only at hSw); go_simp; try with_reducible rfl)
      try simp only [Act.put, sq1, sq2, sq3, sq4, sq5, sq6]
      refine tkN (i := 5) (v := ?_) rfl ?_ ?_
      rotate_left
      · (intro w hSw; (try dsimp only at hSw); go_simp; try with_reducible rfl)
      try simp only [Act.put, sq1, sq2, sq3, sq4, sq5, sq6]
      refine tkN (i := 6) (v := ?_) rfl ?_ ?_
      rotate_left
      · (intro w hSw; (try dsimp only at hSw); go_simp; try with_reducible rfl)
      try simp only [Act.put, sq1, sq2, sq3, sq4, sq5, sq6]
      refine tkN (i := 7) (v := ?_) rfl ?_ ?_
      rotate_left
      · (intro w hSw; (try dsimp only at hSw); go_simp; try with_reducible rfl)
      try simp only [Act.put, sq1, sq2, sq3, sq4, sq5, sq6]
      refine tkN (i := 8) (v := ?_) rfl ?_ ?_
      rotate_left
      · (intro w hSw; (try dsimp only at hSw); go_simp; try with_reducible rfl)
      try simp only [Act.put, sq1, sq2, sq3, sq4, sq5, sq6]
      refine tkN (i := 9) (v := ?_) rfl ?_ ?_
      rotate_left
      · (intro w hSw; (try dsimp only at hSw); go_simp; try with_reducible rfl)
      try simp only [Act.put, sq1, sq2, sq3, sq4, sq5, sq6]
      refine tkN (i := 10) (v := ?_) rfl ?_ ?_
      rotate_left
      · (intro w hSw; (try dsimp only at hSw); go_simp; try with_reducible rfl)
      try simp only [Act.put, sq1, sq2, sq3, sq4, sq5, sq6]
      refine tkN (i := 11) (v := ?_) rfl ?_ ?_
      rotate_left
      · (intro w hSw; (try dsimp only at hSw); go_simp; try with_reducible rfl)
      try simp only [Act.put, sq1, sq2, sq3, sq4, sq5, sq6]
      refine tkN (i := 12) (v := ?_) rfl ?_ ?_
      rotate_left
      · (intro w hSw; (try dsimp only at hSw); go_simp; try with_reducible rfl)
      try simp only [Act.put, sq1, sq2, sq3, sq4, sq5, sq6]
      refine tkN (i := 13) (v := ?_) rfl ?_ ?_
      rotate_left
      · (intro w hSw; (try dsimp only at hSw); go_simp; try with_reducible rfl)
      try simp only [Act.put, sq1, sq2, sq3, sq4, sq5, sq6]
      refine tkN (i := 14) (v := ?_) rfl ?_ ?_
      rotate_left
      · (intro w hSw; (try dsimp only at hSw); go_simp; try with_reducible rfl)
      try simp only [Act.put, sq1, sq2, sq3, sq4, sq5, sq6]
      refine tkN (i := 15) (v := ?_) rfl ?_ ?_
      rotate_left
      · (intro w hSw; (try dsimp only at hSw); go_simp; try with_reducible rfl)
      try simp only [Act.put, sq1, sq2, sq3, sq4, sq5, sq6]
      refine tkN (i := 16) (v := ?_) rfl ?_ ?_
      rotate_left
      · (intro w hSw; (try dsimp only at hSw); go_simp; try with_reducible rfl)
      try simp only [Act.put, sq1, sq2, sq3, sq4, sq5, sq6]
      refine tkN (i := 17) (v := ?_) rfl ?_ ?_
      rotate_left
      · (intro w hSw; (try dsimp only at hSw); go_simp; try with_reducible rfl)
      try simp only [Act.put, sq1, sq2, sq3, sq4, sq5, sq6]
      refine tkN (i := 18) (v := ?_) rfl ?_ ?_
      rotate_left
      · (intro w hSw; (try dsimp only at hSw); go_simp; try with_reducible rfl)
      try simp only [Act.put, sq1, sq2, sq3, sq4, sq5, sq6]
      refine tkN (i := 19) (v := ?_) rfl ?_ ?_
      rotate_left
      · (intro w hSw; (try dsimp only at hSw); go_simp; try with_reducible rfl)
      try simp only [Act.put, sq1, sq2, sq3, sq4, sq5, sq6]
      refine tkN (i := 20) (v := ?_) rfl ?_ ?_
      rotate_left
      · (intro w hSw; (try dsimp only at hSw); go_simp; try with_reducible rfl)
      try simp only [Act.put, sq1, sq2, sq3, sq4, sq5, sq6]
      refine tkN (i := 21) (v := ?_) rfl ?_ ?_
      rotate_left
      · (intro w hSw; (try dsimp only at hSw); go_simp; try with_reducible rfl)
      try simp only [Act.put, sq1, sq2, sq3, sq4, sq5, sq6]
      refine tkN (i := 22) (v := ?_) rfl ?_ ?_
      rotate_left
      · (intro w hSw; (try dsimp only at hSw); go_simp; try with_reducible rfl)
      try simp only [Act.put, sq1, sq2, sq3, sq4, sq5, sq6]
      refine tkF (i := 23) rfl ?_
      try simp only [Act.put, sq1, sq2, sq3, sq4, sq5, sq6]
      refine tkF (i := 24) rfl ?_
      try simp only [Act.put, sq1, sq2, sq3, sq4, sq5, sq6]
      refine tkF (i := 25) rfl ?_
      try simp only [Act.put, sq1, sq2, sq3, sq4, sq5, sq6]
      refine tkF (i := 26) rfl ?_
      try simp only [Act.put, sq1, sq2, sq3, sq4, sq5, sq6]
      refine tkF (i := 27) rfl ?_
      try simp only [Act.put, sq1, sq2, sq3, sq4, sq5, sq6]
      refine tkN (i := 28) (v := ?_) rfl ?_ ?_
      rotate_left
      · (intro w hSw; (try dsimp only at hSw); go_simp; try with_reducible rfl)
      try simp only [Act.put, sq1, sq2, sq3, sq4, sq5, sq6]
      refine tkN (i := 29) (v := ?_) rfl ?_ ?_
      rotate_left
      · (intro w hSw; (try dsimp only at hSw); go_simp; try with_reducible rfl)
      try simp only [Act.put, sq1, sq2, sq3, sq4, sq5, sq6]
      refine tkF (i := 30) rfl ?_
      try simp only [Act.put, sq1, sq2, sq3, sq4, sq5, sq6]
      refine tkF (i := 31) rfl ?_
      try simp only [Act.put, sq1, sq2, sq3, sq4, sq5, sq6]
      refine tkF (i := 32) rfl ?_
      try simp only [Act.put, sq1, sq2, sq3, sq4, sq5, sq6]
      refine tkN (i := 33) (v := ?_) rfl ?_ ?_
      rotate_left
      · (intro w hSw; (try dsimp only at hSw); go_simp; try with_reducible rfl)
      try simp only [Act.put, sq1, sq2, sq3, sq4, sq5, sq6]
      refine tkN (i := 34) (v := ?_) rfl ?_ ?_
      rotate_left
      · (intro w hSw; (try dsimp only at hSw); go_simp; try with_reducible rfl)
      try simp only [Act.put, sq1, sq2, sq3, sq4, sq5, sq6]
      refine tkF (i := 35) rfl ?_
      try simp only [Act.put, sq1, sq2, sq3, sq4, sq5, sq6]
      refine tkF (i := 36) rfl ?_
      try simp only [Act.put, sq1, sq2, sq3, sq4, sq5, sq6]
      refine tkF (i := 37) rfl ?_
      try simp only [Act.put, sq1, sq2, sq3, sq4, sq5, sq6]
      refine tkF (i := 38) rfl ?_
      try simp only [Act.put, sq1, sq2, sq3, sq4, sq5, sq6]
      refine tkF (i := 39) rfl ?_
      try simp only [Act.put, sq1, sq2, sq3, sq4, sq5, sq6]
      refine tkN (i := 40) (v := ?_) rfl ?_ ?_
      rotate_left
      · (intro w hSw; (try dsimp only at hSw); go_simp; try with_reducible rfl)
      try simp only [Act.put, sq1, sq2, sq3, sq4, sq5, sq6]
      refine tkN (i := 41) (v := ?_) rfl ?_ ?_
      rotate_left
      · (intro w hSw; (try dsimp only at hSw); go_simp; try with_reducible rfl)
      try simp only [Act.put, sq1, sq2, sq3, sq4, sq5, sq6]
      refine tkF (i := 42) rfl ?_
      try simp only [Act.put, sq1, sq2, sq3, sq4, sq5, sq6]
      refine tkF (i := 43) rfl ?_
      try simp only [Act.put, sq1, sq2, sq3, sq4, sq5, sq6]
      refine tkF (i := 44) rfl ?_
      try simp only [Act.put, sq1, sq2, sq3, sq4, sq5, sq6]
      refine tkN (i := 45) (v := ?_) rfl ?_ ?_
      rotate_left
      · (intro w hSw; (try dsimp only at hSw); go_simp; try with_reducible rfl)
      try simp only [Act.put, sq1, sq2, sq3, sq4, sq5, sq6]
      refine tkN (i := 46) (v := ?_) rfl ?_ ?_
      rotate_left
      · (intro w hSw; (try dsimp only at hSw); go_simp; try with_reducible rfl)
      try simp only [Act.put, sq1, sq2, sq3, sq4, sq5, sq6]
      refine tkF (i := 47) rfl ?_
      try simp only [Act.put, sq1, sq2, sq3, sq4, sq5, sq6]
      refine tkF (i := 48) rfl ?_
      try simp only [Act.put, sq1, sq2, sq3, sq4, sq5, sq6]
      refine tkF (i := 49) rfl ?_
      try simp only [Act.put, sq1, sq2, sq3, sq4, sq5, sq6]
      refine tkF (i := 50) rfl ?_
      try simp only [Act.put, sq1, sq2, sq3, sq4, sq5, sq6]
      refine tkF (i := 51) rfl ?_
      try simp only [Act.put, sq1, sq2, sq3, sq4, sq5, sq6]
      refine tkN (i := 52) (v := ?_) rfl ?_ ?_
      rotate_left
      · (intro w hSw; (try dsimp only at hSw); go_simp; try with_reducible rfl)
      try simp only [Act.put, sq1, sq2, sq3, sq4, sq5, sq6]
      refine wpAnyH_done (by kernel_rfl) ?_ _
      clear hrule x0 x1 x2 x3 x4 l0 l1 l2 y0 y1 y2 y3 y4 y5 y6 y7 y8 y9 y10 y11 y12 y13 y14 olt llt qlt
      go_wp2_with fail
      (try simp only [Exit.inBlock, Exit.then]); refine bodyPost_ret (results_none rfl _ _ _) rfl ?_
      exact Hd.out.stays HE.out
  · as_aux_lemma =>
      have g0 : (u == v) = false := by assumption
      have g1 : ¬ u < 0 := by omega
      have gd1 : decide (u < 0) = false := decide_eq_false g1
      have g2 : ¬ V ≤ u := by omega
      have gd2 : decide (V ≤ u) = false := decide_eq_false g2
      have g3 : ¬ v < 0 := by omega
      have gd3 : decide (v < 0) = false := decide_eq_false g3
      clear h1 h2 h3
      have hrule := SQ12.rule ob lo q eb lb p V S T kd s u v l
      obtain ⟨⟨x0, x1, x2, x3, x4⟩, ⟨l0, l1, l2⟩, y0, y1, y2, y3, y4, y5, y6, y7, y8, y9, y10, y11, y12, y13, y14⟩ := SQ12.rule _ _ _ _ _ _ _ _ _ _ _ _ _ _ _ Hd.out.sq
      obtain ⟨olt, llt, qlt⟩ := Hd.out.lt
      refine wp_region_held_drew (S := (fun W => SQ12 W ob lo q eb lb p V S T kd s u v l)) (by kernel_rfl) ?_ (fun hHeld => ?_)
      · exact Hd.out.sq
      refine tkN (i := 0) (v := ?_) rfl ?_ ?_
      rotate_left
      · (intro w hSw; (try dsimp only at hSw); go_simp; try with_reducible rfl)
      try simp only [Act.put, sq1, sq2, sq3, sq4, sq5]
      refine tkN (i := 1) (v := ?_) rfl ?_ ?_
      rotate_left
      · (intro w hSw; (try dsimp only at hSw); go_simp; try with_reducible rfl)
      try simp only [Act.put, sq1, sq2, sq3, sq4, sq5, sq6]
      refine tkN (i := 2) (v := ?_) rfl ?_ ?_
      rotate_left
      · (intro w hSw; (try dsimp only at hSw); go_simp; try with_reducible rfl)
      try simp only [Act.put, sq1, sq2, sq3, sq4, sq5, sq6]
      refine tkN (i := 3) (v := ?_) rfl ?_ ?_
      rotate_left
      · (intro w hSw; (try dsimp only at hSw); go_simp; try with_reducible rfl)
      try simp only [Act.put, sq1, sq2, sq3, sq4, sq5, sq6]
      refine tkN (i := 4) (v := ?_) rfl ?_ ?_
      rotate_left
      · (intro w hSw; (try dsimp only at hSw); go_simp; try with_reducible rfl)
      try simp only [Act.put, sq1, sq2, sq3, sq4, sq5, sq6]
      refine tkN (i := 5) (v := ?_) rfl ?_ ?_
      rotate_left
      · (intro w hSw; (try dsimp only at hSw); go_simp; try with_reducible rfl)
      try simp only [Act.put, sq1, sq2, sq3, sq4, sq5, sq6]
      refine tkN (i := 6) (v := ?_) rfl ?_ ?_
      rotate_left
      · (intro w hSw; (try dsimp only at hSw); go_simp; try with_reducible rfl)
      try simp only [Act.put, sq1, sq2, sq3, sq4, sq5, sq6]
      refine tkN (i := 7) (v := ?_) rfl ?_ ?_
      rotate_left
      · (intro w hSw; (try dsimp only at hSw); go_simp; try with_reducible rfl)
      try simp only [Act.put, sq1, sq2, sq3, sq4, sq5, sq6]
      refine tkN (i := 8) (v := ?_) rfl ?_ ?_
      rotate_left
      · (intro w hSw; (try dsimp only at hSw); go_simp; try with_reducible rfl)
      try simp only [Act.put, sq1, sq2, sq3, sq4, sq5, sq6]
      refine tkN (i := 9) (v := ?_) rfl ?_ ?_
      rotate_left
      · (intro w hSw; (try dsimp only at hSw); go_simp; try with_reducible rfl)
      try simp only [Act.put, sq1, sq2, sq3, sq4, sq5, sq6]
      refine tkN (i := 10) (v := ?_) rfl ?_ ?_
      rotate_left
      · (intro w hSw; (try dsimp only at hSw); go_simp; try with_reducible rfl)
      try simp only [Act.put, sq1, sq2, sq3, sq4, sq5, sq6]
      refine tkN (i := 11) (v := ?_) rfl ?_ ?_
      rotate_left
      · (intro w hSw; (try dsimp only at hSw); go_simp; try with_reducible rfl)
      try simp only [Act.put, sq1, sq2, sq3, sq4, sq5, sq6]
      refine tkN (i := 12) (v := ?_) rfl ?_ ?_
      rotate_left
      · (intro w hSw; (try dsimp only at hSw); go_simp; try with_reducible rfl)
      try simp only [Act.put, sq1, sq2, sq3, sq4, sq5, sq6]
      refine tkN (i := 13) (v := ?_) rfl ?_ ?_
      rotate_left
      · (intro w hSw; (try dsimp only at hSw); go_simp; try with_reducible rfl)
      try simp only [Act.put, sq1, sq2, sq3, sq4, sq5, sq6]
      refine tkN (i := 14) (v := ?_) rfl ?_ ?_
      rotate_left
      · (intro w hSw; (try dsimp only at hSw); go_simp; try with_reducible rfl)
      try simp only [Act.put, sq1, sq2, sq3, sq4, sq5, sq6]
      refine tkN (i := 15) (v := ?_) rfl ?_ ?_
      rotate_left
      · (intro w hSw; (try dsimp only at hSw); go_simp; try with_reducible rfl)
      try simp only [Act.put, sq1, sq2, sq3, sq4, sq5, sq6]
      refine tkN (i := 16) (v := ?_) rfl ?_ ?_
      rotate_left
      · (intro w hSw; (try dsimp only at hSw); go_simp; try with_reducible rfl)
      try simp only [Act.put, sq1, sq2, sq3, sq4, sq5, sq6]
      refine tkN (i := 17) (v := ?_) rfl ?_ ?_
      rotate_left
      · (intro w hSw; (try dsimp only at hSw); go_simp; try with_reducible rfl)
      try simp only [Act.put, sq1, sq2, sq3, sq4, sq5, sq6]
      refine tkN (i := 18) (v := ?_) rfl ?_ ?_
      rotate_left
      · (intro w hSw; (try dsimp only at hSw); go_simp; try with_reducible rfl)
      try simp only [Act.put, sq1, sq2, sq3, sq4, sq5, sq6]
      refine tkN (i := 19) (v := ?_) rfl ?_ ?_
      rotate_left
      · (intro w hSw; (try dsimp only at hSw); go_simp; try with_reducible rfl)
      try simp only [Act.put, sq1, sq2, sq3, sq4, sq5, sq6]
      refine tkN (i := 20) (v := ?_) rfl ?_ ?_
      rotate_left
      · (intro w hSw; (try dsimp only at hSw); go_simp; try with_reducible rfl)
      try simp only [Act.put, sq1, sq2, sq3, sq4, sq5, sq6]
      refine tkN (i := 21) (v := ?_) rfl ?_ ?_
      rotate_left
      · (intro w hSw; (try dsimp only at hSw); go_simp; try with_reducible rfl)
      try simp only [Act.put, sq1, sq2, sq3, sq4, sq5, sq6]
      refine tkN (i := 22) (v := ?_) rfl ?_ ?_
      rotate_left
      · (intro w hSw; (try dsimp only at hSw); go_simp; try with_reducible rfl)
      try simp only [Act.put, sq1, sq2, sq3, sq4, sq5, sq6]
      refine tkN (i := 23) (v := ?_) rfl ?_ ?_
      rotate_left
      · (intro w hSw; (try dsimp only at hSw); go_simp; try with_reducible rfl)
      try simp only [Act.put, sq1, sq2, sq3, sq4, sq5, sq6]
      refine tkN (i := 24) (v := ?_) rfl ?_ ?_
      rotate_left
      · (intro w hSw; (try dsimp only at hSw); go_simp; try with_reducible rfl)
      try simp only [Act.put, sq1, sq2, sq3, sq4, sq5, sq6]
      refine tkN (i := 25) (v := ?_) rfl ?_ ?_
      rotate_left
      · (intro w hSw; (try dsimp only at hSw); go_simp; try with_reducible rfl)
      try simp only [Act.put, sq1, sq2, sq3, sq4, sq5, sq6]
      refine tkN (i := 26) (v := ?_) rfl ?_ ?_
      rotate_left
      · (intro w hSw; (try dsimp only at hSw); go_simp; try with_reducible rfl)
      try simp only [Act.put, sq1, sq2, sq3, sq4, sq5, sq6]
      refine tkN (i := 27) (v := ?_) rfl ?_ ?_
      rotate_left
      · (intro w hSw; (try dsimp only at hSw); go_simp; try with_reducible rfl)
      try simp only [Act.put, sq1, sq2, sq3, sq4, sq5, sq6]
      refine tkN (i := 28) (v := ?_) rfl ?_ ?_
      rotate_left
      · (intro w hSw; (try dsimp only at hSw); go_simp; try with_reducible rfl)
      try simp only [Act.put, sq1, sq2, sq3, sq4, sq5, sq6]
      refine tkN (i := 29) (v := ?_) rfl ?_ ?_
      rotate_left
      · (intro w hSw; (try dsimp only at hSw); go_simp; try with_reducible rfl)
      try simp only [Act.put, sq1, sq2, sq3, sq4, sq5, sq6]
      refine tkF (i := 30) rfl ?_
      try simp only [Act.put, sq1, sq2, sq3, sq4, sq5, sq6]
      refine tkF (i := 31) rfl ?_
      try simp only [Act.put, sq1, sq2, sq3, sq4, sq5, sq6]
      refine tkF (i := 32) rfl ?_
      try simp only [Act.put, sq1, sq2, sq3, sq4, sq5, sq6]
      refine tkN (i := 33) (v := ?_) rfl ?_ ?_
      rotate_left
      · (intro w hSw; (try dsimp only at hSw); go_simp; try with_reducible rfl)
      try simp only [Act.put, sq1, sq2, sq3, sq4, sq5, sq6]
      refine tkN (i := 34) (v := ?_) rfl ?_ ?_
      rotate_left
      · (intro w hSw; (try dsimp only at hSw); go_simp; try with_reducible rfl)
      try simp only [Act.put, sq1, sq2, sq3, sq4, sq5, sq6]
      refine tkF (i := 35) rfl ?_
      try simp only [Act.put, sq1, sq2, sq3, sq4, sq5, sq6]
      refine tkF (i := 36) rfl ?_
      try simp only [Act.put, sq1, sq2, sq3, sq4, sq5, sq6]
      refine tkF (i := 37) rfl ?_
      try simp only [Act.put, sq1, sq2, sq3, sq4, sq5, sq6]
      refine tkF (i := 38) rfl ?_
      try simp only [Act.put, sq1, sq2, sq3, sq4, sq5, sq6]
      refine tkF (i := 39) rfl ?_
      try simp only [Act.put, sq1, sq2, sq3, sq4, sq5, sq6]
      refine tkN (i := 40) (v := ?_) rfl ?_ ?_
      rotate_left
      · (intro w hSw; (try dsimp only at hSw); go_simp; try with_reducible rfl)
      try simp only [Act.put, sq1, sq2, sq3, sq4, sq5, sq6]
      refine tkN (i := 41) (v := ?_) rfl ?_ ?_
      rotate_left
      · (intro w hSw; (try dsimp only at hSw); go_simp; try with_reducible rfl)
      try simp only [Act.put, sq1, sq2, sq3, sq4, sq5, sq6]
      refine tkF (i := 42) rfl ?_
      try simp only [Act.put, sq1, sq2, sq3, sq4, sq5, sq6]
      refine tkF (i := 43) rfl ?_
      try simp only [Act.put, sq1, sq2, sq3, sq4, sq5, sq6]
      refine tkF (i := 44) rfl ?_
      try simp only [Act.put, sq1, sq2, sq3, sq4, sq5, sq6]
      refine tkN (i := 45) (v := ?_) rfl ?_ ?_
      rotate_left
      · (intro w hSw; (try dsimp only at hSw); go_simp; try with_reducible rfl)
      try simp only [Act.put, sq1, sq2, sq3, sq4, sq5, sq6]
      refine tkN (i := 46) (v := ?_) rfl ?_ ?_
      rotate_left
      · (intro w hSw; (try dsimp only at hSw); go_simp; try with_reducible rfl)
      try simp only [Act.put, sq1, sq2, sq3, sq4, sq5, sq6]
      refine tkF (i := 47) rfl ?_
      try simp only [Act.put, sq1, sq2, sq3, sq4, sq5, sq6]
      refine tkF (i := 48) rfl ?_
      try simp only [Act.put, sq1, sq2, sq3, sq4, sq5, sq6]
      refine tkF (i := 49) rfl ?_
      try simp only [Act.put, sq1, sq2, sq3, sq4, sq5, sq6]
      refine tkF (i := 50) rfl ?_
      try simp only [Act.put, sq1, sq2, sq3, sq4, sq5, sq6]
      refine tkF (i := 51) rfl ?_
      try simp only [Act.put, sq1, sq2, sq3, sq4, sq5, sq6]
      refine tkN (i := 52) (v := ?_) rfl ?_ ?_
      rotate_left
      · (intro w hSw; (try dsimp only at hSw); go_simp; try with_reducible rfl)
      try simp only [Act.put, sq1, sq2, sq3, sq4, sq5, sq6]
      refine wpAnyH_done (by kernel_rfl) ?_ _
      clear hrule x0 x1 x2 x3 x4 l0 l1 l2 y0 y1 y2 y3 y4 y5 y6 y7 y8 y9 y10 y11 y12 y13 y14 olt llt qlt
      go_wp2_with fail
      (try simp only [Exit.inBlock, Exit.then]); refine bodyPost_ret (results_none rfl _ _ _) rfl ?_
      exact Hd.out.stays HE.out
  · as_aux_lemma =>
      have g0 : (u == v) = false := by assumption
      have g1 : ¬ u < 0 := by omega
      have gd1 : decide (u < 0) = false := decide_eq_false g1
      have g2 : ¬ V ≤ u := by omega
      have gd2 : decide (V ≤ u) = false := decide_eq_false g2
      have g3 : ¬ v < 0 := by omega
      have gd3 : decide (v < 0) = false := decide_eq_false g3
      have g4 : ¬ V ≤ v := by omega
      have gd4 : decide (V ≤ v) = false := decide_eq_false g4
      clear h1 h2 h3 h4
      have hrule := SQ12.rule ob lo q eb lb p V S T kd s u v l
      obtain ⟨⟨x0, x1, x2, x3, x4⟩, ⟨l0, l1, l2⟩, y0, y1, y2, y3, y4, y5, y6, y7, y8, y9, y10, y11, y12, y13, y14⟩ := SQ12.rule _ _ _ _ _ _ _ _ _ _ _ _ _ _ _ Hd.out.sq
      obtain ⟨olt, llt, qlt⟩ := Hd.out.lt
      refine wp_region_held_drew (S := (fun W => SQ12 W ob lo q eb lb p V S T kd s u v l)) (by kernel_rfl) ?_ (fun hHeld => ?_)
      · exact Hd.out.sq
      refine tkN (i := 0) (v := ?_) rfl ?_ ?_
      rotate_left
      · (intro w hSw; (try dsimp only at hSw); go_simp; try with_reducible rfl)
      try simp only [Act.put, sq1, sq2, sq3, sq4, sq5]
      refine tkN (i := 1) (v := ?_) rfl ?_ ?_
      rotate_left
      · (intro w hSw; (try dsimp only at hSw); go_simp; try with_reducible rfl)
      try simp only [Act.put, sq1, sq2, sq3, sq4, sq5, sq6]
      refine tkN (i := 2) (v := ?_) rfl ?_ ?_
      rotate_left
      · (intro w hSw; (try dsimp only at hSw); go_simp; try with_reducible rfl)
      try simp only [Act.put, sq1, sq2, sq3, sq4, sq5, sq6]
      refine tkN (i := 3) (v := ?_) rfl ?_ ?_
      rotate_left
      · (intro w hSw; (try dsimp only at hSw); go_simp; try with_reducible rfl)
      try simp only [Act.put, sq1, sq2, sq3, sq4, sq5, sq6]
      refine tkN (i := 4) (v := ?_) rfl ?_ ?_
      rotate_left
      · (intro w hSw; (try dsimp only at hSw); go_simp; try with_reducible rfl)
      try simp only [Act.put, sq1, sq2, sq3, sq4, sq5, sq6]
      refine tkN (i := 5) (v := ?_) rfl ?_ ?_
      rotate_left
      · (intro w hSw; (try dsimp only at hSw); go_simp; try with_reducible rfl)
      try simp only [Act.put, sq1, sq2, sq3, sq4, sq5, sq6]
      refine tkN (i := 6) (v := ?_) rfl ?_ ?_
      rotate_left
      · (intro w hSw; (try dsimp only at hSw); go_simp; try with_reducible rfl)
      try simp only [Act.put, sq1, sq2, sq3, sq4, sq5, sq6]
      refine tkN (i := 7) (v := ?_) rfl ?_ ?_
      rotate_left
      · (intro w hSw; (try dsimp only at hSw); go_simp; try with_reducible rfl)
      try simp only [Act.put, sq1, sq2, sq3, sq4, sq5, sq6]
      refine tkN (i := 8) (v := ?_) rfl ?_ ?_
      rotate_left
      · (intro w hSw; (try dsimp only at hSw); go_simp; try with_reducible rfl)
      try simp only [Act.put, sq1, sq2, sq3, sq4, sq5, sq6]
      refine tkN (i := 9) (v := ?_) rfl ?_ ?_
      rotate_left
      · (intro w hSw; (try dsimp only at hSw); go_simp; try with_reducible rfl)
      try simp only [Act.put, sq1, sq2, sq3, sq4, sq5, sq6]
      refine tkN (i := 10) (v := ?_) rfl ?_ ?_
      rotate_left
      · (intro w hSw; (try dsimp only at hSw); go_simp; try with_reducible rfl)
      try simp only [Act.put, sq1, sq2, sq3, sq4, sq5, sq6]
      refine tkN (i := 11) (v := ?_) rfl ?_ ?_
      rotate_left
      · (intro w hSw; (try dsimp only at hSw); go_simp; try with_reducible rfl)
      try simp only [Act.put, sq1, sq2, sq3, sq4, sq5, sq6]
      refine tkN (i := 12) (v := ?_) rfl ?_ ?_
      rotate_left
      · (intro w hSw; (try dsimp only at hSw); go_simp; try with_reducible rfl)
      try simp only [Act.put, sq1, sq2, sq3, sq4, sq5, sq6]
      refine tkN (i := 13) (v := ?_) rfl ?_ ?_
      rotate_left
      · (intro w hSw; (try dsimp only at hSw); go_simp; try with_reducible rfl)
      try simp only [Act.put, sq1, sq2, sq3, sq4, sq5, sq6]
      refine tkN (i := 14) (v := ?_) rfl ?_ ?_
      rotate_left
      · (intro w hSw; (try dsimp only at hSw); go_simp; try with_reducible rfl)
      try simp only [Act.put, sq1, sq2, sq3, sq4, sq5, sq6]
      refine tkN (i := 15) (v := ?_) rfl ?_ ?_
      rotate_left
      · (intro w hSw; (try dsimp only at hSw); go_simp; try with_reducible rfl)
      try simp only [Act.put, sq1, sq2, sq3, sq4, sq5, sq6]
      refine tkN (i := 16) (v := ?_) rfl ?_ ?_
      rotate_left
      · (intro w hSw; (try dsimp only at hSw); go_simp; try with_reducible rfl)
      try simp only [Act.put, sq1, sq2, sq3, sq4, sq5, sq6]
      refine tkN (i := 17) (v := ?_) rfl ?_ ?_
      rotate_left
      · (intro w hSw; (try dsimp only at hSw); go_simp; try with_reducible rfl)
      try simp only [Act.put, sq1, sq2, sq3, sq4, sq5, sq6]
      refine tkN (i := 18) (v := ?_) rfl ?_ ?_
      rotate_left
      · (intro w hSw; (try dsimp only at hSw); go_simp; try with_reducible rfl)
      try simp only [Act.put, sq1, sq2, sq3, sq4, sq5, sq6]
      refine tkN (i := 19) (v := ?_) rfl ?_ ?_
      rotate_left
      · (intro w hSw; (try dsimp only at hSw); go_simp; try with_reducible rfl)
      try simp only [Act.put, sq1, sq2, sq3, sq4, sq5, sq6]
      refine tkN (i := 20) (v := ?_) rfl ?_ ?_
      rotate_left
      · (intro w hSw; (try dsimp only at hSw); go_simp; try with_reducible rfl)
      try simp only [Act.put, sq1, sq2, sq3, sq4, sq5, sq6]
      refine tkN (i := 21) (v := ?_) rfl ?_ ?_
      rotate_left
      · (intro w hSw; (try dsimp only at hSw); go_simp; try with_reducible rfl)
      try simp only [Act.put, sq1, sq2, sq3, sq4, sq5, sq6]
      refine tkN (i := 22) (v := ?_) rfl ?_ ?_
      rotate_left
      · (intro w hSw; (try dsimp only at hSw); go_simp; try with_reducible rfl)
      try simp only [Act.put, sq1, sq2, sq3, sq4, sq5, sq6]
      refine tkN (i := 23) (v := ?_) rfl ?_ ?_
      rotate_left
      · (intro w hSw; (try dsimp only at hSw); go_simp; try with_reducible rfl)
      try simp only [Act.put, sq1, sq2, sq3, sq4, sq5, sq6]
      refine tkN (i := 24) (v := ?_) rfl ?_ ?_
      rotate_left
      · (intro w hSw; (try dsimp only at hSw); go_simp; try with_reducible rfl)
      try simp only [Act.put, sq1, sq2, sq3, sq4, sq5, sq6]
      refine tkN (i := 25) (v := ?_) rfl ?_ ?_
      rotate_left
      · (intro w hSw; (try dsimp only at hSw); go_simp; try with_reducible rfl)
      try simp only [Act.put, sq1, sq2, sq3, sq4, sq5, sq6]
      refine tkN (i := 26) (v := ?_) rfl ?_ ?_
      rotate_left
      · (intro w hSw; (try dsimp only at hSw); go_simp; try with_reducible rfl)
      try simp only [Act.put, sq1, sq2, sq3, sq4, sq5, sq6]
      refine tkN (i := 27) (v := ?_) rfl ?_ ?_
      rotate_left
      · (intro w hSw; (try dsimp only at hSw); go_simp; try with_reducible rfl)
      try simp only [Act.put, sq1, sq2, sq3, sq4, sq5, sq6]
      refine tkN (i := 28) (v := ?_) rfl ?_ ?_
      rotate_left
      · (intro w hSw; (try dsimp only at hSw); go_simp; try with_reducible rfl)
      try simp only [Act.put, sq1, sq2, sq3, sq4, sq5, sq6]
      refine tkN (i := 29) (v := ?_) rfl ?_ ?_
      rotate_left
      · (intro w hSw; (try dsimp only at hSw); go_simp; try with_reducible rfl)
      try simp only [Act.put, sq1, sq2, sq3, sq4, sq5, sq6]
      refine tkN (i := 30) (v := ?_) rfl ?_ ?_
      rotate_left
      · (intro w hSw; (try dsimp only at hSw); go_simp; try with_reducible rfl)
      try simp only [Act.put, sq1, sq2, sq3, sq4, sq5, sq6]
      refine tkN (i := 31) (v := ?_) rfl ?_ ?_
      rotate_left
      · (intro w hSw; (try dsimp only at hSw); go_simp; try with_reducible rfl)
      try simp only [Act.put, sq1, sq2, sq3, sq4, sq5, sq6]
      refine tkN (i := 32) (v := ?_) rfl ?_ ?_
      rotate_left
      · (intro w hSw; (try dsimp only at hSw); go_simp; try with_reducible rfl)
      try simp only [Act.put, sq1, sq2, sq3, sq4, sq5, sq6]
      refine tkN (i := 33) (v := ?_) rfl ?_ ?_
      rotate_left
      · (intro w hSw; (try dsimp only at hSw); go_simp; try with_reducible rfl)
      try simp only [Act.put, sq1, sq2, sq3, sq4, sq5, sq6]
      refine tkN (i := 34) (v := ?_) rfl ?_ ?_
      rotate_left
      · (intro w hSw; (try dsimp only at hSw); go_simp; try with_reducible rfl)
      try simp only [Act.put, sq1, sq2, sq3, sq4, sq5, sq6]
      refine tkF (i := 35) rfl ?_
      try simp only [Act.put, sq1, sq2, sq3, sq4, sq5, sq6]
      refine tkF (i := 36) rfl ?_
      try simp only [Act.put, sq1, sq2, sq3, sq4, sq5, sq6]
      refine tkF (i := 37) rfl ?_
      try simp only [Act.put, sq1, sq2, sq3, sq4, sq5, sq6]
      refine tkF (i := 38) rfl ?_
      try simp only [Act.put, sq1, sq2, sq3, sq4, sq5, sq6]
      refine tkF (i := 39) rfl ?_
      try simp only [Act.put, sq1, sq2, sq3, sq4, sq5, sq6]
      refine tkN (i := 40) (v := ?_) rfl ?_ ?_
      rotate_left
      · (intro w hSw; (try dsimp only at hSw); go_simp; try with_reducible rfl)
      try simp only [Act.put, sq1, sq2, sq3, sq4, sq5, sq6]
      refine tkN (i := 41) (v := ?_) rfl ?_ ?_
      rotate_left
      · (intro w hSw; (try dsimp only at hSw); go_simp; try with_reducible rfl)
      try simp only [Act.put, sq1, sq2, sq3, sq4, sq5, sq6]
      refine tkF (i := 42) rfl ?_
      try simp only [Act.put, sq1, sq2, sq3, sq4, sq5, sq6]
      refine tkF (i := 43) rfl ?_
      try simp only [Act.put, sq1, sq2, sq3, sq4, sq5, sq6]
      refine tkF (i := 44) rfl ?_
      try simp only [Act.put, sq1, sq2, sq3, sq4, sq5, sq6]
      refine tkN (i := 45) (v := ?_) rfl ?_ ?_
      rotate_left
      · (intro w hSw; (try dsimp only at hSw); go_simp; try with_reducible rfl)
      try simp only [Act.put, sq1, sq2, sq3, sq4, sq5, sq6]
      refine tkN (i := 46) (v := ?_) rfl ?_ ?_
      rotate_left
      · (intro w hSw; (try dsimp only at hSw); go_simp; try with_reducible rfl)
      try simp only [Act.put, sq1, sq2, sq3, sq4, sq5, sq6]
      refine tkF (i := 47) rfl ?_
      try simp only [Act.put, sq1, sq2, sq3, sq4, sq5, sq6]
      refine tkF (i := 48) rfl ?_
      try simp only [Act.put, sq1, sq2, sq3, sq4, sq5, sq6]
      refine tkF (i := 49) rfl ?_
      try simp only [Act.put, sq1, sq2, sq3, sq4, sq5, sq6]
      refine tkF (i := 50) rfl ?_
      try simp only [Act.put, sq1, sq2, sq3, sq4, sq5, sq6]
      refine tkF (i := 51) rfl ?_
      try simp only [Act.put, sq1, sq2, sq3, sq4, sq5, sq6]
      refine tkN (i := 52) (v := ?_) rfl ?_ ?_
      rotate_left
      · (intro w hSw; (try dsimp only at hSw); go_simp; try with_reducible rfl)
      try simp only [Act.put, sq1, sq2, sq3, sq4, sq5, sq6]
      refine wpAnyH_done (by kernel_rfl) ?_ _
      clear hrule x0 x1 x2 x3 x4 l0 l1 l2 y0 y1 y2 y3 y4 y5 y6 y7 y8 y9 y10 y11 y12 y13 y14 olt llt qlt
      go_wp2_with fail
      (try simp only [Exit.inBlock, Exit.then]); refine bodyPost_ret (results_none rfl _ _ _) rfl ?_
      exact Hd.out.stays HE.out
  · as_aux_lemma =>
      have g0 : (u == v) = false := by assumption
      have g1 : ¬ u < 0 := by omega
      have gd1 : decide (u < 0) = false := decide_eq_false g1
      have g2 : ¬ V ≤ u := by omega
      have gd2 : decide (V ≤ u) = false := decide_eq_false g2
      have g3 : ¬ v < 0 := by omega
      have gd3 : decide (v < 0) = false := decide_eq_false g3
      have g4 : ¬ V ≤ v := by omega
      have gd4 : decide (V ≤ v) = false := decide_eq_false g4
      have g5 : ¬ s < 0 := by omega
      have gd5 : decide (s < 0) = false := decide_eq_false g5
      clear h1 h2 h3 h4 h5
      have hrule := SQ12.rule ob lo q eb lb p V S T kd s u v l
      obtain ⟨⟨x0, x1, x2, x3, x4⟩, ⟨l0, l1, l2⟩, y0, y1, y2, y3, y4, y5, y6, y7, y8, y9, y10, y11, y12, y13, y14⟩ := SQ12.rule _ _ _ _ _ _ _ _ _ _ _ _ _ _ _ Hd.out.sq
      obtain ⟨olt, llt, qlt⟩ := Hd.out.lt
      refine wp_region_held_drew (S := (fun W => SQ12 W ob lo q eb lb p V S T kd s u v l)) (by kernel_rfl) ?_ (fun hHeld => ?_)
      · exact Hd.out.sq
      refine tkN (i := 0) (v := ?_) rfl ?_ ?_
      rotate_left
      · (intro w hSw; (try dsimp only at hSw); go_simp; try with_reducible rfl)
      try simp only [Act.put, sq1, sq2, sq3, sq4, sq5]
      refine tkN (i := 1) (v := ?_) rfl ?_ ?_
      rotate_left
      · (intro w hSw; (try dsimp only at hSw); go_simp; try with_reducible rfl)
      try simp only [Act.put, sq1, sq2, sq3, sq4, sq5, sq6]
      refine tkN (i := 2) (v := ?_) rfl ?_ ?_
      rotate_left
      · (intro w hSw; (try dsimp only at hSw); go_simp; try with_reducible rfl)
      try simp only [Act.put, sq1, sq2, sq3, sq4, sq5, sq6]
      refine tkN (i := 3) (v := ?_) rfl ?_ ?_
      rotate_left
      · (intro w hSw; (try dsimp only at hSw); go_simp; try with_reducible rfl)
      try simp only [Act.put, sq1, sq2, sq3, sq4, sq5, sq6]
      refine tkN (i := 4) (v := ?_) rfl ?_ ?_
      rotate_left
      · (intro w hSw; (try dsimp only at hSw); go_simp; try with_reducible rfl)
      try simp only [Act.put, sq1, sq2, sq3, sq4, sq5, sq6]
      refine tkN (i := 5) (v := ?_) rfl ?_ ?_
      rotate_left
      · (intro w hSw; (try dsimp only at hSw); go_simp; try with_reducible rfl)
      try simp only [Act.put, sq1, sq2, sq3, sq4, sq5, sq6]
      refine tkN (i := 6) (v := ?_) rfl ?_ ?_
      rotate_left
      · (intro w hSw; (try dsimp only at hSw); go_simp; try with_reducible rfl)
      try simp only [Act.put, sq1, sq2, sq3, sq4, sq5, sq6]
      refine tkN (i := 7) (v := ?_) rfl ?_ ?_
      rotate_left
      · (intro w hSw; (try dsimp only at hSw); go_simp; try with_reducible rfl)
      try simp only [Act.put, sq1, sq2, sq3, sq4, sq5, sq6]
      refine tkN (i := 8) (v := ?_) rfl ?_ ?_
      rotate_left
      · (intro w hSw; (try dsimp only at hSw); go_simp; try with_reducible rfl)
      try simp only [Act.put, sq1, sq2, sq3, sq4, sq5, sq6]
      refine tkN (i := 9) (v := ?_) rfl ?_ ?_
      rotate_left
      · (intro w hSw; (try dsimp only at hSw); go_simp; try with_reducible rfl)
      try simp only [Act.put, sq1, sq2, sq3, sq4, sq5, sq6]
      refine tkN (i := 10) (v := ?_) rfl ?_ ?_
      rotate_left
      · (intro w hSw; (try dsimp only at hSw); go_simp; try with_reducible rfl)
      try simp only [Act.put, sq1, sq2, sq3, sq4, sq5, sq6]
      refine tkN (i := 11) (v := ?_) rfl ?_ ?_
      rotate_left
      · (intro w hSw; (try dsimp only at hSw); go_simp; try with_reducible rfl)
      try simp only [Act.put, sq1, sq2, sq3, sq4, sq5, sq6]
      refine tkN (i := 12) (v := ?_) rfl ?_ ?_
      rotate_left
      · (intro w hSw; (try dsimp only at hSw); go_simp; try with_reducible rfl)
      try simp only [Act.put, sq1, sq2, sq3, sq4, sq5, sq6]
      refine tkN (i := 13) (v := ?_) rfl ?_ ?_
      rotate_left
      · (intro w hSw; (try dsimp only at hSw); go_simp; try with_reducible rfl)
      try simp only [Act.put, sq1, sq2, sq3, sq4, sq5, sq6]
      refine tkN (i := 14) (v := ?_) rfl ?_ ?_
      rotate_left
      · (intro w hSw; (try dsimp only at hSw); go_simp; try with_reducible rfl)
      try simp only [Act.put, sq1, sq2, sq3, sq4, sq5, sq6]
      refine tkN (i := 15) (v := ?_) rfl ?_ ?_
      rotate_left
      · (intro w hSw; (try dsimp only at hSw); go_simp; try with_reducible rfl)
      try simp only [Act.put, sq1, sq2, sq3, sq4, sq5, sq6]
      refine tkN (i := 16) (v := ?_) rfl ?_ ?_
      rotate_left
      · (intro w hSw; (try dsimp only at hSw); go_simp; try with_reducible rfl)
      try simp only [Act.put, sq1, sq2, sq3, sq4, sq5, sq6]
      refine tkN (i := 17) (v := ?_) rfl ?_ ?_
      rotate_left
      · (intro w hSw; (try dsimp only at hSw); go_simp; try with_reducible rfl)
      try simp only [Act.put, sq1, sq2, sq3, sq4, sq5, sq6]
      refine tkN (i := 18) (v := ?_) rfl ?_ ?_
      rotate_left
      · (intro w hSw; (try dsimp only at hSw); go_simp; try with_reducible rfl)
      try simp only [Act.put, sq1, sq2, sq3, sq4, sq5, sq6]
      refine tkN (i := 19) (v := ?_) rfl ?_ ?_
      rotate_left
      · (intro w hSw; (try dsimp only at hSw); go_simp; try with_reducible rfl)
      try simp only [Act.put, sq1, sq2, sq3, sq4, sq5, sq6]
      refine tkN (i := 20) (v := ?_) rfl ?_ ?_
      rotate_left
      · (intro w hSw; (try dsimp only at hSw); go_simp; try with_reducible rfl)
      try simp only [Act.put, sq1, sq2, sq3, sq4, sq5, sq6]
      refine tkN (i := 21) (v := ?_) rfl ?_ ?_
      rotate_left
      · (intro w hSw; (try dsimp only at hSw); go_simp; try with_reducible rfl)
      try simp only [Act.put, sq1, sq2, sq3, sq4, sq5, sq6]
      refine tkN (i := 22) (v := ?_) rfl ?_ ?_
      rotate_left
      · (intro w hSw; (try dsimp only at hSw); go_simp; try with_reducible rfl)
      try simp only [Act.put, sq1, sq2, sq3, sq4, sq5, sq6]
      refine tkN (i := 23) (v := ?_) rfl ?_ ?_
      rotate_left
      · (intro w hSw; (try dsimp only at hSw); go_simp; try with_reducible rfl)
      try simp only [Act.put, sq1, sq2, sq3, sq4, sq5, sq6]
      refine tkN (i := 24) (v := ?_) rfl ?_ ?_
      rotate_left
      · (intro w hSw; (try dsimp only at hSw); go_simp; try with_reducible rfl)
      try simp only [Act.put, sq1, sq2, sq3, sq4, sq5, sq6]
      refine tkN (i := 25) (v := ?_) rfl ?_ ?_
      rotate_left
      · (intro w hSw; (try dsimp only at hSw); go_simp; try with_reducible rfl)
      try simp only [Act.put, sq1, sq2, sq3, sq4, sq5, sq6]
      refine tkN (i := 26) (v := ?_) rfl ?_ ?_
      rotate_left
      · (intro w hSw; (try dsimp only at hSw); go_simp; try with_reducible rfl)
      try simp only [Act.put, sq1, sq2, sq3, sq4, sq5, sq6]
      refine tkN (i := 27) (v := ?_) rfl ?_ ?_
      rotate_left
      · (intro w hSw; (try dsimp only at hSw); go_simp; try with_reducible rfl)
      try simp only [Act.put, sq1, sq2, sq3, sq4, sq5, sq6]
      refine tkN (i := 28) (v := ?_) rfl ?_ ?_
      rotate_left
      · (intro w hSw; (try dsimp only at hSw); go_simp; try with_reducible rfl)
      try simp only [Act.put, sq1, sq2, sq3, sq4, sq5, sq6]
      refine tkN (i := 29) (v := ?_) rfl ?_ ?_
      rotate_left
      · (intro w hSw; (try dsimp only at hSw); go_simp; try with_reducible rfl)
      try simp only [Act.put, sq1, sq2, sq3, sq4, sq5, sq6]
      refine tkN (i := 30) (v := ?_) rfl ?_ ?_
      rotate_left
      · (intro w hSw; (try dsimp only at hSw); go_simp; try with_reducible rfl)
      try simp only [Act.put, sq1, sq2, sq3, sq4, sq5, sq6]
      refine tkN (i := 31) (v := ?_) rfl ?_ ?_
      rotate_left
      · (intro w hSw; (try dsimp only at hSw); go_simp; try with_reducible rfl)
      try simp only [Act.put, sq1, sq2, sq3, sq4, sq5, sq6]
      refine tkN (i := 32) (v := ?_) rfl ?_ ?_
      rotate_left
      · (intro w hSw; (try dsimp only at hSw); go_simp; try with_reducible rfl)
      try simp only [Act.put, sq1, sq2, sq3, sq4, sq5, sq6]
      refine tkN (i := 33) (v := ?_) rfl ?_ ?_
      rotate_left
      · (intro w hSw; (try dsimp only at hSw); go_simp; try with_reducible rfl)
      try simp only [Act.put, sq1, sq2, sq3, sq4, sq5, sq6]
      refine tkN (i := 34) (v := ?_) rfl ?_ ?_
      rotate_left
      · (intro w hSw; (try dsimp only at hSw); go_simp; try with_reducible rfl)
      try simp only [Act.put, sq1, sq2, sq3, sq4, sq5, sq6]
      refine tkN (i := 35) (v := ?_) rfl ?_ ?_
      rotate_left
      · (intro w hSw; (try dsimp only at hSw); go_simp; try with_reducible rfl)
      try simp only [Act.put, sq1, sq2, sq3, sq4, sq5, sq6]
      refine tkN (i := 36) (v := ?_) rfl ?_ ?_
      rotate_left
      · (intro w hSw; (try dsimp only at hSw); go_simp; try with_reducible rfl)
      try simp only [Act.put, sq1, sq2, sq3, sq4, sq5, sq6]
      refine tkN (i := 37) (v := ?_) rfl ?_ ?_
      rotate_left
      · (intro w hSw; (try dsimp only at hSw); go_simp; try with_reducible rfl)
      try simp only [Act.put, sq1, sq2, sq3, sq4, sq5, sq6]
      refine tkN (i := 38) (v := ?_) rfl ?_ ?_
      rotate_left
      · (intro w hSw; (try dsimp only at hSw); go_simp; try with_reducible rfl)
      try simp only [Act.put, sq1, sq2, sq3, sq4, sq5, sq6]
      refine tkN (i := 39) (v := ?_) rfl ?_ ?_
      rotate_left
      · (intro w hSw; (try dsimp only at hSw); go_simp; try with_reducible rfl)
      try simp only [Act.put, sq1, sq2, sq3, sq4, sq5, sq6]
      refine tkN (i := 40) (v := ?_) rfl ?_ ?_
      rotate_left
      · (intro w hSw; (try dsimp only at hSw); go_simp; try with_reducible rfl)
      try simp only [Act.put, sq1, sq2, sq3, sq4, sq5, sq6]
      refine tkN (i := 41) (v := ?_) rfl ?_ ?_
      rotate_left
      · (intro w hSw; (try dsimp only at hSw); go_simp; try with_reducible rfl)
      try simp only [Act.put, sq1, sq2, sq3, sq4, sq5, sq6]
      refine tkF (i := 42) rfl ?_
      try simp only [Act.put, sq1, sq2, sq3, sq4, sq5, sq6]
      refine tkF (i := 43) rfl ?_
      try simp only [Act.put, sq1, sq2, sq3, sq4, sq5, sq6]
      refine tkF (i := 44) rfl ?_
      try simp only [Act.put, sq1, sq2, sq3, sq4, sq5, sq6]
      refine tkN (i := 45) (v := ?_) rfl ?_ ?_
      rotate_left
      · (intro w hSw; (try dsimp only at hSw); go_simp; try with_reducible rfl)
      try simp only [Act.put, sq1, sq2, sq3, sq4, sq5, sq6]
      refine tkN (i := 46) (v := ?_) rfl ?_ ?_
      rotate_left
      · (intro w hSw; (try dsimp only at hSw); go_simp; try with_reducible rfl)
      try simp only [Act.put, sq1, sq2, sq3, sq4, sq5, sq6]
      refine tkF (i := 47) rfl ?_
      try simp only [Act.put, sq1, sq2, sq3, sq4, sq5, sq6]
      refine tkF (i := 48) rfl ?_
      try simp only [Act.put, sq1, sq2, sq3, sq4, sq5, sq6]
      refine tkF (i := 49) rfl ?_
      try simp only [Act.put, sq1, sq2, sq3, sq4, sq5, sq6]
      refine tkF (i := 50) rfl ?_
      try simp only [Act.put, sq1, sq2, sq3, sq4, sq5, sq6]
      refine tkF (i := 51) rfl ?_
      try simp only [Act.put, sq1, sq2, sq3, sq4, sq5, sq6]
      refine tkN (i := 52) (v := ?_) rfl ?_ ?_
      rotate_left
      · (intro w hSw; (try dsimp only at hSw); go_simp; try with_reducible rfl)
      try simp only [Act.put, sq1, sq2, sq3, sq4, sq5, sq6]
      refine wpAnyH_done (by kernel_rfl) ?_ _
      clear hrule x0 x1 x2 x3 x4 l0 l1 l2 y0 y1 y2 y3 y4 y5 y6 y7 y8 y9 y10 y11 y12 y13 y14 olt llt qlt
      go_wp2_with fail
      (try simp only [Exit.inBlock, Exit.then]); refine bodyPost_ret (results_none rfl _ _ _) rfl ?_
      exact Hd.out.stays HE.out
  · as_aux_lemma =>
      have g0 : (u == v) = false := by assumption
      have g1 : ¬ u < 0 := by omega
      have gd1 : decide (u < 0) = false := decide_eq_false g1
      have g2 : ¬ V ≤ u := by omega
      have gd2 : decide (V ≤ u) = false := decide_eq_false g2
      have g3 : ¬ v < 0 := by omega
      have gd3 : decide (v < 0) = false := decide_eq_false g3
      have g4 : ¬ V ≤ v := by omega
      have gd4 : decide (V ≤ v) = false := decide_eq_false g4
      have g5 : ¬ s < 0 := by omega
      have gd5 : decide (s < 0) = false := decide_eq_false g5
      have g6 : ¬ S ≤ s := by omega
      have gd6 : decide (S ≤ s) = false := decide_eq_false g6
      clear h1 h2 h3 h4 h5 h6
      have hrule := SQ12.rule ob lo q eb lb p V S T kd s u v l
      obtain ⟨⟨x0, x1, x2, x3, x4⟩, ⟨l0, l1, l2⟩, y0, y1, y2, y3, y4, y5, y6, y7, y8, y9, y10, y11, y12, y13, y14⟩ := SQ12.rule _ _ _ _ _ _ _ _ _ _ _ _ _ _ _ Hd.out.sq
      obtain ⟨olt, llt, qlt⟩ := Hd.out.lt
      refine wp_region_held_drew (S := (fun W => SQ12 W ob lo q eb lb p V S T kd s u v l)) (by kernel_rfl) ?_ (fun hHeld => ?_)
      · exact Hd.out.sq
      refine tkN (i := 0) (v := ?_) rfl ?_ ?_
      rotate_left
      · (intro w hSw; (try dsimp only at hSw); go_simp; try with_reducible rfl)
      try simp only [Act.put, sq1, sq2, sq3, sq4, sq5]
      refine tkN (i := 1) (v := ?_) rfl ?_ ?_
      rotate_left
      · (intro w hSw; (try dsimp only at hSw); go_simp; try with_reducible rfl)
      try simp only [Act.put, sq1, sq2, sq3, sq4, sq5, sq6]
      refine tkN (i := 2) (v := ?_) rfl ?_ ?_
      rotate_left
      · (intro w hSw; (try dsimp only at hSw); go_simp; try with_reducible rfl)
      try simp only [Act.put, sq1, sq2, sq3, sq4, sq5, sq6]
      refine tkN (i := 3) (v := ?_) rfl ?_ ?_
      rotate_left
      · (intro w hSw; (try dsimp only at hSw); go_simp; try with_reducible rfl)
      try simp only [Act.put, sq1, sq2, sq3, sq4, sq5, sq6]
      refine tkN (i := 4) (v := ?_) rfl ?_ ?_
      rotate_left
      · (intro w hSw; (try dsimp only at hSw); go_simp; try with_reducible rfl)
      try simp only [Act.put, sq1, sq2, sq3, sq4, sq5, sq6]
      refine tkN (i := 5) (v := ?_) rfl ?_ ?_
      rotate_left
      · (intro w hSw; (try dsimp only at hSw); go_simp; try with_reducible rfl)
      try simp only [Act.put, sq1, sq2, sq3, sq4, sq5, sq6]
      refine tkN (i := 6) (v := ?_) rfl ?_ ?_
      rotate_left
      · (intro w hSw; (try dsimp only at hSw); go_simp; try with_reducible rfl)
      try simp only [Act.put, sq1, sq2, sq3, sq4, sq5, sq6]
      refine tkN (i := 7) (v := ?_) rfl ?_ ?_
      rotate_left
      · (intro w hSw; (try dsimp only at hSw); go_simp; try with_reducible rfl)
      try simp only [Act.put, sq1, sq2, sq3, sq4, sq5, sq6]
      refine tkN (i := 8) (v := ?_) rfl ?_ ?_
      rotate_left
      · (intro w hSw; (try dsimp only at hSw); go_simp; try with_reducible rfl)
      try simp only [Act.put, sq1, sq2, sq3, sq4, sq5, sq6]
      refine tkN (i := 9) (v := ?_) rfl ?_ ?_
      rotate_left
      · (intro w hSw; (try dsimp only at hSw); go_simp; try with_reducible rfl)
      try simp only [Act.put, sq1, sq2, sq3, sq4, sq5, sq6]
      refine tkN (i := 10) (v := ?_) rfl ?_ ?_
      rotate_left
      · (intro w hSw; (try dsimp only at hSw); go_simp; try with_reducible rfl)
      try simp only [Act.put, sq1, sq2, sq3, sq4, sq5, sq6]
      refine tkN (i := 11) (v := ?_) rfl ?_ ?_
      rotate_left
      · (intro w hSw; (try dsimp only at hSw); go_simp; try with_reducible rfl)
      try simp only [Act.put, sq1, sq2, sq3, sq4, sq5, sq6]
      refine tkN (i := 12) (v := ?_) rfl ?_ ?_
      rotate_left
      · (intro w hSw; (try dsimp only at hSw); go_simp; try with_reducible rfl)
      try simp only [Act.put, sq1, sq2, sq3, sq4, sq5, sq6]
      refine tkN (i := 13) (v := ?_) rfl ?_ ?_
      rotate_left
      · (intro w hSw; (try dsimp only at hSw); go_simp; try with_reducible rfl)
      try simp only [Act.put, sq1, sq2, sq3, sq4, sq5, sq6]
      refine tkN (i := 14) (v := ?_) rfl ?_ ?_
      rotate_left
      · (intro w hSw; (try dsimp only at hSw); go_simp; try with_reducible rfl)
      try simp only [Act.put, sq1, sq2, sq3, sq4, sq5, sq6]
      refine tkN (i := 15) (v := ?_) rfl ?_ ?_
      rotate_left
      · (intro w hSw; (try dsimp only at hSw); go_simp; try with_reducible rfl)
      try simp only [Act.put, sq1, sq2, sq3, sq4, sq5, sq6]
      refine tkN (i := 16) (v := ?_) rfl ?_ ?_
      rotate_left
      · (intro w hSw; (try dsimp only at hSw); go_simp; try with_reducible rfl)
      try simp only [Act.put, sq1, sq2, sq3, sq4, sq5, sq6]
      refine tkN (i := 17) (v := ?_) rfl ?_ ?_
      rotate_left
      · (intro w hSw; (try dsimp only at hSw); go_simp; try with_reducible rfl)
      try simp only [Act.put, sq1, sq2, sq3, sq4, sq5, sq6]
      refine tkN (i := 18) (v := ?_) rfl ?_ ?_
      rotate_left
      · (intro w hSw; (try dsimp only at hSw); go_simp; try with_reducible rfl)
      try simp only [Act.put, sq1, sq2, sq3, sq4, sq5, sq6]
      refine tkN (i := 19) (v := ?_) rfl ?_ ?_
      rotate_left
      · (intro w hSw; (try dsimp only at hSw); go_simp; try with_reducible rfl)
      try simp only [Act.put, sq1, sq2, sq3, sq4, sq5, sq6]
      refine tkN (i := 20) (v := ?_) rfl ?_ ?_
      rotate_left
      · (intro w hSw; (try dsimp only at hSw); go_simp; try with_reducible rfl)
      try simp only [Act.put, sq1, sq2, sq3, sq4, sq5, sq6]
      refine tkN (i := 21) (v := ?_) rfl ?_ ?_
      rotate_left
      · (intro w hSw; (try dsimp only at hSw); go_simp; try with_reducible rfl)
      try simp only [Act.put, sq1, sq2, sq3, sq4, sq5, sq6]
      refine tkN (i := 22) (v := ?_) rfl ?_ ?_
      rotate_left
      · (intro w hSw; (try dsimp only at hSw); go_simp; try with_reducible rfl)
      try simp only [Act.put, sq1, sq2, sq3, sq4, sq5, sq6]
      refine tkN (i := 23) (v := ?_) rfl ?_ ?_
      rotate_left
      · (intro w hSw; (try dsimp only at hSw); go_simp; try with_reducible rfl)
      try simp only [Act.put, sq1, sq2, sq3, sq4, sq5, sq6]
      refine tkN (i := 24) (v := ?_) rfl ?_ ?_
      rotate_left
      · (intro w hSw; (try dsimp only at hSw); go_simp; try with_reducible rfl)
      try simp only [Act.put, sq1, sq2, sq3, sq4, sq5, sq6]
      refine tkN (i := 25) (v := ?_) rfl ?_ ?_
      rotate_left
      · (intro w hSw; (try dsimp only at hSw); go_simp; try with_reducible rfl)
      try simp only [Act.put, sq1, sq2, sq3, sq4, sq5, sq6]
      refine tkN (i := 26) (v := ?_) rfl ?_ ?_
      rotate_left
      · (intro w hSw; (try dsimp only at hSw); go_simp; try with_reducible rfl)
      try simp only [Act.put, sq1, sq2, sq3, sq4, sq5, sq6]
      refine tkN (i := 27) (v := ?_) rfl ?_ ?_
      rotate_left
      · (intro w hSw; (try dsimp only at hSw); go_simp; try with_reducible rfl)
      try simp only [Act.put, sq1, sq2, sq3, sq4, sq5, sq6]
      refine tkN (i := 28) (v := ?_) rfl ?_ ?_
      rotate_left
      · (intro w hSw; (try dsimp only at hSw); go_simp; try with_reducible rfl)
      try simp only [Act.put, sq1, sq2, sq3, sq4, sq5, sq6]
      refine tkN (i := 29) (v := ?_) rfl ?_ ?_
      rotate_left
      · (intro w hSw; (try dsimp only at hSw); go_simp; try with_reducible rfl)
      try simp only [Act.put, sq1, sq2, sq3, sq4, sq5, sq6]
      refine tkN (i := 30) (v := ?_) rfl ?_ ?_
      rotate_left
      · (intro w hSw; (try dsimp only at hSw); go_simp; try with_reducible rfl)
      try simp only [Act.put, sq1, sq2, sq3, sq4, sq5, sq6]
      refine tkN (i := 31) (v := ?_) rfl ?_ ?_
      rotate_left
      · (intro w hSw; (try dsimp only at hSw); go_simp; try with_reducible rfl)
      try simp only [Act.put, sq1, sq2, sq3, sq4, sq5, sq6]
      refine tkN (i := 32) (v := ?_) rfl ?_ ?_
      rotate_left
      · (intro w hSw; (try dsimp only at hSw); go_simp; try with_reducible rfl)
      try simp only [Act.put, sq1, sq2, sq3, sq4, sq5, sq6]
      refine tkN (i := 33) (v := ?_) rfl ?_ ?_
      rotate_left
      · (intro w hSw; (try dsimp only at hSw); go_simp; try with_reducible rfl)
      try simp only [Act.put, sq1, sq2, sq3, sq4, sq5, sq6]
      refine tkN (i := 34) (v := ?_) rfl ?_ ?_
      rotate_left
      · (intro w hSw; (try dsimp only at hSw); go_simp; try with_reducible rfl)
      try simp only [Act.put, sq1, sq2, sq3, sq4, sq5, sq6]
      refine tkN (i := 35) (v := ?_) rfl ?_ ?_
      rotate_left
      · (intro w hSw; (try dsimp only at hSw); go_simp; try with_reducible rfl)
      try simp only [Act.put, sq1, sq2, sq3, sq4, sq5, sq6]
      refine tkN (i := 36) (v := ?_) rfl ?_ ?_
      rotate_left
      · (intro w hSw; (try dsimp only at hSw); go_simp; try with_reducible rfl)
      try simp only [Act.put, sq1, sq2, sq3, sq4, sq5, sq6]
      refine tkN (i := 37) (v := ?_) rfl ?_ ?_
      rotate_left
      · (intro w hSw; (try dsimp only at hSw); go_simp; try with_reducible rfl)
      try simp only [Act.put, sq1, sq2, sq3, sq4, sq5, sq6]
      refine tkN (i := 38) (v := ?_) rfl ?_ ?_
      rotate_left
      · (intro w hSw; (try dsimp only at hSw); go_simp; try with_reducible rfl)
      try simp only [Act.put, sq1, sq2, sq3, sq4, sq5, sq6]
      refine tkN (i := 39) (v := ?_) rfl ?_ ?_
      rotate_left
      · (intro w hSw; (try dsimp only at hSw); go_simp; try with_reducible rfl)
      try simp only [Act.put, sq1, sq2, sq3, sq4, sq5, sq6]
      refine tkN (i := 40) (v := ?_) rfl ?_ ?_
      rotate_left
      · (intro w hSw; (try dsimp only at hSw); go_simp; try with_reducible rfl)
      try simp only [Act.put, sq1, sq2, sq3, sq4, sq5, sq6]
      refine tkN (i := 41) (v := ?_) rfl ?_ ?_
      rotate_left
      · (intro w hSw; (try dsimp only at hSw); go_simp; try with_reducible rfl)
      try simp only [Act.put, sq1, sq2, sq3, sq4, sq5, sq6]
      refine tkN (i := 42) (v := ?_) rfl ?_ ?_
      rotate_left
      · (intro w hSw; (try dsimp only at hSw); go_simp; try with_reducible rfl)
      try simp only [Act.put, sq1, sq2, sq3, sq4, sq5, sq6]
      refine tkN (i := 43) (v := ?_) rfl ?_ ?_
      rotate_left
      · (intro w hSw; (try dsimp only at hSw); go_simp; try with_reducible rfl)
      try simp only [Act.put, sq1, sq2, sq3, sq4, sq5, sq6]
      refine tkN (i := 44) (v := ?_) rfl ?_ ?_
      rotate_left
      · (intro w hSw; (try dsimp only at hSw); go_simp; try with_reducible rfl)
      try simp only [Act.put, sq1, sq2, sq3, sq4, sq5, sq6]
      refine tkN (i := 45) (v := ?_) rfl ?_ ?_
      rotate_left
      · (intro w hSw; (try dsimp only at hSw); go_simp; try with_reducible rfl)
      try simp only [Act.put, sq1, sq2, sq3, sq4, sq5, sq6]
      refine tkN (i := 46) (v := ?_) rfl ?_ ?_
      rotate_left
      · (intro w hSw; (try dsimp only at hSw); go_simp; try with_reducible rfl)
      try simp only [Act.put, sq1, sq2, sq3, sq4, sq5, sq6]
      refine tkF (i := 47) rfl ?_
      try simp only [Act.put, sq1, sq2, sq3, sq4, sq5, sq6]
      refine tkF (i := 48) rfl ?_
      try simp only [Act.put, sq1, sq2, sq3, sq4, sq5, sq6]
      refine tkF (i := 49) rfl ?_
      try simp only [Act.put, sq1, sq2, sq3, sq4, sq5, sq6]
      refine tkF (i := 50) rfl ?_
      try simp only [Act.put, sq1, sq2, sq3, sq4, sq5, sq6]
      refine tkF (i := 51) rfl ?_
      try simp only [Act.put, sq1, sq2, sq3, sq4, sq5, sq6]
      refine tkN (i := 52) (v := ?_) rfl ?_ ?_
      rotate_left
      · (intro w hSw; (try dsimp only at hSw); go_simp; try with_reducible rfl)
      try simp only [Act.put, sq1, sq2, sq3, sq4, sq5, sq6]
      refine wpAnyH_done (by kernel_rfl) ?_ _
      clear hrule x0 x1 x2 x3 x4 l0 l1 l2 y0 y1 y2 y3 y4 y5 y6 y7 y8 y9 y10 y11 y12 y13 y14 olt llt qlt
      go_wp2_with fail
      (try simp only [Exit.inBlock, Exit.then]); refine bodyPost_ret (results_none rfl _ _ _) rfl ?_
      exact Hd.out.stays HE.out
  · as_aux_lemma =>
      have g0 : (u == v) = false := by assumption
      have g1 : ¬ u < 0 := by omega
      have gd1 : decide (u < 0) = false := decide_eq_false g1
      have g2 : ¬ V ≤ u := by omega
      have gd2 : decide (V ≤ u) = false := decide_eq_false g2
      have g3 : ¬ v < 0 := by omega
      have gd3 : decide (v < 0) = false := decide_eq_false g3
      have g4 : ¬ V ≤ v := by omega
      have gd4 : decide (V ≤ v) = false := decide_eq_false g4
      have g5 : ¬ s < 0 := by omega
      have gd5 : decide (s < 0) = false := decide_eq_false g5
      have g6 : ¬ S ≤ s := by omega
      have gd6 : decide (S ≤ s) = false := decide_eq_false g6
      have g7 : ¬ l < 0 := by omega
      have gd7 : decide (l < 0) = false := decide_eq_false g7
      clear h1 h2 h3 h4 h5 h6 h7
      have hrule := SQ12.rule ob lo q eb lb p V S T kd s u v l
      obtain ⟨⟨x0, x1, x2, x3, x4⟩, ⟨l0, l1, l2⟩, y0, y1, y2, y3, y4, y5, y6, y7, y8, y9, y10, y11, y12, y13, y14⟩ := SQ12.rule _ _ _ _ _ _ _ _ _ _ _ _ _ _ _ Hd.out.sq
      obtain ⟨olt, llt, qlt⟩ := Hd.out.lt
      refine wp_region_held_drew (S := (fun W => SQ12 W ob lo q eb lb p V S T kd s u v l)) (by kernel_rfl) ?_ (fun hHeld => ?_)
      · exact Hd.out.sq
      refine tkN (i := 0) (v := ?_) rfl ?_ ?_
      rotate_left
      · (intro w hSw; (try dsimp only at hSw); go_simp; try with_reducible rfl)
      try simp only [Act.put, sq1, sq2, sq3, sq4, sq5]
      refine tkN (i := 1) (v := ?_) rfl ?_ ?_
      rotate_left
      · (intro w hSw; (try dsimp only at hSw); go_simp; try with_reducible rfl)
      try simp only [Act.put, sq1, sq2, sq3, sq4, sq5, sq6]
      refine tkN (i := 2) (v := ?_) rfl ?_ ?_
      rotate_left
      · (intro w hSw; (try dsimp only at hSw); go_simp; try with_reducible rfl)
      try simp only [Act.put, sq1, sq2, sq3, sq4, sq5, sq6]
      refine tkN (i := 3) (v := ?_) rfl ?_ ?_
      rotate_left
      · (intro w hSw; (try dsimp only at hSw); go_simp; try with_reducible rfl)
      try simp only [Act.put, sq1, sq2, sq3, sq4, sq5, sq6]
      refine tkN (i := 4) (v := ?_) rfl ?_ ?_
      rotate_left
      · (intro w hSw; (try dsimp only at hSw); go_simp; try with_reducible rfl)
      try simp only [Act.put, sq1, sq2, sq3, sq4, sq5, sq6]
      refine tkN (i := 5) (v := ?_) rfl ?_ ?_
      rotate_left
      · (intro w hSw; (try dsimp only at hSw); go_simp; try with_reducible rfl)
      try simp only [Act.put, sq1, sq2, sq3, sq4, sq5, sq6]
      refine tkN (i := 6) (v := ?_) rfl ?_ ?_
      rotate_left
      · (intro w hSw; (try dsimp only at hSw); go_simp; try with_reducible rfl)
      try simp only [Act.put, sq1, sq2, sq3, sq4, sq5, sq6]
      refine tkN (i := 7) (v := ?_) rfl ?_ ?_
      rotate_left
      · (intro w hSw; (try dsimp only at hSw); go_simp; try with_reducible rfl)
      try simp only [Act.put, sq1, sq2, sq3, sq4, sq5, sq6]
      refine tkN (i := 8) (v := ?_) rfl ?_ ?_
      rotate_left
      · (intro w hSw; (try dsimp only at hSw); go_simp; try with_reducible rfl)
      try simp only [Act.put, sq1, sq2, sq3, sq4, sq5, sq6]
      refine tkN (i := 9) (v := ?_) rfl ?_ ?_
      rotate_left
      · (intro w hSw; (try dsimp only at hSw); go_simp; try with_reducible rfl)
      try simp only [Act.put, sq1, sq2, sq3, sq4, sq5, sq6]
      refine tkN (i := 10) (v := ?_) rfl ?_ ?_
      rotate_left
      · (intro w hSw; (try dsimp only at hSw); go_simp; try with_reducible rfl)
      try simp only [Act.put, sq1, sq2, sq3, sq4, sq5, sq6]
      refine tkN (i := 11) (v := ?_) rfl ?_ ?_
      rotate_left
      · (intro w hSw; (try dsimp only at hSw); go_simp; try with_reducible rfl)
      try simp only [Act.put, sq1, sq2, sq3, sq4, sq5, sq6]
      refine tkN (i := 12) (v := ?_) rfl ?_ ?_
      rotate_left
      · (intro w hSw; (try dsimp only at hSw); go_simp; try with_reducible rfl)
      try simp only [Act.put, sq1, sq2, sq3, sq4, sq5, sq6]
      refine tkN (i := 13) (v := ?_) rfl ?_ ?_
      rotate_left
      · (intro w hSw; (try dsimp only at hSw); go_simp; try with_reducible rfl)
      try simp only [Act.put, sq1, sq2, sq3, sq4, sq5, sq6]
      refine tkN (i := 14) (v := ?_) rfl ?_ ?_
      rotate_left
      · (intro w hSw; (try dsimp only at hSw); go_simp; try with_reducible rfl)
      try simp only [Act.put, sq1, sq2, sq3, sq4, sq5, sq6]
      refine tkN (i := 15) (v := ?_) rfl ?_ ?_
      rotate_left
      · (intro w hSw; (try dsimp only at hSw); go_simp; try with_reducible rfl)
      try simp only [Act.put, sq1, sq2, sq3, sq4, sq5, sq6]
      refine tkN (i := 16) (v := ?_) rfl ?_ ?_
      rotate_left
      · (intro w hSw; (try dsimp only at hSw); go_simp; try with_reducible rfl)
      try simp only [Act.put, sq1, sq2, sq3, sq4, sq5, sq6]
      refine tkN (i := 17) (v := ?_) rfl ?_ ?_
      rotate_left
      · (intro w hSw; (try dsimp only at hSw); go_simp; try with_reducible rfl)
      try simp only [Act.put, sq1, sq2, sq3, sq4, sq5, sq6]
      refine tkN (i := 18) (v := ?_) rfl ?_ ?_
      rotate_left
      · (intro w hSw; (try dsimp only at hSw); go_simp; try with_reducible rfl)
      try simp only [Act.put, sq1, sq2, sq3, sq4, sq5, sq6]
      refine tkN (i := 19) (v := ?_) rfl ?_ ?_
      rotate_left
      · (intro w hSw; (try dsimp only at hSw); go_simp; try with_reducible rfl)
      try simp only [Act.put, sq1, sq2, sq3, sq4, sq5, sq6]
      refine tkN (i := 20) (v := ?_) rfl ?_ ?_
      rotate_left
      · (intro w hSw; (try dsimp only at hSw); go_simp; try with_reducible rfl)
      try simp only [Act.put, sq1, sq2, sq3, sq4, sq5, sq6]
      refine tkN (i := 21) (v := ?_) rfl ?_ ?_
      rotate_left
      · (intro w hSw; (try dsimp only at hSw); go_simp; try with_reducible rfl)
      try simp only [Act.put, sq1, sq2, sq3, sq4, sq5, sq6]
      refine tkN (i := 22) (v := ?_) rfl ?_ ?_
      rotate_left
      · (intro w hSw; (try dsimp only at hSw); go_simp; try with_reducible rfl)
      try simp only [Act.put, sq1, sq2, sq3, sq4, sq5, sq6]
      refine tkN (i := 23) (v := ?_) rfl ?_ ?_
      rotate_left
      · (intro w hSw; (try dsimp only at hSw); go_simp; try with_reducible rfl)
      try simp only [Act.put, sq1, sq2, sq3, sq4, sq5, sq6]
      refine tkN (i := 24) (v := ?_) rfl ?_ ?_
      rotate_left
      · (intro w hSw; (try dsimp only at hSw); go_simp; try with_reducible rfl)
      try simp only [Act.put, sq1, sq2, sq3, sq4, sq5, sq6]
      refine tkN (i := 25) (v := ?_) rfl ?_ ?_
      rotate_left
      · (intro w hSw; (try dsimp only at hSw); go_simp; try with_reducible rfl)
      try simp only [Act.put, sq1, sq2, sq3, sq4, sq5, sq6]
      refine tkN (i := 26) (v := ?_) rfl ?_ ?_
      rotate_left
      · (intro w hSw; (try dsimp only at hSw); go_simp; try with_reducible rfl)
      try simp only [Act.put, sq1, sq2, sq3, sq4, sq5, sq6]
      refine tkN (i := 27) (v := ?_) rfl ?_ ?_
      rotate_left
      · (intro w hSw; (try dsimp only at hSw); go_simp; try with_reducible rfl)
      try simp only [Act.put, sq1, sq2, sq3, sq4, sq5, sq6]
      refine tkN (i := 28) (v := ?_) rfl ?_ ?_
      rotate_left
      · (intro w hSw; (try dsimp only at hSw); go_simp; try with_reducible rfl)
      try simp only [Act.put, sq1, sq2, sq3, sq4, sq5, sq6]
      refine tkN (i := 29) (v := ?_) rfl ?_ ?_
      rotate_left
      · (intro w hSw; (try dsimp only at hSw); go_simp; try with_reducible rfl)
      try simp only [Act.put, sq1, sq2, sq3, sq4, sq5, sq6]
      refine tkN (i := 30) (v := ?_) rfl ?_ ?_
      rotate_left
      · (intro w hSw; (try dsimp only at hSw); go_simp; try with_reducible rfl)
      try simp only [Act.put, sq1, sq2, sq3, sq4, sq5, sq6]
      refine tkN (i := 31) (v := ?_) rfl ?_ ?_
      rotate_left
      · (intro w hSw; (try dsimp only at hSw); go_simp; try with_reducible rfl)
      try simp only [Act.put, sq1, sq2, sq3, sq4, sq5, sq6]
      refine tkN (i := 32) (v := ?_) rfl ?_ ?_
      rotate_left
      · (intro w hSw; (try dsimp only at hSw); go_simp; try with_reducible rfl)
      try simp only [Act.put, sq1, sq2, sq3, sq4, sq5, sq6]
      refine tkN (i := 33) (v := ?_) rfl ?_ ?_
      rotate_left
      · (intro w hSw; (try dsimp only at hSw); go_simp; try with_reducible rfl)
      try simp only [Act.put, sq1, sq2, sq3, sq4, sq5, sq6]
      refine tkN (i := 34) (v := ?_) rfl ?_ ?_
      rotate_left
      · (intro w hSw; (try dsimp only at hSw); go_simp; try with_reducible rfl)
      try simp only [Act.put, sq1, sq2, sq3, sq4, sq5, sq6]
      refine tkN (i := 35) (v := ?_) rfl ?_ ?_
      rotate_left
      · (intro w hSw; (try dsimp only at hSw); go_simp; try with_reducible rfl)
      try simp only [Act.put, sq1, sq2, sq3, sq4, sq5, sq6]
      refine tkN (i := 36) (v := ?_) rfl ?_ ?_
      rotate_left
      · (intro w hSw; (try dsimp only at hSw); go_simp; try with_reducible rfl)
      try simp only [Act.put, sq1, sq2, sq3, sq4, sq5, sq6]
      refine tkN (i := 37) (v := ?_) rfl ?_ ?_
      rotate_left
      · (intro w hSw; (try dsimp only at hSw); go_simp; try with_reducible rfl)
      try simp only [Act.put, sq1, sq2, sq3, sq4, sq5, sq6]
      refine tkN (i := 38) (v := ?_) rfl ?_ ?_
      rotate_left
      · (intro w hSw; (try dsimp only at hSw); go_simp; try with_reducible rfl)
      try simp only [Act.put, sq1, sq2, sq3, sq4, sq5, sq6]
      refine tkN (i := 39) (v := ?_) rfl ?_ ?_
      rotate_left
      · (intro w hSw; (try dsimp only at hSw); go_simp; try with_reducible rfl)
      try simp only [Act.put, sq1, sq2, sq3, sq4, sq5, sq6]
      refine tkN (i := 40) (v := ?_) rfl ?_ ?_
      rotate_left
      · (intro w hSw; (try dsimp only at hSw); go_simp; try with_reducible rfl)
      try simp only [Act.put, sq1, sq2, sq3, sq4, sq5, sq6]
      refine tkN (i := 41) (v := ?_) rfl ?_ ?_
      rotate_left
      · (intro w hSw; (try dsimp only at hSw); go_simp; try with_reducible rfl)
      try simp only [Act.put, sq1, sq2, sq3, sq4, sq5, sq6]
      refine tkN (i := 42) (v := ?_) rfl ?_ ?_
      rotate_left
      · (intro w hSw; (try dsimp only at hSw); go_simp; try with_reducible rfl)
      try simp only [Act.put, sq1, sq2, sq3, sq4, sq5, sq6]
      refine tkN (i := 43) (v := ?_) rfl ?_ ?_
      rotate_left
      · (intro w hSw; (try dsimp only at hSw); go_simp; try with_reducible rfl)
      try simp only [Act.put, sq1, sq2, sq3, sq4, sq5, sq6]
      refine tkN (i := 44) (v := ?_) rfl ?_ ?_
      rotate_left
      · (intro w hSw; (try dsimp only at hSw); go_simp; try with_reducible rfl)
      try simp only [Act.put, sq1, sq2, sq3, sq4, sq5, sq6]
      refine tkN (i := 45) (v := ?_) rfl ?_ ?_
      rotate_left
      · (intro w hSw; (try dsimp only at hSw); go_simp; try with_reducible rfl)
      try simp only [Act.put, sq1, sq2, sq3, sq4, sq5, sq6]
      refine tkN (i := 46) (v := ?_) rfl ?_ ?_
      rotate_left
      · (intro w hSw; (try dsimp only at hSw); go_simp; try with_reducible rfl)
      try simp only [Act.put, sq1, sq2, sq3, sq4, sq5, sq6]
      refine tkN (i := 47) (v := ?_) rfl ?_ ?_
      rotate_left
      · (intro w hSw; (try dsimp only at hSw); go_simp; try with_reducible rfl)
      try simp only [Act.put, sq1, sq2, sq3, sq4, sq5, sq6]
      refine tkN (i := 48) (v := ?_) rfl ?_ ?_
      rotate_left
      · (intro w hSw; (try dsimp only at hSw); go_simp; try with_reducible rfl)
      try simp only [Act.put, sq1, sq2, sq3, sq4, sq5, sq6]
      refine tkN (i := 49) (v := ?_) rfl ?_ ?_
      rotate_left
      · (intro w hSw; (try dsimp only at hSw); go_simp; try with_reducible rfl)
      try simp only [Act.put, sq1, sq2, sq3, sq4, sq5, sq6]
      refine wpAnyH_ready (rs := [50]) (by kernel_rfl) (by simp) ?_
      refine AllReadyH.cons rfl (fun K hK => ?_) ?_
      rotate_left
      · exact AllReadyH.nil
      go_simp
      (refine (levels_yes _ _ _ HR.out _).mono ?_; rintro e w2 ⟨rfl, B1⟩; have H1 := Lib.hid (Hd.out.below B1))
      go_wp2_with fail
      refine hK.out _ _ ?_ (fun hHeld => ?_)
      · (try dsimp only); (first | (with_reducible assumption) | (with_reducible exact H1.out.sq) | (with_reducible exact Hd.out.sq))
      clear hK K
      try simp only [Act.put, sq1, sq2, sq3, sq4, sq5, sq6]
      refine tkN (i := 51) (v := ?_) rfl ?_ ?_
      rotate_left
      · (intro w hSw; (try dsimp only at hSw); go_simp; try with_reducible rfl)
      try simp only [Act.put, sq1, sq2, sq3, sq4, sq5, sq6]
      refine tkN (i := 52) (v := ?_) rfl ?_ ?_
      rotate_left
      · (intro w hSw; (try dsimp only at hSw); go_simp; try with_reducible rfl)
      try simp only [Act.put, sq1, sq2, sq3, sq4, sq5, sq6]
      refine wpAnyH_done (by kernel_rfl) ?_ _
      clear hrule x0 x1 x2 x3 x4 l0 l1 l2 y0 y1 y2 y3 y4 y5 y6 y7 y8 y9 y10 y11 y12 y13 y14 olt llt qlt
      go_wp2_with fail
      (try simp only [Exit.inBlock, Exit.then]); refine bodyPost_ret (results_none rfl _ _ _) rfl ?_
      exact H1.out.stays HE.out
end
end Go.Proofs.Ytaooglagddphnaa
