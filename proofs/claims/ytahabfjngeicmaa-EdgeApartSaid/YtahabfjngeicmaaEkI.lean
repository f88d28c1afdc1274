/- A call that may not be is passed over. Printed by wip/tools/edi.py. -/
import Derived.Test.YtahabfjngeicmaaEkH
namespace Go.Proofs.Ytahabfjngeicmaa
open Go.RowKit

set_option maxRecDepth 100000

section
variable {w : World} {base q p gb cap m : Nat} {V S T kd s u v l : Int} {t : Bool} {f : Nat → Int} {vl : Value} {ls : List E1}
set_option maxHeartbeats 8000000 in
theorem step_bad (h : PW w base q V S T p gb cap m f vl ls) (hE : ER V S T f ls) (hl : ls.length ≤ 1000) (hx : ((u == v) = true) ∨ ((u == v) = false ∧ u < 0) ∨ ((u == v) = false ∧ 0 ≤ u ∧ V ≤ u) ∨ ((u == v) = false ∧ 0 ≤ u ∧ u < V ∧ v < 0) ∨ ((u == v) = false ∧ 0 ≤ u ∧ u < V ∧ 0 ≤ v ∧ V ≤ v) ∨ ((u == v) = false ∧ 0 ≤ u ∧ u < V ∧ 0 ≤ v ∧ v < V ∧ s < 0) ∨ ((u == v) = false ∧ 0 ≤ u ∧ u < V ∧ 0 ≤ v ∧ v < V ∧ 0 ≤ s ∧ S ≤ s) ∨ ((u == v) = false ∧ 0 ≤ u ∧ u < V ∧ 0 ≤ v ∧ v < V ∧ 0 ≤ s ∧ s < S ∧ l < 0) ∨ ((u == v) = false ∧ 0 ≤ u ∧ u < V ∧ 0 ≤ v ∧ v < V ∧ 0 ≤ s ∧ s < S ∧ 0 ≤ l ∧ lv V ≤ l)) :
    Calls Try.prog 24 #[.pointer (some ⟨q, 0, none⟩), vO11 kd s u v l t] w (StD w base q V S T p gb cap m ls s u v) := by
  have HE := Lib.hid hE
  have HR := Lib.hid h.em.hR
  have HLN := Lib.hid hl
  have al : ∀ (W : World), (W.alloc (.cells #[.int .i64 kd, .int .i64 s, .int .i64 u, .int .i64 v, .int .i64 l, .bool t] 72)).heap.size = W.heap.size + 1 := fun W => by simp
  have HX : Hid (SX w ((w.alloc (.cells #[.int .i64 kd, .int .i64 s, .int .i64 u, .int .i64 v, .int .i64 l, .bool t] 72)).alloc (.cells #[.int .i64 V, .int .i64 S, .int .i64 T] 23)) base q w.heap.size (w.heap.size + 1) V S T p gb cap m f vl ls kd s u v l t) := Lib.hid ⟨h.below (((Below.refl _ _).alloc (Nat.le_refl _) _).alloc (by simp) _), (Blk.new _ _ _).alloc _, new_next _ _ _ _ _, (((Below.refl _ _).alloc (Nat.le_refl _) _).alloc (by simp) _).mono h.size, fun i cs hz => (hz.alloc _).alloc _, fun i cs hz _ => (hz.alloc _).alloc _⟩
  clear al
  obtain ⟨y0, y1, y2, y3, y4, y5, y6, y7⟩ := h.pq.cells
  have qlt := h.pq.lt
  have HV0 : Hid (w.cell? ⟨q, 7, none⟩ = some vl) := Lib.hid y7
  clear h hE hl
  go_enter Try.func24, Try.ntmps24
  go_wp2_with fail
  clear y0 y1 y2 y3 y4 y5 y6 y7 qlt
  generalize (w.alloc (.cells #[.int .i64 kd, .int .i64 s, .int .i64 u, .int .i64 v, .int .i64 l, .bool t] 72)).alloc (.cells #[.int .i64 V, .int .i64 S, .int .i64 T] 23) = w1 at HX ⊢
  generalize w.heap.size + 1 = lo at HX ⊢
  generalize w.heap.size = ob at HX ⊢
  have Hd := Lib.hid HX.out.drew
  clear HX
  rcases hx with hx | ⟨h0, hx⟩ | ⟨h0, h1, hx⟩ | ⟨h0, h1, h2, hx⟩ | ⟨h0, h1, h2, h3, hx⟩ | ⟨h0, h1, h2, h3, h4, hx⟩ | ⟨h0, h1, h2, h3, h4, h5, hx⟩ | ⟨h0, h1, h2, h3, h4, h5, h6, hx⟩ | ⟨h0, h1, h2, h3, h4, h5, h6, h7, hx⟩
  · as_aux_lemma =>
      have hrule := SQ.rule ob lo q p V S T vl kd s u v l t
      obtain ⟨⟨x0, x1, x2, x3, x4, x5⟩, ⟨l0, l1, l2⟩, y0, y1, y2, y3, y4, y5, y6, y7⟩ := SQ.rule _ _ _ _ _ _ _ _ _ _ _ _ _ _ _ Hd.out.sq
      obtain ⟨olt, llt, qlt⟩ := Hd.out.lt
      refine wp_region_held_drew (S := (fun W => SQ W ob lo q p V S T vl kd s u v l t)) (by kernel_rfl) ?_ (fun hHeld => ?_)
      · exact Hd.out.sq
      refine tkN (i := 0) (v := ?_) rfl ?_ ?_
      rotate_left
      · (intro w hSw; (try dsimp only at hSw); go_simp; try with_reducible rfl)
      try simp only [Act.put, sq1, sq2, sq3, sq4, sq5]
      refine tkN (i := 1) (v := ?_) rfl ?_ ?_
      rotate_left
      · (intro w hSw; (try dsimp only at hSw); go_simp; try with_reducible rfl)
      try simp only [Act.put, sq1, sq2, sq3, sq4, sq5, sq6]
      refine tkN (i := 2) (v := ?_) rfl ?_ ?_
      rotate_left
      · (intro w hSw; (try dsimp only at hSw); go_simp; try with_reducible rfl)
      try simp only [Act.put, sq1, sq2, sq3, sq4, sq5, sq6]
      refine tkN (i := 3) (v := ?_) rfl ?_ ?_
      rotate_left
      · (intro w hSw; (try dsimp only at hSw); go_simp; try with_reducible rfl)
      try simp only [Act.put, sq1, sq2, sq3, sq4, sq5, sq6]
      refine tkN (i := 4) (v := ?_) rfl ?_ ?_
      rotate_left
      · (intro w hSw; (try dsimp only at hSw); go_simp; try with_reducible rfl)
      try simp only [Act.put, sq1, sq2, sq3, sq4, sq5, sq6]
      refine tkN (i := 5) (v := ?_) rfl ?_ ?_
      rotate_left
      · (intro w hSw; (try dsimp only at hSw); go_simp; try with_reducible rfl)
      try simp only [Act.put, sq1, sq2, sq3, sq4, sq5, sq6]
      refine tkF (i := 6) rfl ?_
      try simp only [Act.put, sq1, sq2, sq3, sq4, sq5, sq6]
      refine tkF (i := 7) rfl ?_
      try simp only [Act.put, sq1, sq2, sq3, sq4, sq5, sq6]
      refine tkF (i := 8) rfl ?_
      try simp only [Act.put, sq1, sq2, sq3, sq4, sq5, sq6]
      refine tkN (i := 9) (v := ?_) rfl ?_ ?_
      rotate_left
      · (intro w hSw; (try dsimp only at hSw); go_simp; try with_reducible rfl)
      try simp only [Act.put, sq1, sq2, sq3, sq4, sq5, sq6]
      refine tkN (i := 10) (v := ?_) rfl ?_ ?_
      rotate_left
      · (intro w hSw; (try dsimp only at hSw); go_simp; try with_reducible rfl)
      try simp only [Act.put, sq1, sq2, sq3, sq4, sq5, sq6]
      refine tkF (i := 11) rfl ?_
      try simp only [Act.put, sq1, sq2, sq3, sq4, sq5, sq6]
      refine tkF (i := 12) rfl ?_
      try simp only [Act.put, sq1, sq2, sq3, sq4, sq5, sq6]
      refine tkF (i := 13) rfl ?_
      try simp only [Act.put, sq1, sq2, sq3, sq4, sq5, sq6]
      refine tkF (i := 14) rfl ?_
      try simp only [Act.put, sq1, sq2, sq3, sq4, sq5, sq6]
      refine tkF (i := 15) rfl ?_
      try simp only [Act.put, sq1, sq2, sq3, sq4, sq5, sq6]
      refine tkN (i := 16) (v := ?_) rfl ?_ ?_
      rotate_left
      · (intro w hSw; (try dsimp only at hSw); go_simp; try with_reducible rfl)
      try simp only [Act.put, sq1, sq2, sq3, sq4, sq5, sq6]
      refine tkN (i := 17) (v := ?_) rfl ?_ ?_
      rotate_left
      · (intro w hSw; (try dsimp only at hSw); go_simp; try with_reducible rfl)
      try simp only [Act.put, sq1, sq2, sq3, sq4, sq5, sq6]
      refine tkF (i := 18) rfl ?_
      try simp only [Act.put, sq1, sq2, sq3, sq4, sq5, sq6]
      refine tkF (i := 19) rfl ?_
      try simp only [Act.put, sq1, sq2, sq3, sq4, sq5, sq6]
      refine tkF (i := 20) rfl ?_
      try simp only [Act.put, sq1, sq2, sq3, sq4, sq5, sq6]
      refine tkN (i := 21) (v := ?_) rfl ?_ ?_
      rotate_left
      · (intro w hSw; (try dsimp only at hSw); go_simp; try with_reducible rfl)
      try simp only [Act.put, sq1, sq2, sq3, sq4, sq5, sq6]
      refine tkN (i := 22) (v := ?_) rfl ?_ ?_
      rotate_left
      · (intro w hSw; (try dsimp only at hSw); go_simp; try with_reducible rfl)
      try simp only [Act.put, sq1, sq2, sq3, sq4, sq5, sq6]
      refine tkF (i := 23) rfl ?_
      try simp only [Act.put, sq1, sq2, sq3, sq4, sq5, sq6]
      refine tkF (i := 24) rfl ?_
      try simp only [Act.put, sq1, sq2, sq3, sq4, sq5, sq6]
      refine tkF (i := 25) rfl ?_
      try simp only [Act.put, sq1, sq2, sq3, sq4, sq5, sq6]
      refine tkF (i := 26) rfl ?_
      try simp only [Act.put, sq1, sq2, sq3, sq4, sq5, sq6]
      refine tkF (i := 27) rfl ?_
      try simp only [Act.put, sq1, sq2, sq3, sq4, sq5, sq6]
      refine tkN (i := 28) (v := ?_) rfl ?_ ?_
      rotate_left
      · (intro w hSw; (try dsimp only at hSw); go_simp; try with_reducible rfl)
      try simp only [Act.put, sq1, sq2, sq3, sq4, sq5, sq6]
      refine tkN (i := 29) (v := ?_) rfl ?_ ?_
      rotate_left
      · (intro w hSw; (try dsimp only at hSw); go_simp; try with_reducible rfl)
      try simp only [Act.put, sq1, sq2, sq3, sq4, sq5, sq6]
      refine tkF (i := 30) rfl ?_
      try simp only [Act.put, sq1, sq2, sq3, sq4, sq5, sq6]
      refine tkF (i := 31) rfl ?_
      try simp only [Act.put, sq1, sq2, sq3, sq4, sq5, sq6]
      refine tkF (i := 32) rfl ?_
      try simp only [Act.put, sq1, sq2, sq3, sq4, sq5, sq6]
      refine tkN (i := 33) (v := ?_) rfl ?_ ?_
      rotate_left
      · (intro w hSw; (try dsimp only at hSw); go_simp; try with_reducible rfl)
      try simp only [Act.put, sq1, sq2, sq3, sq4, sq5, sq6]
      refine tkN (i := 34) (v := ?_) rfl ?_ ?_
      rotate_left
      · (intro w hSw; (try dsimp only at hSw); go_simp; try with_reducible rfl)
      try simp only [Act.put, sq1, sq2, sq3, sq4, sq5, sq6]
      refine tkF (i := 35) rfl ?_
      try simp only [Act.put, sq1, sq2, sq3, sq4, sq5, sq6]
      refine tkF (i := 36) rfl ?_
      try simp only [Act.put, sq1, sq2, sq3, sq4, sq5, sq6]
      refine tkF (i := 37) rfl ?_
      try simp only [Act.put, sq1, sq2, sq3, sq4, sq5, sq6]
      refine tkF (i := 38) rfl ?_
      try simp only [Act.put, sq1, sq2, sq3, sq4, sq5, sq6]
      refine tkF (i := 39) rfl ?_
      try simp only [Act.put, sq1, sq2, sq3, sq4, sq5, sq6]
      refine tkN (i := 40) (v := ?_) rfl ?_ ?_
      rotate_left
      · (intro w hSw; (try dsimp only at hSw); go_simp; try with_reducible rfl)
      try simp only [Act.put, sq1, sq2, sq3, sq4, sq5, sq6]
      refine tkN (i := 41) (v := ?_) rfl ?_ ?_
      rotate_left
      · (intro w hSw; (try dsimp only at hSw); go_simp; try with_reducible rfl)
      try simp only [Act.put, sq1, sq2, sq3, sq4, sq5, sq6]
      refine tkF (i := 42) rfl ?_
      try simp only [Act.put, sq1, sq2, sq3, sq4, sq5, sq6]
      refine tkF (i := 43) rfl ?_
      try simp only [Act.put, sq1, sq2, sq3, sq4, sq5, sq6]
      refine tkF (i := 44) rfl ?_
      try simp only [Act.put, sq1, sq2, sq3, sq4, sq5, sq6]
      refine tkN (i := 45) (v := ?_) rfl ?_ ?_
      rotate_left
      · (intro w hSw; (try dsimp only at hSw); go_simp; try with_reducible rfl)
      try simp only [Act.put, sq1, sq2, sq3, sq4, sq5, sq6]
      refine tkN (i := 46) (v := ?_) rfl ?_ ?_
      rotate_left
      · (intro w hSw; (try dsimp only at hSw); go_simp; try with_reducible rfl)
      try simp only [Act.put, sq1, sq2, sq3, sq4, sq5, sq6]
      refine tkF (i := 47) rfl ?_
      try simp only [Act.put, sq1, sq2, sq3, sq4, sq5, sq6]
      refine tkF (i := 48) rfl ?_
      try simp only [Act.put, sq1, sq2, sq3, sq4, sq5, sq6]
      refine tkF (i := 49) rfl ?_
      try simp only [Act.put, sq1, sq2, sq3, sq4, sq5, sq6]
      refine tkF (i := 50) rfl ?_
      try simp only [Act.put, sq1, sq2, sq3, sq4, sq5, sq6]
      refine tkF (i := 51) rfl ?_
      try simp only [Act.put, sq1, sq2, sq3, sq4, sq5, sq6]
      refine tkN (i := 52) (v := ?_) rfl ?_ ?_
      rotate_left
      · (intro w hSw; (try dsimp only at hSw); go_simp; try with_reducible rfl)
      try simp only [Act.put, sq1, sq2, sq3, sq4, sq5, sq6]
      refine wpAnyH_done (by kernel_rfl) ?_ _
      clear hrule x0 x1 x2 x3 x4 x5 l0 l1 l2 y0 y1 y2 y3 y4 y5 y6 y7 olt llt qlt
      go_wp2_with fail
      go_end0
      exact Hd.out.fin HE.out (by omega) (by omega) (Kp5.refl _ _ _ _)
  · as_aux_lemma =>
      have g0 : (u == v) = false := by assumption
      have hrule := SQ.rule ob lo q p V S T vl kd s u v l t
      obtain ⟨⟨x0, x1, x2, x3, x4, x5⟩, ⟨l0, l1, l2⟩, y0, y1, y2, y3, y4, y5, y6, y7⟩ := SQ.rule _ _ _ _ _ _ _ _ _ _ _ _ _ _ _ Hd.out.sq
      obtain ⟨olt, llt, qlt⟩ := Hd.out.lt
      refine wp_region_held_drew (S := (fun W => SQ W ob lo q p V S T vl kd s u v l t)) (by kernel_rfl) ?_ (fun hHeld => ?_)
      · exact Hd.out.sq
      refine tkN (i := 0) (v := ?_) rfl ?_ ?_
      rotate_left
      · (intro w hSw; (try dsimp only at hSw); go_simp; try with_reducible rfl)
      try simp only [Act.put, sq1, sq2, sq3, sq4, sq5]
      refine tkN (i := 1) (v := ?_) rfl ?_ ?_
      rotate_left
      · (intro w hSw; (try dsimp only at hSw); go_simp; try with_reducible rfl)
      try simp only [Act.put, sq1, sq2, sq3, sq4, sq5, sq6]
      refine tkN (i := 2) (v := ?_) rfl ?_ ?_
      rotate_left
      · (intro w hSw; (try dsimp only at hSw); go_simp; try with_reducible rfl)
      try simp only [Act.put, sq1, sq2, sq3, sq4, sq5, sq6]
      refine tkN (i := 3) (v := ?_) rfl ?_ ?_
      rotate_left
      · (intro w hSw; (try dsimp only at hSw); go_simp; try with_reducible rfl)
      try simp only [Act.put, sq1, sq2, sq3, sq4, sq5, sq6]
      refine tkN (i := 4) (v := ?_) rfl ?_ ?_
      rotate_left
      · (intro w hSw; (try dsimp only at hSw); go_simp; try with_reducible rfl)
      try simp only [Act.put, sq1, sq2, sq3, sq4, sq5, sq6]
      refine tkN (i := 5) (v := ?_) rfl ?_ ?_
      rotate_left
      · (intro w hSw; (try dsimp only at hSw); go_simp; try with_reducible rfl)
      try simp only [Act.put, sq1, sq2, sq3, sq4, sq5, sq6]
      refine tkN (i := 6) (v := ?_) rfl ?_ ?_
      rotate_left
      · (intro w hSw; (try dsimp only at hSw); go_simp; try with_reducible rfl)
      try simp only [Act.put, sq1, sq2, sq3, sq4, sq5, sq6]
      refine tkN (i := 7) (v := ?_) rfl ?_ ?_
      rotate_left
      · (intro w hSw; (try dsimp only at hSw); go_simp; try with_reducible rfl)
      try simp only [Act.put, sq1, sq2, sq3, sq4, sq5, sq6]
      refine tkN (i := 8) (v := ?_) rfl ?_ ?_
      rotate_left
      · (intro w hSw; (try dsimp only at hSw); go_simp; try with_reducible rfl)
      try simp only [Act.put, sq1, sq2, sq3, sq4, sq5, sq6]
      refine tkN (i := 9) (v := ?_) rfl ?_ ?_
      rotate_left
      · (intro w hSw; (try dsimp only at hSw); go_simp; try with_reducible rfl)
      try simp only [Act.put, sq1, sq2, sq3, sq4, sq5, sq6]
      refine tkN (i := 10) (v := ?_) rfl ?_ ?_
      rotate_left
      · (intro w hSw; (try dsimp only at hSw); go_simp; try with_reducible rfl)
      try simp only [Act.put, sq1, sq2, sq3, sq4, sq5, sq6]
      refine tkF (i := 11) rfl ?_
      try simp only [Act.put, sq1, sq2, sq3, sq4, sq5, sq6]
      refine tkF (i := 12) rfl ?_
      try simp only [Act.put, sq1, sq2, sq3, sq4, sq5, sq6]
      refine tkF (i := 13) rfl ?_
      try simp only [Act.put, sq1, sq2, sq3, sq4, sq5, sq6]
      refine tkF (i := 14) rfl ?_
      try simp only [Act.put, sq1, sq2, sq3, sq4, sq5, sq6]
      refine tkF (i := 15) rfl ?_
      try simp only [Act.put, sq1, sq2, sq3, sq4, sq5, sq6]
      refine tkN (i := 16) (v := ?_) rfl ?_ ?_
      rotate_left
      · (intro w hSw; (try dsimp only at hSw); go_simp; try with_reducible rfl)
      try simp only [Act.put, sq1, sq2, sq3, sq4, sq5, sq6]
      refine tkN (i := 17) (v := ?_) rfl ?_ ?_
      rotate_left
      · (intro w hSw; (try dsimp only at hSw); go_simp; try with_reducible rfl)
      try simp only [Act.put, sq1, sq2, sq3, sq4, sq5, sq6]
      refine tkF (i := 18) rfl ?_
      try simp only [Act.put, sq1, sq2, sq3, sq4, sq5, sq6]
      refine tkF (i := 19) rfl ?_
      try simp only [Act.put, sq1, sq2, sq3, sq4, sq5, sq6]
      refine tkF (i := 20) rfl ?_
      try simp only [Act.put, sq1, sq2, sq3, sq4, sq5, sq6]
      refine tkN (i := 21) (v := ?_) rfl ?_ ?_
      rotate_left
      · (intro w hSw; (try dsimp only at hSw); go_simp; try with_reducible rfl)
      try simp only [Act.put, sq1, sq2, sq3, sq4, sq5, sq6]
      refine tkN (i := 22) (v := ?_) rfl ?_ ?_
      rotate_left
      · (intro w hSw; (try dsimp only at hSw); go_simp; try with_reducible rfl)
      try simp only [Act.put, sq1, sq2, sq3, sq4, sq5, sq6]
      refine tkF (i := 23) rfl ?_
      try simp only [Act.put, sq1, sq2, sq3, sq4, sq5, sq6]
      refine tkF (i := 24) rfl ?_
      try simp only [Act.put, sq1, sq2, sq3, sq4, sq5, sq6]
      refine tkF (i := 25) rfl ?_
      try simp only [Act.put, sq1, sq2, sq3, sq4, sq5, sq6]
      refine tkF (i := 26) rfl ?_
      try simp only [Act.put, sq1, sq2, sq3, sq4, sq5, sq6]
      refine tkF (i := 27) rfl ?_
      try simp only [Act.put, sq1, sq2, sq3, sq4, sq5, sq6]
      refine tkN (i := 28) (v := ?_) rfl ?_ ?_
      rotate_left
      · (intro w hSw; (try dsimp only at hSw); go_simp; try with_reducible rfl)
      try simp only [Act.put, sq1, sq2, sq3, sq4, sq5, sq6]
      refine tkN (i := 29) (v := ?_) rfl ?_ ?_
      rotate_left
      · (intro w hSw; (try dsimp only at hSw); go_simp; try with_reducible rfl)
      try simp only [Act.put, sq1, sq2, sq3, sq4, sq5, sq6]
      refine tkF (i := 30) rfl ?_
      try simp only [Act.put, sq1, sq2, sq3, sq4, sq5, sq6]
      refine tkF (i := 31) rfl ?_
      try simp only [Act.put, sq1, sq2, sq3, sq4, sq5, sq6]
      refine tkF (i := 32) rfl ?_
      try simp only [Act.put, sq1, sq2, sq3, sq4, sq5, sq6]
      refine tkN (i := 33) (v := ?_) rfl ?_ ?_
      rotate_left
      · (intro w hSw; (try dsimp only at hSw); go_simp; try with_reducible rfl)
      try simp only [Act.put, sq1, sq2, sq3, sq4, sq5, sq6]
      refine tkN (i := 34) (v := ?_) rfl ?_ ?_
      rotate_left
      · (intro w hSw; (try dsimp only at hSw); go_simp; try with_reducible rfl)
      try simp only [Act.put, sq1, sq2, sq3, sq4, sq5, sq6]
      refine tkF (i := 35) rfl ?_
      try simp only [Act.put, sq1, sq2, sq3, sq4, sq5, sq6]
      refine tkF (i := 36) rfl ?_
      try simp only [Act.put, sq1, sq2, sq3, sq4, sq5, sq6]
      refine tkF (i := 37) rfl ?_
      try simp only [Act.put, sq1, sq2, sq3, sq4, sq5, sq6]
      refine tkF (i := 38) rfl ?_
      try simp only [Act.put, sq1, sq2, sq3, sq4, sq5, sq6]
      refine tkF (i := 39) rfl ?_
      try simp only [Act.put, sq1, sq2, sq3, sq4, sq5, sq6]
      refine tkN (i := 40) (v := ?_) rfl ?_ ?_
      rotate_left
      · (intro w hSw; (try dsimp only at hSw); go_simp; try with_reducible rfl)
      try simp only [Act.put, sq1, sq2, sq3, sq4, sq5, sq6]
      refine tkN (i := 41) (v := ?_) rfl ?_ ?_
      rotate_left
      · (intro w hSw; (try dsimp only at hSw); go_simp; try with_reducible rfl)
      try simp only [Act.put, sq1, sq2, sq3, sq4, sq5, sq6]
      refine tkF (i := 42) rfl ?_
      try simp only [Act.put, sq1, sq2, sq3, sq4, sq5, sq6]
      refine tkF (i := 43) rfl ?_
      try simp only [Act.put, sq1, sq2, sq3, sq4, sq5, sq6]
      refine tkF (i := 44) rfl ?_
      try simp only [Act.put, sq1, sq2, sq3, sq4, sq5, sq6]
      refine tkN (i := 45) (v := ?_) rfl ?_ ?_
      rotate_left
      · (intro w hSw; (try dsimp only at hSw); go_simp; try with_reducible rfl)
      try simp only [Act.put, sq1, sq2, sq3, sq4, sq5, sq6]
      refine tkN (i := 46) (v := ?_) rfl ?_ ?_
      rotate_left
      · (intro w hSw; (try dsimp only at hSw); go_simp; try with_reducible rfl)
      try simp only [Act.put, sq1, sq2, sq3, sq4, sq5, sq6]
      refine tkF (i := 47) rfl ?_
      try simp only [Act.put, sq1, sq2, sq3, sq4, sq5, sq6]
      refine tkF (i := 48) rfl ?_
      try simp only [Act.put, sq1, sq2, sq3, sq4, sq5, sq6]
      refine tkF (i := 49) rfl ?_
      try simp only [Act.put, sq1, sq2, sq3, sq4, sq5, sq6]
      refine tkF (i := 50) rfl ?_
      try simp only [Act.put, sq1, sq2, sq3, sq4, sq5, sq6]
      refine tkF (i := 51) rfl ?_
      try simp only [Act.put, sq1, sq2, sq3, sq4, sq5, sq6]
      refine tkN (i := 52) (v := ?_) rfl ?_ ?_
      rotate_left
      · (intro w hSw; (try dsimp only at hSw); go_simp; try with_reducible rfl)
      try simp only [Act.put, sq1, sq2, sq3, sq4, sq5, sq6]
      refine wpAnyH_done (by kernel_rfl) ?_ _
      clear hrule x0 x1 x2 x3 x4 x5 l0 l1 l2 y0 y1 y2 y3 y4 y5 y6 y7 olt llt qlt
      go_wp2_with fail
      go_end0
      exact Hd.out.fin HE.out (by omega) (by omega) (Kp5.refl _ _ _ _)
  · as_aux_lemma =>
      have g0 : (u == v) = false := by assumption
      have g1 : ¬ u < 0 := by omega
      have gd1 : decide (u < 0) = false := decide_eq_false g1
      clear h1
      have hrule := SQ.rule ob lo q p V S T vl kd s u v l t
      obtain ⟨⟨x0, x1, x2, x3, x4, x5⟩, ⟨l0, l1, l2⟩, y0, y1, y2, y3, y4, y5, y6, y7⟩ := SQ.rule _ _ _ _ _ _ _ _ _ _ _ _ _ _ _ Hd.out.sq
      obtain ⟨olt, llt, qlt⟩ := Hd.out.lt
      refine wp_region_held_drew (S := (fun W => SQ W ob lo q p V S T vl kd s u v l t)) (by kernel_rfl) ?_ (fun hHeld => ?_)
      · exact Hd.out.sq
      refine tkN (i := 0) (v := ?_) rfl ?_ ?_
      rotate_left
      · (intro w hSw; (try dsimp only at hSw); go_simp; try with_reducible rfl)
      try simp only [Act.put, sq1, sq2, sq3, sq4, sq5]
      refine tkN (i := 1) (v := ?_) rfl ?_ ?_
      rotate_left
      · (intro w hSw; (try dsimp only at hSw); go_simp; try with_reducible rfl)
      try simp only [Act.put, sq1, sq2, sq3, sq4, sq5, sq6]
      refine tkN (i := 2) (v := ?_) rfl ?_ ?_
      rotate_left
      · (intro w hSw; (try dsimp only at hSw); go_simp; try with_reducible rfl)
      try simp only [Act.put, sq1, sq2, sq3, sq4, sq5, sq6]
      refine tkN (i := 3) (v := ?_) rfl ?_ ?_
      rotate_left
      · (intro w hSw; (try dsimp only at hSw); go_simp; try with_reducible rfl)
      try simp only [Act.put, sq1, sq2, sq3, sq4, sq5, sq6]
      refine tkN (i := 4) (v := ?_) rfl ?_ ?_
      rotate_left
      · (intro w hSw; (try dsimp only at hSw); go_simp; try with_reducible rfl)
      try simp only [Act.put, sq1, sq2, sq3, sq4, sq5, sq6]
      refine tkN (i := 5) (v := ?_) rfl ?_ ?_
      rotate_left
      · (intro w hSw; (try dsimp only at hSw); go_simp; try with_reducible rfl)
      try simp only [Act.put, sq1, sq2, sq3, sq4, sq5, sq6]
      refine tkN (i := 6) (v := ?_) rfl ?_ ?_
      rotate_left
      · (intro w hSw; (try dsimp only at hSw); go_simp; try with_reducible rfl)
      try simp only [Act.put, sq1, sq2, sq3, sq4, sq5, sq6]
      refine tkN (i := 7) (v := ?_) rfl ?_ ?_
      rotate_left
      · (intro w hSw; (try dsimp only at hSw); go_simp; try with_reducible rfl)
      try simp only [Act.put, sq1, sq2, sq3, sq4, sq5, sq6]
      refine tkN (i := 8) (v := ?_) rfl ?_ ?_
      rotate_left
      · (intro w hSw; (try dsimp only at hSw); go_simp; try with_reducible rfl)
      try simp only [Act.put, sq1, sq2, sq3, sq4, sq5, sq6]
      refine tkN (i := 9) (v := ?_) rfl ?_ ?_
      rotate_left
      · (intro w hSw; (try dsimp only at hSw); go_simp; try with_reducible rfl)
      try simp only [Act.put, sq1, sq2, sq3, sq4, sq5, sq6]
      refine tkN (i := 10) (v := ?_) rfl ?_ ?_
      rotate_left
      · (intro w hSw; (try dsimp only at hSw); go_simp; try with_reducible rfl)
      try simp only [Act.put, sq1, sq2, sq3, sq4, sq5, sq6]
      refine tkN (i := 11) (v := ?_) rfl ?_ ?_
      rotate_left
      · (intro w hSw; (try dsimp only at hSw); go_simp; try with_reducible rfl)
      try simp only [Act.put, sq1, sq2, sq3, sq4, sq5, sq6]
      refine tkN (i := 12) (v := ?_) rfl ?_ ?_
      rotate_left
      · (intro w hSw; (try dsimp only at hSw); go_simp; try with_reducible rfl)
      try simp only [Act.put, sq1, sq2, sq3, sq4, sq5, sq6]
      refine tkN (i := 13) (v := ?_) rfl ?_ ?_
      rotate_left
      · (intro w hSw; (try dsimp only at hSw); go_simp; try with_reducible rfl)
      try simp only [Act.put, sq1, sq2, sq3, sq4, sq5, sq6]
      refine tkN (i := 14) (v := ?_) rfl ?_ ?_
      rotate_left
      · (intro w hSw; (try dsimp only at hSw); go_simp; try with_reducible rfl)
      try simp only [Act.put, sq1, sq2, sq3, sq4, sq5, sq6]
      refine tkN (i := 15) (v := ?_) rfl ?_ ?_
      rotate_left
      · (intro w hSw; (try dsimp only at hSw); go_simp; try with_reducible rfl)
      try simp only [Act.put, sq1, sq2, sq3, sq4, sq5, sq6]
      refine tkN (i := 16) (v := ?_) rfl ?_ ?_
      rotate_left
      · (intro w hSw; (try dsimp only at hSw); go_simp; try with_reducible rfl)
      try simp only [Act.put, sq1, sq2, sq3, sq4, sq5, sq6]
      refine tkN (i := 17) (v := ?_) rfl ?_ ?_
      rotate_left
      · (intro w hSw; (try dsimp only at hSw); go_simp; try with_reducible rfl)
      try simp only [Act.put, sq1, sq2, sq3, sq4, sq5, sq6]
      refine tkF (i := 18) rfl ?_
      try simp only [Act.put, sq1, sq2, sq3, sq4, sq5, sq6]
      refine tkF (i := 19) rfl ?_
      try simp only [Act.put, sq1, sq2, sq3, sq4, sq5, sq6]
      refine tkF (i := 20) rfl ?_
      try simp only [Act.put, sq1, sq2, sq3, sq4, sq5, sq6]
      refine tkN (i := 21) (v := ?_) rfl ?_ ?_
      rotate_left
      · (intro w hSw; (try dsimp only at hSw); go_simp; try with_reducible rfl)
      try simp only [Act.put, sq1, sq2, sq3, sq4, sq5, sq6]
      refine tkN (i := 22) (v := ?_) rfl ?_ ?_
      rotate_left
      · (intro w hSw; (try dsimp only at hSw); go_simp; try with_reducible rfl)
      try simp only [Act.put, sq1, sq2, sq3, sq4, sq5, sq6]
      refine tkF (i := 23) rfl ?_
      try simp only [Act.put, sq1, sq2, sq3, sq4, sq5, sq6]
      refine tkF (i := 24) rfl ?_
      try simp only [Act.put, sq1, sq2, sq3, sq4, sq5, sq6]
      refine tkF (i := 25) rfl ?_
      try simp only [Act.put, sq1, sq2, sq3, sq4, sq5, sq6]
      refine tkF (i := 26) rfl ?_
      try simp only [Act.put, sq1, sq2, sq3, sq4, sq5, sq6]
      refine tkF (i := 27) rfl ?_
      try simp only [Act.put, sq1, sq2, sq3, sq4, sq5, sq6]
      refine tkN (i := 28) (v := ?_) rfl ?_ ?_
      rotate_left
      · (intro w hSw; (try dsimp only at hSw); go_simp; try with_reducible rfl)
      try simp only [Act.put, sq1, sq2, sq3, sq4, sq5, sq6]
      refine tkN (i := 29) (v := ?_) rfl ?_ ?_
      rotate_left
      · (intro w hSw; (try dsimp only at hSw); go_simp; try with_reducible rfl)
      try simp only [Act.put, sq1, sq2, sq3, sq4, sq5, sq6]
      refine tkF (i := 30) rfl ?_
      try simp only [Act.put, sq1, sq2, sq3, sq4, sq5, sq6]
      refine tkF (i := 31) rfl ?_
      try simp only [Act.put, sq1, sq2, sq3, sq4, sq5, sq6]
      refine tkF (i := 32) rfl ?_
      try simp only [Act.put, sq1, sq2, sq3, sq4, sq5, sq6]
      refine tkN (i := 33) (v := ?_) rfl ?_ ?_
      rotate_left
      · (intro w hSw; (try dsimp only at hSw); go_simp; try with_reducible rfl)
      try simp only [Act.put, sq1, sq2, sq3, sq4, sq5, sq6]
      refine tkN (i := 34) (v := ?_) rfl ?_ ?_
      rotate_left
      · (intro w hSw; (try dsimp only at hSw); go_simp; try with_reducible rfl)
      try simp only [Act.put, sq1, sq2, sq3, sq4, sq5, sq6]
      refine tkF (i := 35) rfl ?_
      try simp only [Act.put, sq1, sq2, sq3, sq4, sq5, sq6]
      refine tkF (i := 36) rfl ?_
      try simp only [Act.put, sq1, sq2, sq3, sq4, sq5, sq6]
      refine tkF (i := 37) rfl ?_
      try simp only [Act.put, sq1, sq2, sq3, sq4, sq5, sq6]
      refine tkF (i := 38) rfl ?_
      try simp only [Act.put, sq1, sq2, sq3, sq4, sq5, sq6]
      refine tkF (i := 39) rfl ?_
      try simp only [Act.put, sq1, sq2, sq3, sq4, sq5, sq6]
      refine tkN (i := 40) (v := ?_) rfl ?_ ?_
      rotate_left
      · (intro w hSw; (try dsimp only at hSw); go_simp; try with_reducible rfl)
      try simp only [Act.put, sq1, sq2, sq3, sq4, sq5, sq6]
      refine tkN (i := 41) (v := ?_) rfl ?_ ?_
      rotate_left
      · (intro w hSw; (try dsimp only at hSw); go_simp; try with_reducible rfl)
      try simp only [Act.put, sq1, sq2, sq3, sq4, sq5, sq6]
      refine tkF (i := 42) rfl ?_
      try simp only [Act.put, sq1, sq2, sq3, sq4, sq5, sq6]
      refine tkF (i := 43) rfl ?_
      try simp only [Act.put, sq1, sq2, sq3, sq4, sq5, sq6]
      refine tkF (i := 44) rfl ?_
      try simp only [Act.put, sq1, sq2, sq3, sq4, sq5, sq6]
      refine tkN (i := 45) (v := ?_) rfl ?_ ?_
      rotate_left
      · (intro w hSw; (try dsimp only at hSw); go_simp; try with_reducible rfl)
      try simp only [Act.put, sq1, sq2, sq3, sq4, sq5, sq6]
      refine tkN (i := 46) (v := ?_) rfl ?_ ?_
      rotate_left
      · (intro w hSw; (try dsimp only at hSw); go_simp; try with_reducible rfl)
      try simp only [Act.put, sq1, sq2, sq3, sq4, sq5, sq6]
      refine tkF (i := 47) rfl ?_
      try simp only [Act.put, sq1, sq2, sq3, sq4, sq5, sq6]
      refine tkF (i := 48) rfl ?_
      try simp only [Act.put, sq1, sq2, sq3, sq4, sq5, sq6]
      refine tkF (i := 49) rfl ?_
      try simp only [Act.put, sq1, sq2, sq3, sq4, sq5, sq6]
      refine tkF (i := 50) rfl ?_
      try simp only [Act.put, sq1, sq2, sq3, sq4, sq5, sq6]
      refine tkF (i := 51) rfl ?_
      try simp only [Act.put, sq1, sq2, sq3, sq4, sq5, sq6]
      refine tkN (i := 52) (v := ?_) rfl ?_ ?_
      rotate_left
      · (intro w hSw; (try dsimp only at hSw); go_simp; try with_reducible rfl)
      try simp only [Act.put, sq1, sq2, sq3, sq4, sq5, sq6]
      refine wpAnyH_done (by kernel_rfl) ?_ _
      clear hrule x0 x1 x2 x3 x4 x5 l0 l1 l2 y0 y1 y2 y3 y4 y5 y6 y7 olt llt qlt
      go_wp2_with fail
      go_end0
      exact Hd.out.fin HE.out (by omega) (by omega) (Kp5.refl _ _ _ _)
  · as_aux_lemma =>
      have g0 : (u == v) = false := by assumption
      have g1 : ¬ u < 0 := by omega
      have gd1 : decide (u < 0) = false := decide_eq_false g1
      have g2 : ¬ V ≤ u := by omega
      have gd2 : decide (V ≤ u) = false := decide_eq_false g2
      clear h1 h2
      have hrule := SQ.rule ob lo q p V S T vl kd s u v l t
      obtain ⟨⟨x0, x1, x2, x3, x4, x5⟩, ⟨l0, l1, l2⟩, y0, y1, y2, y3, y4, y5, y6, y7⟩ := SQ.rule _ _ _ _ _ _ _ _ _ _ _ _ _ _ _ Hd.out.sq
      obtain ⟨olt, llt, qlt⟩ := Hd.out.lt
      refine wp_region_held_drew (S := (fun W => SQ W ob lo q p V S T vl kd s u v l t)) (by kernel_rfl) ?_ (fun hHeld => ?_)
      · exact Hd.out.sq
      refine tkN (i := 0) (v := ?_) rfl ?_ ?_
      rotate_left
      · (intro w hSw; (try dsimp only at hSw); go_simp; try with_reducible rfl)
      try simp only [Act.put, sq1, sq2, sq3, sq4, sq5]
      refine tkN (i := 1) (v := ?_) rfl ?_ ?_
      rotate_left
      · (intro w hSw; (try dsimp only at hSw); go_simp; try with_reducible rfl)
      try simp only [Act.put, sq1, sq2, sq3, sq4, sq5, sq6]
      refine tkN (i := 2) (v := ?_) rfl ?_ ?_
      rotate_left
      · (intro w hSw; (try dsimp only at hSw); go_simp; try with_reducible rfl)
      try simp only [Act.put, sq1, sq2, sq3, sq4, sq5, sq6]
      refine tkN (i := 3) (v := ?_) rfl ?_ ?_
      rotate_left
      · (intro w hSw; (try dsimp only at hSw); go_simp; try with_reducible rfl)
      try simp only [Act.put, sq1, sq2, sq3, sq4, sq5, sq6]
      refine tkN (i := 4) (v := ?_) rfl ?_ ?_
      rotate_left
      · (intro w hSw; (try dsimp only at hSw); go_simp; try with_reducible rfl)
      try simp only [Act.put, sq1, sq2, sq3, sq4, sq5, sq6]
      refine tkN (i := 5) (v := ?_) rfl ?_ ?_
      rotate_left
      · (intro w hSw; (try dsimp only at hSw); go_simp; try with_reducible rfl)
      try simp only [Act.put, sq1, sq2, sq3, sq4, sq5, sq6]
      refine tkN (i := 6) (v := ?_) rfl ?_ ?_
      rotate_left
      · (intro w hSw; (try dsimp only at hSw); go_simp; try with_reducible rfl)
      try simp only [Act.put, sq1, sq2, sq3, sq4, sq5, sq6]
      refine tkN (i := 7) (v := ?_) rfl ?_ ?_
      rotate_left
      · (intro w hSw; (try dsimp only at hSw); go_simp; try with_reducible rfl)
      try simp only [Act.put, sq1, sq2, sq3, sq4, sq5, sq6]
      refine tkN (i := 8) (v := ?_) rfl ?_ ?_
      rotate_left
      · (intro w hSw; (try dsimp only at hSw); go_simp; try with_reducible rfl)
      try simp only [Act.put, sq1, sq2, sq3, sq4, sq5, sq6]
      refine tkN (i := 9) (v := ?_) rfl ?_ ?_
      rotate_left
      · (intro w hSw; (try dsimp only at hSw); go_simp; try with_reducible rfl)
      try simp only [Act.put, sq1, sq2, sq3, sq4, sq5, sq6]
      refine tkN (i := 10) (v := ?_) rfl ?_ ?_
      rotate_left
      · (intro w hSw; (try dsimp only at hSw); go_simp; try with_reducible rfl)
      try simp only [Act.put, sq1, sq2, sq3, sq4, sq5, sq6]
      refine tkN (i := 11) (v := ?_) rfl ?_ ?_
      rotate_left
      · (intro w hSw; (try dsimp only at hSw); go_simp; try with_reducible rfl)
      try simp only [Act.put, sq1, sq2, sq3, sq4, sq5, sq6]
      refine tkN (i := 12) (v := ?_) rfl ?_ ?_
      rotate_left
      · (intro w hSw; (try dsimp only at hSw); go_simp; try with_reducible rfl)
      try simp only [Act.put, sq1, sq2, sq3, sq4, sq5, sq6]
      refine tkN (i := 13) (v := ?_) rfl ?_ ?_
      rotate_left
      · (intro w hSw; (try dsimp only at hSw); go_simp; try with_reducible rfl)
      try simp only [Act.put, sq1, sq2, sq3, sq4, sq5, sq6]
      refine tkN (i := 14) (v := ?_) rfl ?_ ?_
      rotate_left
      · (intro w hSw; (try dsimp only at hSw); go_simp; try with_reducible rfl)
      try simp only [Act.put, sq1, sq2, sq3, sq4, sq5, sq6]
      refine tkN (i := 15) (v := ?_) rfl ?_ ?_
      rotate_left
      · (intro w hSw; (try dsimp only at hSw); go_simp; try with_reducible rfl)
      try simp only [Act.put, sq1, sq2, sq3, sq4, sq5, sq6]
      refine tkN (i := 16) (v := ?_) rfl ?_ ?_
      rotate_left
      · (intro w hSw; (try dsimp only at hSw); go_simp; try with_reducible rfl)
      try simp only [Act.put, sq1, sq2, sq3, sq4, sq5, sq6]
      refine tkN (i := 17) (v := ?_) rfl ?_ ?_
      rotate_left
      · (intro w hSw; (try dsimp only at hSw); go_simp; try with_reducible rfl)
      try simp only [Act.put, sq1, sq2, sq3, sq4, sq5, sq6]
      refine tkN (i := 18) (v := ?_) rfl ?_ ?_
      rotate_left
      · (intro w hSw; (try dsimp only at hSw); go_simp; try with_reducible rfl)
      try simp only [Act.put, sq1, sq2, sq3, sq4, sq5, sq6]
      refine tkN (i := 19) (v := ?_) rfl ?_ ?_
      rotate_left
      · (intro w hSw; (try dsimp only at hSw); go_simp; try with_reducible rfl)
      try simp only [Act.put, sq1, sq2, sq3, sq4, sq5, sq6]
      refine tkN (i := 20) (v := ?_) rfl ?_ ?_
      rotate_left
      · (intro w hSw; (try dsimp only at hSw); go_simp; try with_reducible rfl)
      try simp only [Act.put, sq1, sq2, sq3, sq4, sq5, sq6]
      refine tkN (i := 21) (v := ?_) rfl ?_ ?_
      rotate_left
      · (intro w hSw; (try dsimp only at hSw); go_simp; try with_reducible rfl)
      try simp only [Act.put, sq1, sq2, sq3, sq4, sq5, sq6]
      refine tkN (i := 22) (v := ?_) rfl ?_ ?_
      rotate_left
      · (intro w hSw; (try dsimp only at hSw); go_simp; try with_reducible rfl)
      try simp only [Act.put, sq1, sq2, sq3, sq4, sq5, sq6]
      refine tkF (i := 23) rfl ?_
      try simp only [Act.put, sq1, sq2, sq3, sq4, sq5, sq6]
      refine tkF (i := 24) rfl ?_
      try simp only [Act.put, sq1, sq2, sq3, sq4, sq5, sq6]
      refine tkF (i := 25) rfl ?_
      try simp only [Act.put, sq1, sq2, sq3, sq4, sq5, sq6]
      refine tkF (i := 26) rfl ?_
      try simp only [Act.put, sq1, sq2, sq3, sq4, sq5, sq6]
      refine tkF (i := 27) rfl ?_
      try simp only [Act.put, sq1, sq2, sq3, sq4, sq5, sq6]
      refine tkN (i := 28) (v := ?_) rfl ?_ ?_
      rotate_left
      · (intro w hSw; (try dsimp only at hSw); go_simp; try with_reducible rfl)
      try simp only [Act.put, sq1, sq2, sq3, sq4, sq5, sq6]
      refine tkN (i := 29) (v := ?_) rfl ?_ ?_
      rotate_left
      · (intro w hSw; (try dsimp only at hSw); go_simp; try with_reducible rfl)
      try simp only [Act.put, sq1, sq2, sq3, sq4, sq5, sq6]
      refine tkF (i := 30) rfl ?_
      try simp only [Act.put, sq1, sq2, sq3, sq4, sq5, sq6]
      refine tkF (i := 31) rfl ?_
      try simp only [Act.put, sq1, sq2, sq3, sq4, sq5, sq6]
      refine tkF (i := 32) rfl ?_
      try simp only [Act.put, sq1, sq2, sq3, sq4, sq5, sq6]
      refine tkN (i := 33) (v := ?_) rfl ?_ ?_
      rotate_left
      · (intro w hSw; (try dsimp only at hSw); go_simp; try with_reducible rfl)
      try simp only [Act.put, sq1, sq2, sq3, sq4, sq5, sq6]
      refine tkN (i := 34) (v := ?_) rfl ?_ ?_
      rotate_left
      · (intro w hSw; (try dsimp only at hSw); go_simp; try with_reducible rfl)
      try simp only [Act.put, sq1, sq2, sq3, sq4, sq5, sq6]
      refine tkF (i := 35) rfl ?_
      try simp only [Act.put, sq1, sq2, sq3, sq4, sq5, sq6]
      refine tkF (i := 36) rfl ?_
      try simp only [Act.put, sq1, sq2, sq3, sq4, sq5, sq6]
      refine tkF (i := 37) rfl ?_
      try simp only [Act.put, sq1, sq2, sq3, sq4, sq5, sq6]
      refine tkF (i := 38) rfl ?_
      try simp only [Act.put, sq1, sq2, sq3, sq4, sq5, sq6]
      refine tkF (i := 39) rfl ?_
      try simp only [Act.put, sq1, sq2, sq3, sq4, sq5, sq6]
      refine tkN (i := 40) (v := ?_) rfl ?_ ?_
      rotate_left
      · (intro w hSw; (try dsimp only at hSw); go_simp; try with_reducible rfl)
      try simp only [Act.put, sq1, sq2, sq3, sq4, sq5, sq6]
      refine tkN (i := 41) (v := ?_) rfl ?_ ?_
      rotate_left
      · (intro w hSw; (try dsimp only at hSw); go_simp; try with_reducible rfl)
      try simp only [Act.put, sq1, sq2, sq3, sq4, sq5, sq6]
      refine tkF (i := 42) rfl ?_
      try simp only [Act.put, sq1, sq2, sq3, sq4, sq5, sq6]
      refine tkF (i := 43) rfl ?_
      try simp only [Act.put, sq1, sq2, sq3, sq4, sq5, sq6]
      refine tkF (i := 44) rfl ?_
      try simp only [Act.put, sq1, sq2, sq3, sq4, sq5, sq6]
      refine tkN (i := 45) (v := ?_) rfl ?_ ?_
      rotate_left
      · (intro w hSw; (try dsimp only at hSw); go_simp; try with_reducible rfl)
      try simp only [Act.put, sq1, sq2, sq3, sq4, sq5, sq6]
      refine tkN (i := 46) (v := ?_) rfl ?_ ?_
      rotate_left
      · (intro w hSw; (try dsimp only at hSw); go_simp; try with_reducible rfl)
      try simp only [Act.put, sq1, sq2, sq3, sq4, sq5, sq6]
      refine tkF (i := 47) rfl ?_
      try simp only [Act.put, sq1, sq2, sq3, sq4, sq5, sq6]
      refine tkF (i := 48) rfl ?_
      try simp only [Act.put, sq1, sq2, sq3, sq4, sq5, sq6]
      refine tkF (i := 49) rfl ?_
      try simp only [Act.put, sq1, sq2, sq3, sq4, sq5, sq6]
      refine tkF (i := 50) rfl ?_
      try simp only [Act.put, sq1, sq2, sq3, sq4, sq5, sq6]
      refine tkF (i := 51) rfl ?_
      try simp only [Act.put, sq1, sq2, sq3, sq4, sq5, sq6]
      refine tkN (i := 52) (v := ?_) rfl ?_ ?_
      rotate_left
      · (intro w hSw; (try dsimp only at hSw); go_simp; try with_reducible rfl)
      try simp only [Act.put, sq1, sq2, sq3, sq4, sq5, sq6]
      refine wpAnyH_done (by kernel_rfl) ?_ _
      clear hrule x0 x1 x2 x3 x4 x5 l0 l1 l2 y0 y1 y2 y3 y4 y5 y6 y7 olt llt qlt
      go_wp2_with fail
      go_end0
      exact Hd.out.fin HE.out (by omega) (by omega) (Kp5.refl _ _ _ _)
  · as_aux_lemma =>
      have g0 : (u == v) = false := by assumption
      have g1 : ¬ u < 0 := by omega
      have gd1 : decide (u < 0) = false := decide_eq_false g1
      have g2 : ¬ V ≤ u := by omega
      have gd2 : decide (V ≤ u) = false := decide_eq_false g2
      have g3 : ¬ v < 0 := by omega
      have gd3 : decide (v < 0) = false := decide_eq_false g3
      clear h1 h2 h3
      have hrule := SQ.rule ob lo q p V S T vl kd s u v l t
      obtain ⟨⟨x0, x1, x2, x3, x4, x5⟩, ⟨l0, l1, l2⟩, y0, y1, y2, y3, y4, y5, y6, y7⟩ := SQ.rule _ _ _ _ _ _ _ _ _ _ _ _ _ _ _ Hd.out.sq
      obtain ⟨olt, llt, qlt⟩ := Hd.out.lt
      refine wp_region_held_drew (S := (fun W => SQ W ob lo q p V S T vl kd s u v l t)) (by kernel_rfl) ?_ (fun hHeld => ?_)
      · exact Hd.out.sq
      refine tkN (i := 0) (v := ?_) rfl ?_ ?_
      rotate_left
      · (intro w hSw; (try dsimp only at hSw); go_simp; try with_reducible rfl)
      try simp only [Act.put, sq1, sq2, sq3, sq4, sq5]
      refine tkN (i := 1) (v := ?_) rfl ?_ ?_
      rotate_left
      · (intro w hSw; (try dsimp only at hSw); go_simp; try with_reducible rfl)
      try simp only [Act.put, sq1, sq2, sq3, sq4, sq5, sq6]
      refine tkN (i := 2) (v := ?_) rfl ?_ ?_
      rotate_left
      · (intro w hSw; (try dsimp only at hSw); go_simp; try with_reducible rfl)
      try simp only [Act.put, sq1, sq2, sq3, sq4, sq5, sq6]
      refine tkN (i := 3) (v := ?_) rfl ?_ ?_
      rotate_left
      · (intro w hSw; (try dsimp only at hSw); go_simp; try with_reducible rfl)
      try simp only [Act.put, sq1, sq2, sq3, sq4, sq5, sq6]
      refine tkN (i := 4) (v := ?_) rfl ?_ ?_
      rotate_left
      · (intro w hSw; (try dsimp only at hSw); go_simp; try with_reducible rfl)
      try simp only [Act.put, sq1, sq2, sq3, sq4, sq5, sq6]
      refine tkN (i := 5) (v := ?_) rfl ?_ ?_
      rotate_left
      · (intro w hSw; (try dsimp only at hSw); go_simp; try with_reducible rfl)
      try simp only [Act.put, sq1, sq2, sq3, sq4, sq5, sq6]
      refine tkN (i := 6) (v := ?_) rfl ?_ ?_
      rotate_left
      · (intro w hSw; (try dsimp only at hSw); go_simp; try with_reducible rfl)
      try simp only [Act.put, sq1, sq2, sq3, sq4, sq5, sq6]
      refine tkN (i := 7) (v := ?_) rfl ?_ ?_
      rotate_left
      · (intro w hSw; (try dsimp only at hSw); go_simp; try with_reducible rfl)
      try simp only [Act.put, sq1, sq2, sq3, sq4, sq5, sq6]
      refine tkN (i := 8) (v := ?_) rfl ?_ ?_
      rotate_left
      · (intro w hSw; (try dsimp only at hSw); go_simp; try with_reducible rfl)
      try simp only [Act.put, sq1, sq2, sq3, sq4, sq5, sq6]
      refine tkN (i := 9) (v := ?_) rfl ?_ ?_
      rotate_left
      · (intro w hSw; (try dsimp only at hSw); go_simp; try with_reducible rfl)
      try simp only [Act.put, sq1, sq2, sq3, sq4, sq5, sq6]
      refine tkN (i := 10) (v := ?_) rfl ?_ ?_
      rotate_left
      · (intro w hSw; (try dsimp only at hSw); go_simp; try with_reducible rfl)
      try simp only [Act.put, sq1, sq2, sq3, sq4, sq5, sq6]
      refine tkN (i := 11) (v := ?_) rfl ?_ ?_
      rotate_left
      · (intro w hSw; (try dsimp only at hSw); go_simp; try with_reducible rfl)
      try simp only [Act.put, sq1, sq2, sq3, sq4, sq5, sq6]
      refine tkN (i := 12) (v := ?_) rfl ?_ ?_
      rotate_left
      · (intro w hSw; (try dsimp only at hSw); go_simp; try with_reducible rfl)
      try simp only [Act.put, sq1, sq2, sq3, sq4, sq5, sq6]
      refine tkN (i := 13) (v := ?_) rfl ?_ ?_
      rotate_left
      · (intro w hSw; (try dsimp only at hSw); go_simp; try with_reducible rfl)
      try simp only [Act.put, sq1, sq2, sq3, sq4, sq5, sq6]
      refine tkN (i := 14) (v := ?_) rfl ?_ ?_
      rotate_left
      · (intro w hSw; (try dsimp only at hSw); go_simp; try with_reducible rfl)
      try simp only [Act.put, sq1, sq2, sq3, sq4, sq5, sq6]
      refine tkN (i := 15) (v := ?_) rfl ?_ ?_
      rotate_left
      · (intro w hSw; (try dsimp only at hSw); go_simp; try with_reducible rfl)
      try simp only [Act.put, sq1, sq2, sq3, sq4, sq5, sq6]
      refine tkN (i := 16) (v := ?_) rfl ?_ ?_
      rotate_left
      · (intro w hSw; (try dsimp only at hSw); go_simp; try with_reducible rfl)
      try simp only [Act.put, sq1, sq2, sq3, sq4, sq5, sq6]
      refine tkN (i := 17) (v := ?_) rfl ?_ ?_
      rotate_left
      · (intro w hSw; (try dsimp only at hSw); go_simp; try with_reducible rfl)
      try simp only [Act.put, sq1, sq2, sq3, sq4, sq5, sq6]
      refine tkN (i := 18) (v := ?_) rfl ?_ ?_
      rotate_left
      · (intro w hSw; (try dsimp only at hSw); go_simp; try with_reducible rfl)
      try simp only [Act.put, sq1, sq2, sq3, sq4, sq5, sq6]
      refine tkN (i := 19) (v := ?_) rfl ?_ ?_
      rotate_left
      · (intro w hSw; (try dsimp only at hSw); go_simp; try with_reducible rfl)
      try simp only [Act.put, sq1, sq2, sq3, sq4, sq5, sq6]
      refine tkN (i := 20) (v := ?_) rfl ?_ ?_
      rotate_left
      · (intro w hSw; (try dsimp only at hSw); go_simp; try with_reducible rfl)
      try simp only [Act.put, sq1, sq2, sq3, sq4, sq5, sq6]
      refine tkN (i := 21) (v := ?_) rfl ?_ ?_
      rotate_left
      · (intro w hSw; (try dsimp only at hSw); go_simp; try with_reducible rfl)
      try simp only [Act.put, sq1, sq2, sq3, sq4, sq5, sq6]
      refine tkN (i := 22) (v := ?_) rfl ?_ ?_
      rotate_left
      · (intro w hSw; (try dsimp only at hSw); go_simp; try with_reducible rfl)
      try simp only [Act.put, sq1, sq2, sq3, sq4, sq5, sq6]
      refine tkN (i := 23) (v := ?_) rfl ?_ ?_
      rotate_left
      · (intro w hSw; (try dsimp only at hSw); go_simp; try with_reducible rfl)
      try simp only [Act.put, sq1, sq2, sq3, sq4, sq5, sq6]
      refine tkN (i := 24) (v := ?_) rfl ?_ ?_
      rotate_left
      · (intro w hSw; (try dsimp only at hSw); go_simp; try with_reducible rfl)
      try simp only [Act.put, sq1, sq2, sq3, sq4, sq5, sq6]
      refine tkN (i := 25) (v := ?_) rfl ?_ ?_
      rotate_left
      · (intro w hSw; (try dsimp only at hSw); go_simp; try with_reducible rfl)
      try simp only [Act.put, sq1, sq2, sq3, sq4, sq5, sq6]
      refine tkN (i := 26) (v := ?_) rfl ?_ ?_
      rotate_left
      · (intro w hSw; (try dsimp only at hSw); go_simp; try with_reducible rfl)
      try simp only [Act.put, sq1, sq2, sq3, sq4, sq5, sq6]
      refine tkN (i := 27) (v := ?_) rfl ?_ ?_
      rotate_left
      · (intro w hSw; (try dsimp only at hSw); go_simp; try with_reducible rfl)
      try simp only [Act.put, sq1, sq2, sq3, sq4, sq5, sq6]
      refine tkN (i := 28) (v := ?_) rfl ?_ ?_
      rotate_left
      · (intro w hSw; (try dsimp only at hSw); go_simp; try with_reducible rfl)
      try simp only [Act.put, sq1, sq2, sq3, sq4, sq5, sq6]
      refine tkN (i := 29) (v := ?_) rfl ?_ ?_
      rotate_left
      · (intro w hSw; (try dsimp only at hSw); go_simp; try with_reducible rfl)
      try simp only [Act.put, sq1, sq2, sq3, sq4, sq5, sq6]
      refine tkF (i := 30) rfl ?_
      try simp only [Act.put, sq1, sq2, sq3, sq4, sq5, sq6]
      refine tkF (i := 31) rfl ?_
      try simp only [Act.put, sq1, sq2, sq3, sq4, sq5, sq6]
      refine tkF (i := 32) rfl ?_
      try simp only [Act.put, sq1, sq2, sq3, sq4, sq5, sq6]
      refine tkN (i := 33) (v := ?_) rfl ?_ ?_
      rotate_left
      · (intro w hSw; (try dsimp only at hSw); go_simp; try with_reducible rfl)
      try simp only [Act.put, sq1, sq2, sq3, sq4, sq5, sq6]
      refine tkN (i := 34) (v := ?_) rfl ?_ ?_
      rotate_left
      · (intro w hSw; (try dsimp only at hSw); go_simp; try with_reducible rfl)
      try simp only [Act.put, sq1, sq2, sq3, sq4, sq5, sq6]
      refine tkF (i := 35) rfl ?_
      try simp only [Act.put, sq1, sq2, sq3, sq4, sq5, sq6]
      refine tkF (i := 36) rfl ?_
      try simp only [Act.put, sq1, sq2, sq3, sq4, sq5, sq6]
      refine tkF (i := 37) rfl ?_
      try simp only [Act.put, sq1, sq2, sq3, sq4, sq5, sq6]
      refine tkF (i := 38) rfl ?_
      try simp only [Act.put, sq1, sq2, sq3, sq4, sq5, sq6]
      refine tkF (i := 39) rfl ?_
      try simp only [Act.put, sq1, sq2, sq3, sq4, sq5, sq6]
      refine tkN (i := 40) (v := ?_) rfl ?_ ?_
      rotate_left
      · (intro w hSw; (try dsimp only at hSw); go_simp; try with_reducible rfl)
      try simp only [Act.put, sq1, sq2, sq3, sq4, sq5, sq6]
      refine tkN (i := 41) (v := ?_) rfl ?_ ?_
      rotate_left
      · (intro w hSw; (try dsimp only at hSw); go_simp; try with_reducible rfl)
      try simp only [Act.put, sq1, sq2, sq3, sq4, sq5, sq6]
      refine tkF (i := 42) rfl ?_
      try simp only [Act.put, sq1, sq2, sq3, sq4, sq5, sq6]
      refine tkF (i := 43) rfl ?_
      try simp only [Act.put, sq1, sq2, sq3, sq4, sq5, sq6]
      refine tkF (i := 44) rfl ?_
      try simp only [Act.put, sq1, sq2, sq3, sq4, sq5, sq6]
      refine tkN (i := 45) (v := ?_) rfl ?_ ?_
      rotate_left
      · (intro w hSw; (try dsimp only at hSw); go_simp; try with_reducible rfl)
      try simp only [Act.put, sq1, sq2, sq3, sq4, sq5, sq6]
      refine tkN (i := 46) (v := ?_) rfl ?_ ?_
      rotate_left
      · (intro w hSw; (try dsimp only at hSw); go_simp; try with_reducible rfl)
      try simp only [Act.put, sq1, sq2, sq3, sq4, sq5, sq6]
      refine tkF (i := 47) rfl ?_
      try simp only [Act.put, sq1, sq2, sq3, sq4, sq5, sq6]
      refine tkF (i := 48) rfl ?_
      try simp only [Act.put, sq1, sq2, sq3, sq4, sq5, sq6]
      refine tkF (i := 49) rfl ?_
      try simp only [Act.put, sq1, sq2, sq3, sq4, sq5, sq6]
      refine tkF (i := 50) rfl ?_
      try simp only [Act.put, sq1, sq2, sq3, sq4, sq5, sq6]
      refine tkF (i := 51) rfl ?_
      try simp only [Act.put, sq1, sq2, sq3, sq4, sq5, sq6]
      refine tkN (i := 52) (v := ?_) rfl ?_ ?_
      rotate_left
      · (intro w hSw; (try dsimp only at hSw); go_simp; try with_reducible rfl)
      try simp only [Act.put, sq1, sq2, sq3, sq4, sq5, sq6]
      refine wpAnyH_done (by kernel_rfl) ?_ _
      clear hrule x0 x1 x2 x3 x4 x5 l0 l1 l2 y0 y1 y2 y3 y4 y5 y6 y7 olt llt qlt
      go_wp2_with fail
      go_end0
      exact Hd.out.fin HE.out (by omega) (by omega) (Kp5.refl _ _ _ _)
  · as_aux_lemma =>
      have g0 : (u == v) = false := by assumption
      have g1 : ¬ u < 0 := by omega
      have gd1 : decide (u < 0) = false := decide_eq_false g1
      have g2 : ¬ V ≤ u := by omega
      have gd2 : decide (V ≤ u) = false := decide_eq_false g2
      have g3 : ¬ v < 0 := by omega
      have gd3 : decide (v < 0) = false := decide_eq_false g3
      have g4 : ¬ V ≤ v := by omega
      have gd4 : decide (V ≤ v) = false := decide_eq_false g4
      clear h1 h2 h3 h4
      have hrule := SQ.rule ob lo q p V S T vl kd s u v l t
      obtain ⟨⟨x0, x1, x2, x3, x4, x5⟩, ⟨l0, l1, l2⟩, y0, y1, y2, y3, y4, y5, y6, y7⟩ := SQ.rule _ _ _ _ _ _ _ _ _ _ _ _ _ _ _ Hd.out.sq
      obtain ⟨olt, llt, qlt⟩ := Hd.out.lt
      refine wp_region_held_drew (S := (fun W => SQ W ob lo q p V S T vl kd s u v l t)) (by kernel_rfl) ?_ (fun hHeld => ?_)
      · exact Hd.out.sq
      refine tkN (i := 0) (v := ?_) rfl ?_ ?_
      rotate_left
      · (intro w hSw; (try dsimp only at hSw); go_simp; try with_reducible rfl)
      try simp only [Act.put, sq1, sq2, sq3, sq4, sq5]
      refine tkN (i := 1) (v := ?_) rfl ?_ ?_
      rotate_left
      · (intro w hSw; (try dsimp only at hSw); go_simp; try with_reducible rfl)
      try simp only [Act.put, sq1, sq2, sq3, sq4, sq5, sq6]
      refine tkN (i := 2) (v := ?_) rfl ?_ ?_
      rotate_left
      · (intro w hSw; (try dsimp only at hSw); go_simp; try with_reducible rfl)
      try simp only [Act.put, sq1, sq2, sq3, sq4, sq5, sq6]
      refine tkN (i := 3) (v := ?_) rfl ?_ ?_
      rotate_left
      · (intro w hSw; (try dsimp only at hSw); go_simp; try with_reducible rfl)
      try simp only [Act.put, sq1, sq2, sq3, sq4, sq5, sq6]
      refine tkN (i := 4) (v := ?_) rfl ?_ ?_
      rotate_left
      · (intro w hSw; (try dsimp only at hSw); go_simp; try with_reducible rfl)
      try simp only [Act.put, sq1, sq2, sq3, sq4, sq5, sq6]
      refine tkN (i := 5) (v := ?_) rfl ?_ ?_
      rotate_left
      · (intro w hSw; (try dsimp only at hSw); go_simp; try with_reducible rfl)
      try simp only [Act.put, sq1, sq2, sq3, sq4, sq5, sq6]
      refine tkN (i := 6) (v := ?_) rfl ?_ ?_
      rotate_left
      · (intro w hSw; (try dsimp only at hSw); go_simp; try with_reducible rfl)
      try simp only [Act.put, sq1, sq2, sq3, sq4, sq5, sq6]
      refine tkN (i := 7) (v := ?_) rfl ?_ ?_
      rotate_left
      · (intro w hSw; (try dsimp only at hSw); go_simp; try with_reducible rfl)
      try simp only [Act.put, sq1, sq2, sq3, sq4, sq5, sq6]
      refine tkN (i := 8) (v := ?_) rfl ?_ ?_
      rotate_left
      · (intro w hSw; (try dsimp only at hSw); go_simp; try with_reducible rfl)
      try simp only [Act.put, sq1, sq2, sq3, sq4, sq5, sq6]
      refine tkN (i := 9) (v := ?_) rfl ?_ ?_
      rotate_left
      · (intro w hSw; (try dsimp only at hSw); go_simp; try with_reducible rfl)
      try simp only [Act.put, sq1, sq2, sq3, sq4, sq5, sq6]
      refine tkN (i := 10) (v := ?_) rfl ?_ ?_
      rotate_left
      · (intro w hSw; (try dsimp only at hSw); go_simp; try with_reducible rfl)
      try simp only [Act.put, sq1, sq2, sq3, sq4, sq5, sq6]
      refine tkN (i := 11) (v := ?_) rfl ?_ ?_
      rotate_left
      · (intro w hSw; (try dsimp only at hSw); go_simp; try with_reducible rfl)
      try simp only [Act.put, sq1, sq2, sq3, sq4, sq5, sq6]
      refine tkN (i := 12) (v := ?_) rfl ?_ ?_
      rotate_left
      · (intro w hSw; (try dsimp only at hSw); go_simp; try with_reducible rfl)
      try simp only [Act.put, sq1, sq2, sq3, sq4, sq5, sq6]
      refine tkN (i := 13) (v := ?_) rfl ?_ ?_
      rotate_left
      · (intro w hSw; (try dsimp only at hSw); go_simp; try with_reducible rfl)
      try simp only [Act.put, sq1, sq2, sq3, sq4, sq5, sq6]
      refine tkN (i := 14) (v := ?_) rfl ?_ ?_
      rotate_left
      · (intro w hSw; (try dsimp only at hSw); go_simp; try with_reducible rfl)
      try simp only [Act.put, sq1, sq2, sq3, sq4, sq5, sq6]
      refine tkN (i := 15) (v := ?_) rfl ?_ ?_
      rotate_left
      · (intro w hSw; (try dsimp only at hSw); go_simp; try with_reducible rfl)
      try simp only [Act.put, sq1, sq2, sq3, sq4, sq5, sq6]
      refine tkN (i := 16) (v := ?_) rfl ?_ ?_
      rotate_left
      · (intro w hSw; (try dsimp only at hSw); go_simp; try with_reducible rfl)
      try simp only [Act.put, sq1, sq2, sq3, sq4, sq5, sq6]
      refine tkN (i := 17) (v := ?_) rfl ?_ ?_
      rotate_left
      · (intro w hSw; (try dsimp only at hSw); go_simp; try with_reducible rfl)
      try simp only [Act.put, sq1, sq2, sq3, sq4, sq5, sq6]
      refine tkN (i := 18) (v := ?_) rfl ?_ ?_
      rotate_left
      · (intro w hSw; (try dsimp only at hSw); go_simp; try with_reducible rfl)
      try simp only [Act.put, sq1, sq2, sq3, sq4, sq5, sq6]
      refine tkN (i := 19) (v := ?_) rfl ?_ ?_
      rotate_left
      · (intro w hSw; (try dsimp only at hSw); go_simp; try with_reducible rfl)
      try simp only [Act.put, sq1, sq2, sq3, sq4, sq5, sq6]
      refine tkN (i := 20) (v := ?_) rfl ?_ ?_
      rotate_left
      · (intro w hSw; (try dsimp only at hSw); go_simp; try with_reducible rfl)
      try simp only [Act.put, sq1, sq2, sq3, sq4, sq5, sq6]
      refine tkN (i := 21) (v := ?_) rfl ?_ ?_
      rotate_left
      · (intro w hSw; (try dsimp only at hSw); go_simp; try with_reducible rfl)
      try simp only [Act.put, sq1, sq2, sq3, sq4, sq5, sq6]
      refine tkN (i := 22) (v := ?_) rfl ?_ ?_
      rotate_left
      · (intro w hSw; (try dsimp only at hSw); go_simp; try with_reducible rfl)
      try simp only [Act.put, sq1, sq2, sq3, sq4, sq5, sq6]
      refine tkN (i := 23) (v := ?_) rfl ?_ ?_
      rotate_left
      · (intro w hSw; (try dsimp only at hSw); go_simp; try with_reducible rfl)
      try simp only [Act.put, sq1, sq2, sq3, sq4, sq5, sq6]
      refine tkN (i := 24) (v := ?_) rfl ?_ ?_
      rotate_left
      · (intro w hSw; (try dsimp only at hSw); go_simp; try with_reducible rfl)
      try simp only [Act.put, sq1, sq2, sq3, sq4, sq5, sq6]
      refine tkN (i := 25) (v := ?_) rfl ?_ ?_
      rotate_left
      · (intro w hSw; (try dsimp only at hSw); go_simp; try with_reducible rfl)
      try simp only [Act.put, sq1, sq2, sq3, sq4, sq5, sq6]
      refine tkN (i := 26) (v := ?_) rfl ?_ ?_
      rotate_left
      · (intro w hSw; (try dsimp only at hSw); go_simp; try with_reducible rfl)
      try simp only [Act.put, sq1, sq2, sq3, sq4, sq5, sq6]
      refine tkN (i := 27) (v := ?_) rfl ?_ ?_
      rotate_left
      · (intro w hSw; (try dsimp only at hSw); go_simp; try with_reducible rfl)
      try simp only [Act.put, sq1, sq2, sq3, sq4, sq5, sq6]
      refine tkN (i := 28) (v := ?_) rfl ?_ ?_
      rotate_left
      · (intro w hSw; (try dsimp only at hSw); go_simp; try with_reducible rfl)
      try simp only [Act.put, sq1, sq2, sq3, sq4, sq5, sq6]
      refine tkN (i := 29) (v := ?_) rfl ?_ ?_
      rotate_left
      · (intro w hSw; (try dsimp only at hSw); go_simp; try with_reducible rfl)
      try simp only [Act.put, sq1, sq2, sq3, sq4, sq5, sq6]
      refine tkN (i := 30) (v := ?_) rfl ?_ ?_
      rotate_left
      · (intro w hSw; (try dsimp only at hSw); go_simp; try with_reducible rfl)
      try simp only [Act.put, sq1, sq2, sq3, sq4, sq5, sq6]
      refine tkN (i := 31) (v := ?_) rfl ?_ ?_
      rotate_left
      · (intro w hSw; (try dsimp only at hSw); go_simp; try with_reducible rfl)
      try simp only [Act.put, sq1, sq2, sq3, sq4, sq5, sq6]
      refine tkN (i := 32) (v := ?_) rfl ?_ ?_
      rotate_left
      · (intro w hSw; (try dsimp only at hSw); go_simp; try with_reducible rfl)
      try simp only [Act.put, sq1, sq2, sq3, sq4, sq5, sq6]
      refine tkN (i := 33) (v := ?_) rfl ?_ ?_
      rotate_left
      · (intro w hSw; (try dsimp only at hSw); go_simp; try with_reducible rfl)
      try simp only [Act.put, sq1, sq2, sq3, sq4, sq5, sq6]
      refine tkN (i := 34) (v := ?_) rfl ?_ ?_
      rotate_left
      · (intro w hSw; (try dsimp only at hSw); go_simp; try with_reducible rfl)
      try simp only [Act.put, sq1, sq2, sq3, sq4, sq5, sq6]
      refine tkF (i := 35) rfl ?_
      try simp only [Act.put, sq1, sq2, sq3, sq4, sq5, sq6]
      refine tkF (i := 36) rfl ?_
      try simp only [Act.put, sq1, sq2, sq3, sq4, sq5, sq6]
      refine tkF (i := 37) rfl ?_
      try simp only [Act.put, sq1, sq2, sq3, sq4, sq5, sq6]
      refine tkF (i := 38) rfl ?_
      try simp only [Act.put, sq1, sq2, sq3, sq4, sq5, sq6]
      refine tkF (i := 39) rfl ?_
      try simp only [Act.put, sq1, sq2, sq3, sq4, sq5, sq6]
      refine tkN (i := 40) (v := ?_) rfl ?_ ?_
      rotate_left
      · (intro w hSw; (try dsimp only at hSw); go_simp; try with_reducible rfl)
      try simp only [Act.put, sq1, sq2, sq3, sq4, sq5, sq6]
      refine tkN (i := 41) (v := ?_) rfl ?_ ?_
      rotate_left
      · (intro w hSw; (try dsimp only at hSw); go_simp; try with_reducible rfl)
      try simp only [Act.put, sq1, sq2, sq3, sq4, sq5, sq6]
      refine tkF (i := 42) rfl ?_
      try simp only [Act.put, sq1, sq2, sq3, sq4, sq5, sq6]
      refine tkF (i := 43) rfl ?_
      try simp only [Act.put, sq1, sq2, sq3, sq4, sq5, sq6]
      refine tkF (i := 44) rfl ?_
      try simp only [Act.put, sq1, sq2, sq3, sq4, sq5, sq6]
      refine tkN (i := 45) (v := ?_) rfl ?_ ?_
      rotate_left
      · (intro w hSw; (try dsimp only at hSw); go_simp; try with_reducible rfl)
      try simp only [Act.put, sq1, sq2, sq3, sq4, sq5, sq6]
      refine tkN (i := 46) (v := ?_) rfl ?_ ?_
      rotate_left
      · (intro w hSw; (try dsimp only at hSw); go_simp; try with_reducible rfl)
      try simp only [Act.put, sq1, sq2, sq3, sq4, sq5, sq6]
      refine tkF (i := 47) rfl ?_
      try simp only [Act.put, sq1, sq2, sq3, sq4, sq5, sq6]
      refine tkF (i := 48) rfl ?_
      try simp only [Act.put, sq1, sq2, sq3, sq4, sq5, sq6]
      refine tkF (i := 49) rfl ?_
      try simp only [Act.put, sq1, sq2, sq3, sq4, sq5, sq6]
      refine tkF (i := 50) rfl ?_
      try simp only [Act.put, sq1, sq2, sq3, sq4, sq5, sq6]
      refine tkF (i := 51) rfl ?_
      try simp only [Act.put, sq1, sq2, sq3, sq4, sq5, sq6]
      refine tkN (i := 52) (v := ?_) rfl ?_ ?_
      rotate_left
      · (intro w hSw; (try dsimp only at hSw); go_simp; try with_reducible rfl)
      try simp only [Act.put, sq1, sq2, sq3, sq4, sq5, sq6]
      refine wpAnyH_done (by kernel_rfl) ?_ _
      clear hrule x0 x1 x2 x3 x4 x5 l0 l1 l2 y0 y1 y2 y3 y4 y5 y6 y7 olt llt qlt
      go_wp2_with fail
      go_end0
      exact Hd.out.fin HE.out (by omega) (by omega) (Kp5.refl _ _ _ _)
  · as_aux_lemma =>
      have g0 : (u == v) = false := by assumption
      have g1 : ¬ u < 0 := by omega
      have gd1 : decide (u < 0) = false := decide_eq_false g1
      have g2 : ¬ V ≤ u := by omega
      have gd2 : decide (V ≤ u) = false := decide_eq_false g2
      have g3 : ¬ v < 0 := by omega
      have gd3 : decide (v < 0) = false := decide_eq_false g3
      have g4 : ¬ V ≤ v := by omega
      have gd4 : decide (V ≤ v) = false := decide_eq_false g4
      have g5 : ¬ s < 0 := by omega
      have gd5 : decide (s < 0) = false := decide_eq_false g5
      clear h1 h2 h3 h4 h5
      have hrule := SQ.rule ob lo q p V S T vl kd s u v l t
      obtain ⟨⟨x0, x1, x2, x3, x4, x5⟩, ⟨l0, l1, l2⟩, y0, y1, y2, y3, y4, y5, y6, y7⟩ := SQ.rule _ _ _ _ _ _ _ _ _ _ _ _ _ _ _ Hd.out.sq
      obtain ⟨olt, llt, qlt⟩ := Hd.out.lt
      refine wp_region_held_drew (S := (fun W => SQ W ob lo q p V S T vl kd s u v l t)) (by kernel_rfl) ?_ (fun hHeld => ?_)
      · exact Hd.out.sq
      refine tkN (i := 0) (v := ?_) rfl ?_ ?_
      rotate_left
      · (intro w hSw; (try dsimp only at hSw); go_simp; try with_reducible rfl)
      try simp only [Act.put, sq1, sq2, sq3, sq4, sq5]
      refine tkN (i := 1) (v := ?_) rfl ?_ ?_
      rotate_left
      · (intro w hSw; (try dsimp only at hSw); go_simp; try with_reducible rfl)
      try simp only [Act.put, sq1, sq2, sq3, sq4, sq5, sq6]
      refine tkN (i := 2) (v := ?_) rfl ?_ ?_
      rotate_left
      · (intro w hSw; (try dsimp only at hSw); go_simp; try with_reducible rfl)
      try simp only [Act.put, sq1, sq2, sq3, sq4, sq5, sq6]
      refine tkN (i := 3) (v := ?_) rfl ?_ ?_
      rotate_left
      · (intro w hSw; (try dsimp only at hSw); go_simp; try with_reducible rfl)
      try simp only [Act.put, sq1, sq2, sq3, sq4, sq5, sq6]
      refine tkN (i := 4) (v := ?_) rfl ?_ ?_
      rotate_left
      · (intro w hSw; (try dsimp only at hSw); go_simp; try with_reducible rfl)
      try simp only [Act.put, sq1, sq2, sq3, sq4, sq5, sq6]
      refine tkN (i := 5) (v := ?_) rfl ?_ ?_
      rotate_left
      · (intro w hSw; (try dsimp only at hSw); go_simp; try with_reducible rfl)
      try simp only [Act.put, sq1, sq2, sq3, sq4, sq5, sq6]
      refine tkN (i := 6) (v := ?_) rfl ?_ ?_
      rotate_left
      · (intro w hSw; (try dsimp only at hSw); go_simp; try with_reducible rfl)
      try simp only [Act.put, sq1, sq2, sq3, sq4, sq5, sq6]
      refine tkN (i := 7) (v := ?_) rfl ?_ ?_
      rotate_left
      · (intro w hSw; (try dsimp only at hSw); go_simp; try with_reducible rfl)
      try simp only [Act.put, sq1, sq2, sq3, sq4, sq5, sq6]
      refine tkN (i := 8) (v := ?_) rfl ?_ ?_
      rotate_left
      · (intro w hSw; (try dsimp only at hSw); go_simp; try with_reducible rfl)
      try simp only [Act.put, sq1, sq2, sq3, sq4, sq5, sq6]
      refine tkN (i := 9) (v := ?_) rfl ?_ ?_
      rotate_left
      · (intro w hSw; (try dsimp only at hSw); go_simp; try with_reducible rfl)
      try simp only [Act.put, sq1, sq2, sq3, sq4, sq5, sq6]
      refine tkN (i := 10) (v := ?_) rfl ?_ ?_
      rotate_left
      · (intro w hSw; (try dsimp only at hSw); go_simp; try with_reducible rfl)
      try simp only [Act.put, sq1, sq2, sq3, sq4, sq5, sq6]
      refine tkN (i := 11) (v := ?_) rfl ?_ ?_
      rotate_left
      · (intro w hSw; (try dsimp only at hSw); go_simp; try with_reducible rfl)
      try simp only [Act.put, sq1, sq2, sq3, sq4, sq5, sq6]
      refine tkN (i := 12) (v := ?_) rfl ?_ ?_
      rotate_left
      · (intro w hSw; (try dsimp only at hSw); go_simp; try with_reducible rfl)
      try simp only [Act.put, sq1, sq2, sq3, sq4, sq5, sq6]
      refine tkN (i := 13) (v := ?_) rfl ?_ ?_
      rotate_left
      · (intro w hSw; (try dsimp only at hSw); go_simp; try with_reducible rfl)
      try simp only [Act.put, sq1, sq2, sq3, sq4, sq5, sq6]
      refine tkN (i := 14) (v := ?_) rfl ?_ ?_
      rotate_left
      · (intro w hSw; (try dsimp only at hSw); go_simp; try with_reducible rfl)
      try simp only [Act.put, sq1, sq2, sq3, sq4, sq5, sq6]
      refine tkN (i := 15) (v := ?_) rfl ?_ ?_
      rotate_left
      · (intro w hSw; (try dsimp only at hSw); go_simp; try with_reducible rfl)
      try simp only [Act.put, sq1, sq2, sq3, sq4, sq5, sq6]
      refine tkN (i := 16) (v := ?_) rfl ?_ ?_
      rotate_left
      · (intro w hSw; (try dsimp only at hSw); go_simp; try with_reducible rfl)
      try simp only [Act.put, sq1, sq2, sq3, sq4, sq5, sq6]
      refine tkN (i := 17) (v := ?_) rfl ?_ ?_
      rotate_left
      · (intro w hSw; (try dsimp only at hSw); go_simp; try with_reducible rfl)
      try simp only [Act.put, sq1, sq2, sq3, sq4, sq5, sq6]
      refine tkN (i := 18) (v := ?_) rfl ?_ ?_
      rotate_left
      · (intro w hSw; (try dsimp only at hSw); go_simp; try with_reducible rfl)
      try simp only [Act.put, sq1, sq2, sq3, sq4, sq5, sq6]
      refine tkN (i := 19) (v := ?_) rfl ?_ ?_
      rotate_left
      · (intro w hSw; (try dsimp only at hSw); go_simp; try with_reducible rfl)
      try simp only [Act.put, sq1, sq2, sq3, sq4, sq5, sq6]
      refine tkN (i := 20) (v := ?_) rfl ?_ ?_
      rotate_left
      · (intro w hSw; (try dsimp only at hSw); go_simp; try with_reducible rfl)
      try simp only [Act.put, sq1, sq2, sq3, sq4, sq5, sq6]
      refine tkN (i := 21) (v := ?_) rfl ?_ ?_
      rotate_left
      · (intro w hSw; (try dsimp only at hSw); go_simp; try with_reducible rfl)
      try simp only [Act.put, sq1, sq2, sq3, sq4, sq5, sq6]
      refine tkN (i := 22) (v := ?_) rfl ?_ ?_
      rotate_left
      · (intro w hSw; (try dsimp only at hSw); go_simp; try with_reducible rfl)
      try simp only [Act.put, sq1, sq2, sq3, sq4, sq5, sq6]
      refine tkN (i := 23) (v := ?_) rfl ?_ ?_
      rotate_left
      · (intro w hSw; (try dsimp only at hSw); go_simp; try with_reducible rfl)
      try simp only [Act.put, sq1, sq2, sq3, sq4, sq5, sq6]
      refine tkN (i := 24) (v := ?_) rfl ?_ ?_
      rotate_left
      · (intro w hSw; (try dsimp only at hSw); go_simp; try with_reducible rfl)
      try simp only [Act.put, sq1, sq2, sq3, sq4, sq5, sq6]
      refine tkN (i := 25) (v := ?_) rfl ?_ ?_
      rotate_left
      · (intro w hSw; (try dsimp only at hSw); go_simp; try with_reducible rfl)
      try simp only [Act.put, sq1, sq2, sq3, sq4, sq5, sq6]
      refine tkN (i := 26) (v := ?_) rfl ?_ ?_
      rotate_left
      · (intro w hSw; (try dsimp only at hSw); go_simp; try with_reducible rfl)
      try simp only [Act.put, sq1, sq2, sq3, sq4, sq5, sq6]
      refine tkN (i := 27) (v := ?_) rfl ?_ ?_
      rotate_left
      · (intro w hSw; (try dsimp only at hSw); go_simp; try with_reducible rfl)
      try simp only [Act.put, sq1, sq2, sq3, sq4, sq5, sq6]
      refine tkN (i := 28) (v := ?_) rfl ?_ ?_
      rotate_left
      · (intro w hSw; (try dsimp only at hSw); go_simp; try with_reducible rfl)
      try simp only [Act.put, sq1, sq2, sq3, sq4, sq5, sq6]
      refine tkN (i := 29) (v := ?_) rfl ?_ ?_
      rotate_left
      · (intro w hSw; (try dsimp only at hSw); go_simp; try with_reducible rfl)
      try simp only [Act.put, sq1, sq2, sq3, sq4, sq5, sq6]
      refine tkN (i := 30) (v := ?_) rfl ?_ ?_
      rotate_left
      · (intro w hSw; (try dsimp only at hSw); go_simp; try with_reducible rfl)
      try simp only [Act.put, sq1, sq2, sq3, sq4, sq5, sq6]
      refine tkN (i := 31) (v := ?_) rfl ?_ ?_
      rotate_left
      · (intro w hSw; (try dsimp only at hSw); go_simp; try with_reducible rfl)
      try simp only [Act.put, sq1, sq2, sq3, sq4, sq5, sq6]
      refine tkN (i := 32) (v := ?_) rfl ?_ ?_
      rotate_left
      · (intro w hSw; (try dsimp only at hSw); go_simp; try with_reducible rfl)
      try simp only [Act.put, sq1, sq2, sq3, sq4, sq5, sq6]
      refine tkN (i := 33) (v := ?_) rfl ?_ ?_
      rotate_left
      · (intro w hSw; (try dsimp only at hSw); go_simp; try with_reducible rfl)
      try simp only [Act.put, sq1, sq2, sq3, sq4, sq5, sq6]
      refine tkN (i := 34) (v := ?_) rfl ?_ ?_
      rotate_left
      · (intro w hSw; (try dsimp only at hSw); go_simp; try with_reducible rfl)
      try simp only [Act.put, sq1, sq2, sq3, sq4, sq5, sq6]
      refine tkN (i := 35) (v := ?_) rfl ?_ ?_
      rotate_left
      · (intro w hSw; (try dsimp only at hSw); go_simp; try with_reducible rfl)
      try simp only [Act.put, sq1, sq2, sq3, sq4, sq5, sq6]
      refine tkN (i := 36) (v := ?_) rfl ?_ ?_
      rotate_left
      · (intro w hSw; (try dsimp only at hSw); go_simp; try with_reducible rfl)
      try simp only [Act.put, sq1, sq2, sq3, sq4, sq5, sq6]
      refine tkN (i := 37) (v := ?_) rfl ?_ ?_
      rotate_left
      · (intro w hSw; (try dsimp only at hSw); go_simp; try with_reducible rfl)
      try simp only [Act.put, sq1, sq2, sq3, sq4, sq5, sq6]
      refine tkN (i := 38) (v := ?_) rfl ?_ ?_
      rotate_left
      · (intro w hSw; (try dsimp only at hSw); go_simp; try with_reducible rfl)
      try simp only [Act.put, sq1, sq2, sq3, sq4, sq5, sq6]
      refine tkN (i := 39) (v := ?_) rfl ?_ ?_
      rotate_left
      · (intro w hSw; (try dsimp only at hSw); go_simp; try with_reducible rfl)
      try simp only [Act.put, sq1, sq2, sq3, sq4, sq5, sq6]
      refine tkN (i := 40) (v := ?_) rfl ?_ ?_
      rotate_left
      · (intro w hSw; (try dsimp only at hSw); go_simp; try with_reducible rfl)
      try simp only [Act.put, sq1, sq2, sq3, sq4, sq5, sq6]
      refine tkN (i := 41) (v := ?_) rfl ?_ ?_
      rotate_left
      · (intro w hSw; (try dsimp only at hSw); go_simp; try with_reducible rfl)
      try simp only [Act.put, sq1, sq2, sq3, sq4, sq5, sq6]
      refine tkF (i := 42) rfl ?_
      try simp only [Act.put, sq1, sq2, sq3, sq4, sq5, sq6]
      refine tkF (i := 43) rfl ?_
      try simp only [Act.put, sq1, sq2, sq3, sq4, sq5, sq6]
      refine tkF (i := 44) rfl ?_
      try simp only [Act.put, sq1, sq2, sq3, sq4, sq5, sq6]
      refine tkN (i := 45) (v := ?_) rfl ?_ ?_
      rotate_left
      · (intro w hSw; (try dsimp only at hSw); go_simp; try with_reducible rfl)
      try simp only [Act.put, sq1, sq2, sq3, sq4, sq5, sq6]
      refine tkN (i := 46) (v := ?_) rfl ?_ ?_
      rotate_left
      · (intro w hSw; (try dsimp only at hSw); go_simp; try with_reducible rfl)
      try simp only [Act.put, sq1, sq2, sq3, sq4, sq5, sq6]
      refine tkF (i := 47) rfl ?_
      try simp only [Act.put, sq1, sq2, sq3, sq4, sq5, sq6]
      refine tkF (i := 48) rfl ?_
      try simp only [Act.put, sq1, sq2, sq3, sq4, sq5, sq6]
      refine tkF (i := 49) rfl ?_
      try simp only [Act.put, sq1, sq2, sq3, sq4, sq5, sq6]
      refine tkF (i := 50) rfl ?_
      try simp only [Act.put, sq1, sq2, sq3, sq4, sq5, sq6]
      refine tkF (i := 51) rfl ?_
      try simp only [Act.put, sq1, sq2, sq3, sq4, sq5, sq6]
      refine tkN (i := 52) (v := ?_) rfl ?_ ?_
      rotate_left
      · (intro w hSw; (try dsimp only at hSw); go_simp; try with_reducible rfl)
      try simp only [Act.put, sq1, sq2, sq3, sq4, sq5, sq6]
      refine wpAnyH_done (by kernel_rfl) ?_ _
      clear hrule x0 x1 x2 x3 x4 x5 l0 l1 l2 y0 y1 y2 y3 y4 y5 y6 y7 olt llt qlt
      go_wp2_with fail
      go_end0
      exact Hd.out.fin HE.out (by omega) (by omega) (Kp5.refl _ _ _ _)
  · as_aux_lemma =>
      have g0 : (u == v) = false := by assumption
      have g1 : ¬ u < 0 := by omega
      have gd1 : decide (u < 0) = false := decide_eq_false g1
      have g2 : ¬ V ≤ u := by omega
      have gd2 : decide (V ≤ u) = false := decide_eq_false g2
      have g3 : ¬ v < 0 := by omega
      have gd3 : decide (v < 0) = false := decide_eq_false g3
      have g4 : ¬ V ≤ v := by omega
      have gd4 : decide (V ≤ v) = false := decide_eq_false g4
      have g5 : ¬ s < 0 := by omega
      have gd5 : decide (s < 0) = false := decide_eq_false g5
      have g6 : ¬ S ≤ s := by omega
      have gd6 : decide (S ≤ s) = false := decide_eq_false g6
      clear h1 h2 h3 h4 h5 h6
      have hrule := SQ.rule ob lo q p V S T vl kd s u v l t
      obtain ⟨⟨x0, x1, x2, x3, x4, x5⟩, ⟨l0, l1, l2⟩, y0, y1, y2, y3, y4, y5, y6, y7⟩ := SQ.rule _ _ _ _ _ _ _ _ _ _ _ _ _ _ _ Hd.out.sq
      obtain ⟨olt, llt, qlt⟩ := Hd.out.lt
      refine wp_region_held_drew (S := (fun W => SQ W ob lo q p V S T vl kd s u v l t)) (by kernel_rfl) ?_ (fun hHeld => ?_)
      · exact Hd.out.sq
      refine tkN (i := 0) (v := ?_) rfl ?_ ?_
      rotate_left
      · (intro w hSw; (try dsimp only at hSw); go_simp; try with_reducible rfl)
      try simp only [Act.put, sq1, sq2, sq3, sq4, sq5]
      refine tkN (i := 1) (v := ?_) rfl ?_ ?_
      rotate_left
      · (intro w hSw; (try dsimp only at hSw); go_simp; try with_reducible rfl)
      try simp only [Act.put, sq1, sq2, sq3, sq4, sq5, sq6]
      refine tkN (i := 2) (v := ?_) rfl ?_ ?_
      rotate_left
      · (intro w hSw; (try dsimp only at hSw); go_simp; try with_reducible rfl)
      try simp only [Act.put, sq1, sq2, sq3, sq4, sq5, sq6]
      refine tkN (i := 3) (v := ?_) rfl ?_ ?_
      rotate_left
      · (intro w hSw; (try dsimp only at hSw); go_simp; try with_reducible rfl)
      try simp only [Act.put, sq1, sq2, sq3, sq4, sq5, sq6]
      refine tkN (i := 4) (v := ?_) rfl ?_ ?_
      rotate_left
      · (intro w hSw; (try dsimp only at hSw); go_simp; try with_reducible rfl)
      try simp only [Act.put, sq1, sq2, sq3, sq4, sq5, sq6]
      refine tkN (i := 5) (v := ?_) rfl ?_ ?_
      rotate_left
      · (intro w hSw; (try dsimp only at hSw); go_simp; try with_reducible rfl)
      try simp only [Act.put, sq1, sq2, sq3, sq4, sq5, sq6]
      refine tkN (i := 6) (v := ?_) rfl ?_ ?_
      rotate_left
      · (intro w hSw; (try dsimp only at hSw); go_simp; try with_reducible rfl)
      try simp only [Act.put, sq1, sq2, sq3, sq4, sq5, sq6]
      refine tkN (i := 7) (v := ?_) rfl ?_ ?_
      rotate_left
      · (intro w hSw; (try dsimp only at hSw); go_simp; try with_reducible rfl)
      try simp only [Act.put, sq1, sq2, sq3, sq4, sq5, sq6]
      refine tkN (i := 8) (v := ?_) rfl ?_ ?_
      rotate_left
      · (intro w hSw; (try dsimp only at hSw); go_simp; try with_reducible rfl)
      try simp only [Act.put, sq1, sq2, sq3, sq4, sq5, sq6]
      refine tkN (i := 9) (v := ?_) rfl ?_ ?_
      rotate_left
      · (intro w hSw; (try dsimp only at hSw); go_simp; try with_reducible rfl)
      try simp only [Act.put, sq1, sq2, sq3, sq4, sq5, sq6]
      refine tkN (i := 10) (v := ?_) rfl ?_ ?_
      rotate_left
      · (intro w hSw; (try dsimp only at hSw); go_simp; try with_reducible rfl)
      try simp only [Act.put, sq1, sq2, sq3, sq4, sq5, sq6]
      refine tkN (i := 11) (v := ?_) rfl ?_ ?_
      rotate_left
      · (intro w hSw; (try dsimp only at hSw); go_simp; try with_reducible rfl)
      try simp only [Act.put, sq1, sq2, sq3, sq4, sq5, sq6]
      refine tkN (i := 12) (v := ?_) rfl ?_ ?_
      rotate_left
      · (intro w hSw; (try dsimp only at hSw); go_simp; try with_reducible rfl)
      try simp only [Act.put, sq1, sq2, sq3, sq4, sq5, sq6]
      refine tkN (i := 13) (v := ?_) rfl ?_ ?_
      rotate_left
      · (intro w hSw; (try dsimp only at hSw); go_simp; try with_reducible rfl)
      try simp only [Act.put, sq1, sq2, sq3, sq4, sq5, sq6]
      refine tkN (i := 14) (v := ?_) rfl ?_ ?_
      rotate_left
      · (intro w hSw; (try dsimp only at hSw); go_simp; try with_reducible rfl)
      try simp only [Act.put, sq1, sq2, sq3, sq4, sq5, sq6]
      refine tkN (i := 15) (v := ?_) rfl ?_ ?_
      rotate_left
      · (intro w hSw; (try dsimp only at hSw); go_simp; try with_reducible rfl)
      try simp only [Act.put, sq1, sq2, sq3, sq4, sq5, sq6]
      refine tkN (i := 16) (v := ?_) rfl ?_ ?_
      rotate_left
      · (intro w hSw; (try dsimp only at hSw); go_simp; try with_reducible rfl)
      try simp only [Act.put, sq1, sq2, sq3, sq4, sq5, sq6]
      refine tkN (i := 17) (v := ?_) rfl ?_ ?_
      rotate_left
      · (intro w hSw; (try dsimp only at hSw); go_simp; try with_reducible rfl)
      try simp only [Act.put, sq1, sq2, sq3, sq4, sq5, sq6]
      refine tkN (i := 18) (v := ?_) rfl ?_ ?_
      rotate_left
      · (intro w hSw; (try dsimp only at hSw); go_simp; try with_reducible rfl)
      try simp only [Act.put, sq1, sq2, sq3, sq4, sq5, sq6]
      refine tkN (i := 19) (v := ?_) rfl ?_ ?_
      rotate_left
      · (intro w hSw; (try dsimp only at hSw); go_simp; try with_reducible rfl)
      try simp only [Act.put, sq1, sq2, sq3, sq4, sq5, sq6]
      refine tkN (i := 20) (v := ?_) rfl ?_ ?_
      rotate_left
      · (intro w hSw; (try dsimp only at hSw); go_simp; try with_reducible rfl)
      try simp only [Act.put, sq1, sq2, sq3, sq4, sq5, sq6]
      refine tkN (i := 21) (v := ?_) rfl ?_ ?_
      rotate_left
      · (intro w hSw; (try dsimp only at hSw); go_simp; try with_reducible rfl)
      try simp only [Act.put, sq1, sq2, sq3, sq4, sq5, sq6]
      refine tkN (i := 22) (v := ?_) rfl ?_ ?_
      rotate_left
      · (intro w hSw; (try dsimp only at hSw); go_simp; try with_reducible rfl)
      try simp only [Act.put, sq1, sq2, sq3, sq4, sq5, sq6]
      refine tkN (i := 23) (v := ?_) rfl ?_ ?_
      rotate_left
      · (intro w hSw; (try dsimp only at hSw); go_simp; try with_reducible rfl)
      try simp only [Act.put, sq1, sq2, sq3, sq4, sq5, sq6]
      refine tkN (i := 24) (v := ?_) rfl ?_ ?_
      rotate_left
      · (intro w hSw; (try dsimp only at hSw); go_simp; try with_reducible rfl)
      try simp only [Act.put, sq1, sq2, sq3, sq4, sq5, sq6]
      refine tkN (i := 25) (v := ?_) rfl ?_ ?_
      rotate_left
      · (intro w hSw; (try dsimp only at hSw); go_simp; try with_reducible rfl)
      try simp only [Act.put, sq1, sq2, sq3, sq4, sq5, sq6]
      refine tkN (i := 26) (v := ?_) rfl ?_ ?_
      rotate_left
      · (intro w hSw; (try dsimp only at hSw); go_simp; try with_reducible rfl)
      try simp only [Act.put, sq1, sq2, sq3, sq4, sq5, sq6]
      refine tkN (i := 27) (v := ?_) rfl ?_ ?_
      rotate_left
      · (intro w hSw; (try dsimp only at hSw); go_simp; try with_reducible rfl)
      try simp only [Act.put, sq1, sq2, sq3, sq4, sq5, sq6]
      refine tkN (i := 28) (v := ?_) rfl ?_ ?_
      rotate_left
      · (intro w hSw; (try dsimp only at hSw); go_simp; try with_reducible rfl)
      try simp only [Act.put, sq1, sq2, sq3, sq4, sq5, sq6]
      refine tkN (i := 29) (v := ?_) rfl ?_ ?_
      rotate_left
      · (intro w hSw; (try dsimp only at hSw); go_simp; try with_reducible rfl)
      try simp only [Act.put, sq1, sq2, sq3, sq4, sq5, sq6]
      refine tkN (i := 30) (v := ?_) rfl ?_ ?_
      rotate_left
      · (intro w hSw; (try dsimp only at hSw); go_simp; try with_reducible rfl)
      try simp only [Act.put, sq1, sq2, sq3, sq4, sq5, sq6]
      refine tkN (i := 31) (v := ?_) rfl ?_ ?_
      rotate_left
      · (intro w hSw; (try dsimp only at hSw); go_simp; try with_reducible rfl)
      try simp only [Act.put, sq1, sq2, sq3, sq4, sq5, sq6]
      refine tkN (i := 32) (v := ?_) rfl ?_ ?_
      rotate_left
      · (intro w hSw; (try dsimp only at hSw); go_simp; try with_reducible rfl)
      try simp only [Act.put, sq1, sq2, sq3, sq4, sq5, sq6]
      refine tkN (i := 33) (v := ?_) rfl ?_ ?_
      rotate_left
      · (intro w hSw; (try dsimp only at hSw); go_simp; try with_reducible rfl)
      try simp only [Act.put, sq1, sq2, sq3, sq4, sq5, sq6]
      refine tkN (i := 34) (v := ?_) rfl ?_ ?_
      rotate_left
      · (intro w hSw; (try dsimp only at hSw); go_simp; try with_reducible rfl)
      try simp only [Act.put, sq1, sq2, sq3, sq4, sq5, sq6]
      refine tkN (i := 35) (v := ?_) rfl ?_ ?_
      rotate_left
      · (intro w hSw; (try dsimp only at hSw); go_simp; try with_reducible rfl)
      try simp only [Act.put, sq1, sq2, sq3, sq4, sq5, sq6]
      refine tkN (i := 36) (v := ?_) rfl ?_ ?_
      rotate_left
      · (intro w hSw; (try dsimp only at hSw); go_simp; try with_reducible rfl)
      try simp only [Act.put, sq1, sq2, sq3, sq4, sq5, sq6]
      refine tkN (i := 37) (v := ?_) rfl ?_ ?_
      rotate_left
      · (intro w hSw; (try dsimp only at hSw); go_simp; try with_reducible rfl)
      try simp only [Act.put, sq1, sq2, sq3, sq4, sq5, sq6]
      refine tkN (i := 38) (v := ?_) rfl ?_ ?_
      rotate_left
      · (intro w hSw; (try dsimp only at hSw); go_simp; try with_reducible rfl)
      try simp only [Act.put, sq1, sq2, sq3, sq4, sq5, sq6]
      refine tkN (i := 39) (v := ?_) rfl ?_ ?_
      rotate_left
      · (intro w hSw; (try dsimp only at hSw); go_simp; try with_reducible rfl)
      try simp only [Act.put, sq1, sq2, sq3, sq4, sq5, sq6]
      refine tkN (i := 40) (v := ?_) rfl ?_ ?_
      rotate_left
      · (intro w hSw; (try dsimp only at hSw); go_simp; try with_reducible rfl)
      try simp only [Act.put, sq1, sq2, sq3, sq4, sq5, sq6]
      refine tkN (i := 41) (v := ?_) rfl ?_ ?_
      rotate_left
      · (intro w hSw; (try dsimp only at hSw); go_simp; try with_reducible rfl)
      try simp only [Act.put, sq1, sq2, sq3, sq4, sq5, sq6]
      refine tkN (i := 42) (v := ?_) rfl ?_ ?_
      rotate_left
      · (intro w hSw; (try dsimp only at hSw); go_simp; try with_reducible rfl)
      try simp only [Act.put, sq1, sq2, sq3, sq4, sq5, sq6]
      refine tkN (i := 43) (v := ?_) rfl ?_ ?_
      rotate_left
      · (intro w hSw; (try dsimp only at hSw); go_simp; try with_reducible rfl)
      try simp only [Act.put, sq1, sq2, sq3, sq4, sq5, sq6]
      refine tkN (i := 44) (v := ?_) rfl ?_ ?_
      rotate_left
      · (intro w hSw; (try dsimp only at hSw); go_simp; try with_reducible rfl)
      try simp only [Act.put, sq1, sq2, sq3, sq4, sq5, sq6]
      refine tkN (i := 45) (v := ?_) rfl ?_ ?_
      rotate_left
      · (intro w hSw; (try dsimp only at hSw); go_simp; try with_reducible rfl)
      try simp only [Act.put, sq1, sq2, sq3, sq4, sq5, sq6]
      refine tkN (i := 46) (v := ?_) rfl ?_ ?_
      rotate_left
      · (intro w hSw; (try dsimp only at hSw); go_simp; try with_reducible rfl)
      try simp only [Act.put, sq1, sq2, sq3, sq4, sq5, sq6]
      refine tkF (i := 47) rfl ?_
      try simp only [Act.put, sq1, sq2, sq3, sq4, sq5, sq6]
      refine tkF (i := 48) rfl ?_
      try simp only [Act.put, sq1, sq2, sq3, sq4, sq5, sq6]
      refine tkF (i := 49) rfl ?_
      try simp only [Act.put, sq1, sq2, sq3, sq4, sq5, sq6]
      refine tkF (i := 50) rfl ?_
      try simp only [Act.put, sq1, sq2, sq3, sq4, sq5, sq6]
      refine tkF (i := 51) rfl ?_
      try simp only [Act.put, sq1, sq2, sq3, sq4, sq5, sq6]
      refine tkN (i := 52) (v := ?_) rfl ?_ ?_
      rotate_left
      · (intro w hSw; (try dsimp only at hSw); go_simp; try with_reducible rfl)
      try simp only [Act.put, sq1, sq2, sq3, sq4, sq5, sq6]
      refine wpAnyH_done (by kernel_rfl) ?_ _
      clear hrule x0 x1 x2 x3 x4 x5 l0 l1 l2 y0 y1 y2 y3 y4 y5 y6 y7 olt llt qlt
      go_wp2_with fail
      go_end0
      exact Hd.out.fin HE.out (by omega) (by omega) (Kp5.refl _ _ _ _)
  · as_aux_lemma =>
      have g0 : (u == v) = false := by assumption
      have g1 : ¬ u < 0 := by omega
      have gd1 : decide (u < 0) = false := decide_eq_false g1
      have g2 : ¬ V ≤ u := by omega
      have gd2 : decide (V ≤ u) = false := decide_eq_false g2
      have g3 : ¬ v < 0 := by omega
      have gd3 : decide (v < 0) = false := decide_eq_false g3
      have g4 : ¬ V ≤ v := by omega
      have gd4 : decide (V ≤ v) = false := decide_eq_false g4
      have g5 : ¬ s < 0 := by omega
      have gd5 : decide (s < 0) = false := decide_eq_false g5
      have g6 : ¬ S ≤ s := by omega
      have gd6 : decide (S ≤ s) = false := decide_eq_false g6
      have g7 : ¬ l < 0 := by omega
      have gd7 : decide (l < 0) = false := decide_eq_false g7
      clear h1 h2 h3 h4 h5 h6 h7
      have hrule := SQ.rule ob lo q p V S T vl kd s u v l t
      obtain ⟨⟨x0, x1, x2, x3, x4, x5⟩, ⟨l0, l1, l2⟩, y0, y1, y2, y3, y4, y5, y6, y7⟩ := SQ.rule _ _ _ _ _ _ _ _ _ _ _ _ _ _ _ Hd.out.sq
      obtain ⟨olt, llt, qlt⟩ := Hd.out.lt
      refine wp_region_held_drew (S := (fun W => SQ W ob lo q p V S T vl kd s u v l t)) (by kernel_rfl) ?_ (fun hHeld => ?_)
      · exact Hd.out.sq
      refine tkN (i := 0) (v := ?_) rfl ?_ ?_
      rotate_left
      · (intro w hSw; (try dsimp only at hSw); go_simp; try with_reducible rfl)
      try simp only [Act.put, sq1, sq2, sq3, sq4, sq5]
      refine tkN (i := 1) (v := ?_) rfl ?_ ?_
      rotate_left
      · (intro w hSw; (try dsimp only at hSw); go_simp; try with_reducible rfl)
      try simp only [Act.put, sq1, sq2, sq3, sq4, sq5, sq6]
      refine tkN (i := 2) (v := ?_) rfl ?_ ?_
      rotate_left
      · (intro w hSw; (try dsimp only at hSw); go_simp; try with_reducible rfl)
      try simp only [Act.put, sq1, sq2, sq3, sq4, sq5, sq6]
      refine tkN (i := 3) (v := ?_) rfl ?_ ?_
      rotate_left
      · (intro w hSw; (try dsimp only at hSw); go_simp; try with_reducible rfl)
      try simp only [Act.put, sq1, sq2, sq3, sq4, sq5, sq6]
      refine tkN (i := 4) (v := ?_) rfl ?_ ?_
      rotate_left
      · (intro w hSw; (try dsimp only at hSw); go_simp; try with_reducible rfl)
      try simp only [Act.put, sq1, sq2, sq3, sq4, sq5, sq6]
      refine tkN (i := 5) (v := ?_) rfl ?_ ?_
      rotate_left
      · (intro w hSw; (try dsimp only at hSw); go_simp; try with_reducible rfl)
      try simp only [Act.put, sq1, sq2, sq3, sq4, sq5, sq6]
      refine tkN (i := 6) (v := ?_) rfl ?_ ?_
      rotate_left
      · (intro w hSw; (try dsimp only at hSw); go_simp; try with_reducible rfl)
      try simp only [Act.put, sq1, sq2, sq3, sq4, sq5, sq6]
      refine tkN (i := 7) (v := ?_) rfl ?_ ?_
      rotate_left
      · (intro w hSw; (try dsimp only at hSw); go_simp; try with_reducible rfl)
      try simp only [Act.put, sq1, sq2, sq3, sq4, sq5, sq6]
      refine tkN (i := 8) (v := ?_) rfl ?_ ?_
      rotate_left
      · (intro w hSw; (try dsimp only at hSw); go_simp; try with_reducible rfl)
      try simp only [Act.put, sq1, sq2, sq3, sq4, sq5, sq6]
      refine tkN (i := 9) (v := ?_) rfl ?_ ?_
      rotate_left
      · (intro w hSw; (try dsimp only at hSw); go_simp; try with_reducible rfl)
      try simp only [Act.put, sq1, sq2, sq3, sq4, sq5, sq6]
      refine tkN (i := 10) (v := ?_) rfl ?_ ?_
      rotate_left
      · (intro w hSw; (try dsimp only at hSw); go_simp; try with_reducible rfl)
      try simp only [Act.put, sq1, sq2, sq3, sq4, sq5, sq6]
      refine tkN (i := 11) (v := ?_) rfl ?_ ?_
      rotate_left
      · (intro w hSw; (try dsimp only at hSw); go_simp; try with_reducible rfl)
      try simp only [Act.put, sq1, sq2, sq3, sq4, sq5, sq6]
      refine tkN (i := 12) (v := ?_) rfl ?_ ?_
      rotate_left
      · (intro w hSw; (try dsimp only at hSw); go_simp; try with_reducible rfl)
      try simp only [Act.put, sq1, sq2, sq3, sq4, sq5, sq6]
      refine tkN (i := 13) (v := ?_) rfl ?_ ?_
      rotate_left
      · (intro w hSw; (try dsimp only at hSw); go_simp; try with_reducible rfl)
      try simp only [Act.put, sq1, sq2, sq3, sq4, sq5, sq6]
      refine tkN (i := 14) (v := ?_) rfl ?_ ?_
      rotate_left
      · (intro w hSw; (try dsimp only at hSw); go_simp; try with_reducible rfl)
      try simp only [Act.put, sq1, sq2, sq3, sq4, sq5, sq6]
      refine tkN (i := 15) (v := ?_) rfl ?_ ?_
      rotate_left
      · (intro w hSw; (try dsimp only at hSw); go_simp; try with_reducible rfl)
      try simp only [Act.put, sq1, sq2, sq3, sq4, sq5, sq6]
      refine tkN (i := 16) (v := ?_) rfl ?_ ?_
      rotate_left
      · (intro w hSw; (try dsimp only at hSw); go_simp; try with_reducible rfl)
      try simp only [Act.put, sq1, sq2, sq3, sq4, sq5, sq6]
      refine tkN (i := 17) (v := ?_) rfl ?_ ?_
      rotate_left
      · (intro w hSw; (try dsimp only at hSw); go_simp; try with_reducible rfl)
      try simp only [Act.put, sq1, sq2, sq3, sq4, sq5, sq6]
      refine tkN (i := 18) (v := ?_) rfl ?_ ?_
      rotate_left
      · (intro w hSw; (try dsimp only at hSw); go_simp; try with_reducible rfl)
      try simp only [Act.put, sq1, sq2, sq3, sq4, sq5, sq6]
      refine tkN (i := 19) (v := ?_) rfl ?_ ?_
      rotate_left
      · (intro w hSw; (try dsimp only at hSw); go_simp; try with_reducible rfl)
      try simp only [Act.put, sq1, sq2, sq3, sq4, sq5, sq6]
      refine tkN (i := 20) (v := ?_) rfl ?_ ?_
      rotate_left
      · (intro w hSw; (try dsimp only at hSw); go_simp; try with_reducible rfl)
      try simp only [Act.put, sq1, sq2, sq3, sq4, sq5, sq6]
      refine tkN (i := 21) (v := ?_) rfl ?_ ?_
      rotate_left
      · (intro w hSw; (try dsimp only at hSw); go_simp; try with_reducible rfl)
      try simp only [Act.put, sq1, sq2, sq3, sq4, sq5, sq6]
      refine tkN (i := 22) (v := ?_) rfl ?_ ?_
      rotate_left
      · (intro w hSw; (try dsimp only at hSw); go_simp; try with_reducible rfl)
      try simp only [Act.put, sq1, sq2, sq3, sq4, sq5, sq6]
      refine tkN (i := 23) (v := ?_) rfl ?_ ?_
      rotate_left
      · (intro w hSw; (try dsimp only at hSw); go_simp; try with_reducible rfl)
      try simp only [Act.put, sq1, sq2, sq3, sq4, sq5, sq6]
      refine tkN (i := 24) (v := ?_) rfl ?_ ?_
      rotate_left
      · (intro w hSw; (try dsimp only at hSw); go_simp; try with_reducible rfl)
      try simp only [Act.put, sq1, sq2, sq3, sq4, sq5, sq6]
      refine tkN (i := 25) (v := ?_) rfl ?_ ?_
      rotate_left
      · (intro w hSw; (try dsimp only at hSw); go_simp; try with_reducible rfl)
      try simp only [Act.put, sq1, sq2, sq3, sq4, sq5, sq6]
      refine tkN (i := 26) (v := ?_) rfl ?_ ?_
      rotate_left
      · (intro w hSw; (try dsimp only at hSw); go_simp; try with_reducible rfl)
      try simp only [Act.put, sq1, sq2, sq3, sq4, sq5, sq6]
      refine tkN (i := 27) (v := ?_) rfl ?_ ?_
      rotate_left
      · (intro w hSw; (try dsimp only at hSw); go_simp; try with_reducible rfl)
      try simp only [Act.put, sq1, sq2, sq3, sq4, sq5, sq6]
      refine tkN (i := 28) (v := ?_) rfl ?_ ?_
      rotate_left
      · (intro w hSw; (try dsimp only at hSw); go_simp; try with_reducible rfl)
      try simp only [Act.put, sq1, sq2, sq3, sq4, sq5, sq6]
      refine tkN (i := 29) (v := ?_) rfl ?_ ?_
      rotate_left
      · (intro w hSw; (try dsimp only at hSw); go_simp; try with_reducible rfl)
      try simp only [Act.put, sq1, sq2, sq3, sq4, sq5, sq6]
      refine tkN (i := 30) (v := ?_) rfl ?_ ?_
      rotate_left
      · (intro w hSw; (try dsimp only at hSw); go_simp; try with_reducible rfl)
      try simp only [Act.put, sq1, sq2, sq3, sq4, sq5, sq6]
      refine tkN (i := 31) (v := ?_) rfl ?_ ?_
      rotate_left
      · (intro w hSw; (try dsimp only at hSw); go_simp; try with_reducible rfl)
      try simp only [Act.put, sq1, sq2, sq3, sq4, sq5, sq6]
      refine tkN (i := 32) (v := ?_) rfl ?_ ?_
      rotate_left
      · (intro w hSw; (try dsimp only at hSw); go_simp; try with_reducible rfl)
      try simp only [Act.put, sq1, sq2, sq3, sq4, sq5, sq6]
      refine tkN (i := 33) (v := ?_) rfl ?_ ?_
      rotate_left
      · (intro w hSw; (try dsimp only at hSw); go_simp; try with_reducible rfl)
      try simp only [Act.put, sq1, sq2, sq3, sq4, sq5, sq6]
      refine tkN (i := 34) (v := ?_) rfl ?_ ?_
      rotate_left
      · (intro w hSw; (try dsimp only at hSw); go_simp; try with_reducible rfl)
      try simp only [Act.put, sq1, sq2, sq3, sq4, sq5, sq6]
      refine tkN (i := 35) (v := ?_) rfl ?_ ?_
      rotate_left
      · (intro w hSw; (try dsimp only at hSw); go_simp; try with_reducible rfl)
      try simp only [Act.put, sq1, sq2, sq3, sq4, sq5, sq6]
      refine tkN (i := 36) (v := ?_) rfl ?_ ?_
      rotate_left
      · (intro w hSw; (try dsimp only at hSw); go_simp; try with_reducible rfl)
      try simp only [Act.put, sq1, sq2, sq3, sq4, sq5, sq6]
      refine tkN (i := 37) (v := ?_) rfl ?_ ?_
      rotate_left
      · (intro w hSw; (try dsimp only at hSw); go_simp; try with_reducible rfl)
      try simp only [Act.put, sq1, sq2, sq3, sq4, sq5, sq6]
      refine tkN (i := 38) (v := ?_) rfl ?_ ?_
      rotate_left
      · (intro w hSw; (try dsimp only at hSw); go_simp; try with_reducible rfl)
      try simp only [Act.put, sq1, sq2, sq3, sq4, sq5, sq6]
      refine tkN (i := 39) (v := ?_) rfl ?_ ?_
      rotate_left
      · (intro w hSw; (try dsimp only at hSw); go_simp; try with_reducible rfl)
      try simp only [Act.put, sq1, sq2, sq3, sq4, sq5, sq6]
      refine tkN (i := 40) (v := ?_) rfl ?_ ?_
      rotate_left
      · (intro w hSw; (try dsimp only at hSw); go_simp; try with_reducible rfl)
      try simp only [Act.put, sq1, sq2, sq3, sq4, sq5, sq6]
      refine tkN (i := 41) (v := ?_) rfl ?_ ?_
      rotate_left
      · (intro w hSw; (try dsimp only at hSw); go_simp; try with_reducible rfl)
      try simp only [Act.put, sq1, sq2, sq3, sq4, sq5, sq6]
      refine tkN (i := 42) (v := ?_) rfl ?_ ?_
      rotate_left
      · (intro w hSw; (try dsimp only at hSw); go_simp; try with_reducible rfl)
      try simp only [Act.put, sq1, sq2, sq3, sq4, sq5, sq6]
      refine tkN (i := 43) (v := ?_) rfl ?_ ?_
      rotate_left
      · (intro w hSw; (try dsimp only at hSw); go_simp; try with_reducible rfl)
      try simp only [Act.put, sq1, sq2, sq3, sq4, sq5, sq6]
      refine tkN (i := 44) (v := ?_) rfl ?_ ?_
      rotate_left
      · (intro w hSw; (try dsimp only at hSw); go_simp; try with_reducible rfl)
      try simp only [Act.put, sq1, sq2, sq3, sq4, sq5, sq6]
      refine tkN (i := 45) (v := ?_) rfl ?_ ?_
      rotate_left
      · (intro w hSw; (try dsimp only at hSw); go_simp; try with_reducible rfl)
      try simp only [Act.put, sq1, sq2, sq3, sq4, sq5, sq6]
      refine tkN (i := 46) (v := ?_) rfl ?_ ?_
      rotate_left
      · (intro w hSw; (try dsimp only at hSw); go_simp; try with_reducible rfl)
      try simp only [Act.put, sq1, sq2, sq3, sq4, sq5, sq6]
      refine tkN (i := 47) (v := ?_) rfl ?_ ?_
      rotate_left
      · (intro w hSw; (try dsimp only at hSw); go_simp; try with_reducible rfl)
      try simp only [Act.put, sq1, sq2, sq3, sq4, sq5, sq6]
      refine tkN (i := 48) (v := ?_) rfl ?_ ?_
      rotate_left
      · (intro w hSw; (try dsimp only at hSw); go_simp; try with_reducible rfl)
      try simp only [Act.put, sq1, sq2, sq3, sq4, sq5, sq6]
      refine tkN (i := 49) (v := ?_) rfl ?_ ?_
      rotate_left
      · (intro w hSw; (try dsimp only at hSw); go_simp; try with_reducible rfl)
      try simp only [Act.put, sq1, sq2, sq3, sq4, sq5, sq6]
      refine wpAnyH_ready (rs := [50]) (by kernel_rfl) (by simp) ?_
      refine AllReadyH.cons rfl (fun K hK => ?_) ?_
      rotate_left
      · exact AllReadyH.nil
      go_simp
      (refine (levels_yes _ _ _ HR.out _).mono ?_; rintro e w2 ⟨rfl, B1⟩; have H1 := Lib.hid (Hd.out.below B1))
      go_wp2_with fail
      refine hK.out _ _ ?_ (fun hHeld => ?_)
      · (try dsimp only); (first | (with_reducible assumption) | (with_reducible exact H1.out.sq) | (with_reducible exact Hd.out.sq))
      clear hK K
      try simp only [Act.put, sq1, sq2, sq3, sq4, sq5, sq6]
      refine tkN (i := 51) (v := ?_) rfl ?_ ?_
      rotate_left
      · (intro w hSw; (try dsimp only at hSw); go_simp; try with_reducible rfl)
      try simp only [Act.put, sq1, sq2, sq3, sq4, sq5, sq6]
      refine tkN (i := 52) (v := ?_) rfl ?_ ?_
      rotate_left
      · (intro w hSw; (try dsimp only at hSw); go_simp; try with_reducible rfl)
      try simp only [Act.put, sq1, sq2, sq3, sq4, sq5, sq6]
      refine wpAnyH_done (by kernel_rfl) ?_ _
      clear hrule x0 x1 x2 x3 x4 x5 l0 l1 l2 y0 y1 y2 y3 y4 y5 y6 y7 olt llt qlt
      go_wp2_with fail
      go_end0
      exact H1.out.fin HE.out (by omega) (by omega) (Kp5.refl _ _ _ _)
end
end Go.Proofs.Ytahabfjngeicmaa
