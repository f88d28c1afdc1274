/- A step that may be. Printed by wip/tools/adt.py. -/
import Derived.Test.YtaooglagddphnaaAdR
namespace Go.Proofs.Ytaooglagddphnaa
open Go.RowKit

set_option maxRecDepth 100000

/-- What a region reads that asks for an edge, too. -/
def SQX12 (W : World) (ob lo q eb lb p xb : Nat) (V S T kd s u v l : Int) (a b d : Nat) (t : Bool) : Prop := SQ12 W ob lo q eb lb p V S T kd s u v l ∧ Blk W xb 55 #[.int .i64 (a : Int), .int .i64 (b : Int), .int .i64 (d : Int), .bool t]
theorem SQX12.rule (ob lo q eb lb p xb : Nat) (V S T kd s u v l : Int) (a b d : Nat) (t : Bool) : ∀ W : World, SQX12 W ob lo q eb lb p xb V S T kd s u v l a b d t →
    (W.cell? ⟨q, 9, none⟩ = some (.int .i64 V) ∧ W.cell? ⟨q, 10, none⟩ = some (.int .i64 S) ∧ W.cell? ⟨q, 11, none⟩ = some (.int .i64 T) ∧ W.cell? ⟨q, 12, none⟩ = some (.iface 84 (pmV p))) ∧ W.cell? ⟨xb, 0, none⟩ = some (.int .i64 (a : Int)) ∧ W.cell? ⟨xb, 1, none⟩ = some (.int .i64 (b : Int)) :=
  fun _ h => ⟨⟨Blk.cell h.1.fq 9, Blk.cell h.1.fq 10, Blk.cell h.1.fq 11, Blk.cell h.1.fq 12⟩, h.2.cell 0, h.2.cell 1⟩
section
variable {w w0 : World} {base q eb lb p gb cap m n : Nat} {V S T kd : Int} {f : Nat → Int} {mk : Nat → Nat} {ts : List Tp} {bs : List E1} {qq : Nat → Nat → List Nat}
set_option maxHeartbeats 8000000 in
theorem step_good12 {s u v l : Nat} (h : PM12 w0 w base q eb lb V S T p gb cap m n f mk ts bs qq) (hE : ER V S T f bs) (hne : u ≠ v) (hu : (u : Int) < V) (hv : (v : Int) < V) (hs : (s : Int) < S) (hl : (l : Int) < lv V) (hm : m ≤ 99860000) :
    Calls Try.prog 13 #[.pointer (some ⟨q, 0, none⟩), vO12 kd (s : Int) (u : Int) (v : Int) (l : Int)] w (StD12 w base q eb lb V S T p gb cap m n ts bs qq kd (s : Int) (u : Int) (v : Int) (l : Int)) := by
  have HR := Lib.hid h.ps.ta.hR
  have HX : Hid (SX12 w ((w.alloc (.cells #[.int .i64 kd, .int .i64 (s : Int), .int .i64 (u : Int), .int .i64 (v : Int), .int .i64 (l : Int)] 47)).alloc (.cells #[.int .i64 V, .int .i64 S, .int .i64 T] 23)) base q eb lb w.heap.size (w.heap.size + 1) V S T p gb cap m n f mk ts bs qq kd (s : Int) (u : Int) (v : Int) (l : Int)) := Lib.hid ⟨(h.here.alloc _).alloc _, (Blk.new _ _ _).alloc _, new_next _ _ _ _ _⟩
  obtain ⟨y0, y1, y2, y3, y4, y5, y6, y7, y8, y9, y10, y11, y12, y13, y14⟩ := h.ps.pb.cells
  have qlt := h.ps.pb.lt
  clear h
  go_enter Try.func13, Try.ntmps13
  go_wp2_with fail
  clear y0 y1 y2 y3 y4 y5 y6 y7 y8 y9 y10 y11 y12 y13 y14 qlt
  generalize (w.alloc (.cells #[.int .i64 kd, .int .i64 (s : Int), .int .i64 (u : Int), .int .i64 (v : Int), .int .i64 (l : Int)] 47)).alloc (.cells #[.int .i64 V, .int .i64 S, .int .i64 T] 23) = w1 at HX ⊢
  generalize w.heap.size + 1 = lo at HX ⊢
  generalize w.heap.size = ob at HX ⊢
  have HE := Lib.hid hE
  have HP : Hid (u ≠ v ∧ (u : Int) < V ∧ (v : Int) < V ∧ (s : Int) < S ∧ (l : Int) < lv V) := Lib.hid ⟨hne, hu, hv, hs, hl⟩
  have hn560 := nN_le HR.out
  have s48 : s < 48 := by have := HR.out.s2; omega
  have g0 : ((u : Int) == (v : Int)) = false := beq_eq_false_iff_ne.2 (by omega)
  have g1 : ¬ (u : Int) < 0 := by omega
  have gd1 := decide_eq_false g1
  have g2 : ¬ V ≤ (u : Int) := by omega
  have gd2 := decide_eq_false g2
  have g3 : ¬ (v : Int) < 0 := by omega
  have gd3 := decide_eq_false g3
  have g4 : ¬ V ≤ (v : Int) := by omega
  have gd4 := decide_eq_false g4
  have g5 : ¬ (s : Int) < 0 := by omega
  have gd5 := decide_eq_false g5
  have g6 : ¬ S ≤ (s : Int) := by omega
  have gd6 := decide_eq_false g6
  have g7 : ¬ (l : Int) < 0 := by omega
  have gd7 := decide_eq_false g7
  have g8 : ¬ lv V ≤ (l : Int) := by omega
  have gd8 := decide_eq_false g8
  clear hne hE
  have Hd := Lib.hid HX.out.drew
  clear HX
  obtain ⟨⟨x0, x1, x2, x3, x4⟩, ⟨l0, l1, l2⟩, y0, y1, y2, y3, y4, y5, y6, y7, y8, y9, y10, y11, y12, y13, y14⟩ := SQ12.rule _ _ _ _ _ _ _ _ _ _ _ _ _ _ _ Hd.out.sq
  obtain ⟨olt, llt, qlt⟩ := Hd.out.lt
  have hrule := SQ12.rule ob lo q eb lb p V S T kd (s : Int) (u : Int) (v : Int) (l : Int)
  refine wp_region_held_drew (S := (fun W => SQ12 W ob lo q eb lb p V S T kd (s : Int) (u : Int) (v : Int) (l : Int))) (by kernel_rfl) ?_ (fun hHeld => ?_)
  · exact Hd.out.sq
  refine tkN (i := 0) (v := ?_) rfl ?_ ?_
  rotate_left
  · (intro w hSw; (try dsimp only at hSw); go_simp; try with_reducible rfl)
  try simp only [Act.put, sq1, sq2, sq3, sq4, sq5]
  refine tkN (i := 1) (v := ?_) rfl ?_ ?_
  rotate_left
  · (intro w hSw; (try dsimp only at hSw); go_simp; try with_reducible rfl)
  try simp only [Act.put, sq1, sq2, sq3, sq4, sq5, sq6]
  refine tkN (i := 2) (v := ?_) rfl ?_ ?_
  rotate_left
  · (intro w hSw; (try dsimp only at hSw); go_simp; try with_reducible rfl)
  try simp only [Act.put, sq1, sq2, sq3, sq4, sq5, sq6]
  refine tkN (i := 3) (v := ?_) rfl ?_ ?_
  rotate_left
  · (intro w hSw; (try dsimp only at hSw); go_simp; try with_reducible rfl)
  try simp only [Act.put, sq1, sq2, sq3, sq4, sq5, sq6]
  refine tkN (i := 4) (v := ?_) rfl ?_ ?_
  rotate_left
  · (intro w hSw; (try dsimp only at hSw); go_simp; try with_reducible rfl)
  try simp only [Act.put, sq1, sq2, sq3, sq4, sq5, sq6]
  refine tkN (i := 5) (v := ?_) rfl ?_ ?_
  rotate_left
  · (intro w hSw; (try dsimp only at hSw); go_simp; try with_reducible rfl)
  try simp only [Act.put, sq1, sq2, sq3, sq4, sq5, sq6]
  refine tkN (i := 6) (v := ?_) rfl ?_ ?_
  rotate_left
  · (intro w hSw; (try dsimp only at hSw); go_simp; try with_reducible rfl)
  try simp only [Act.put, sq1, sq2, sq3, sq4, sq5, sq6]
  refine tkN (i := 7) (v := ?_) rfl ?_ ?_
  rotate_left
  · (intro w hSw; (try dsimp only at hSw); go_simp; try with_reducible rfl)
  try simp only [Act.put, sq1, sq2, sq3, sq4, sq5, sq6]
  refine tkN (i := 8) (v := ?_) rfl ?_ ?_
  rotate_left
  · (intro w hSw; (try dsimp only at hSw); go_simp; try with_reducible rfl)
  try simp only [Act.put, sq1, sq2, sq3, sq4, sq5, sq6]
  refine tkN (i := 9) (v := ?_) rfl ?_ ?_
  rotate_left
  · (intro w hSw; (try dsimp only at hSw); go_simp; try with_reducible rfl)
  try simp only [Act.put, sq1, sq2, sq3, sq4, sq5, sq6]
  refine tkN (i := 10) (v := ?_) rfl ?_ ?_
  rotate_left
  · (intro w hSw; (try dsimp only at hSw); go_simp; try with_reducible rfl)
  try simp only [Act.put, sq1, sq2, sq3, sq4, sq5, sq6]
  refine tkN (i := 11) (v := ?_) rfl ?_ ?_
  rotate_left
  · (intro w hSw; (try dsimp only at hSw); go_simp; try with_reducible rfl)
  try simp only [Act.put, sq1, sq2, sq3, sq4, sq5, sq6]
  refine tkN (i := 12) (v := ?_) rfl ?_ ?_
  rotate_left
  · (intro w hSw; (try dsimp only at hSw); go_simp; try with_reducible rfl)
  try simp only [Act.put, sq1, sq2, sq3, sq4, sq5, sq6]
  refine tkN (i := 13) (v := ?_) rfl ?_ ?_
  rotate_left
  · (intro w hSw; (try dsimp only at hSw); go_simp; try with_reducible rfl)
  try simp only [Act.put, sq1, sq2, sq3, sq4, sq5, sq6]
  refine tkN (i := 14) (v := ?_) rfl ?_ ?_
  rotate_left
  · (intro w hSw; (try dsimp only at hSw); go_simp; try with_reducible rfl)
  try simp only [Act.put, sq1, sq2, sq3, sq4, sq5, sq6]
  refine tkN (i := 15) (v := ?_) rfl ?_ ?_
  rotate_left
  · (intro w hSw; (try dsimp only at hSw); go_simp; try with_reducible rfl)
  try simp only [Act.put, sq1, sq2, sq3, sq4, sq5, sq6]
  refine tkN (i := 16) (v := ?_) rfl ?_ ?_
  rotate_left
  · (intro w hSw; (try dsimp only at hSw); go_simp; try with_reducible rfl)
  try simp only [Act.put, sq1, sq2, sq3, sq4, sq5, sq6]
  refine tkN (i := 17) (v := ?_) rfl ?_ ?_
  rotate_left
  · (intro w hSw; (try dsimp only at hSw); go_simp; try with_reducible rfl)
  try simp only [Act.put, sq1, sq2, sq3, sq4, sq5, sq6]
  refine tkN (i := 18) (v := ?_) rfl ?_ ?_
  rotate_left
  · (intro w hSw; (try dsimp only at hSw); go_simp; try with_reducible rfl)
  try simp only [Act.put, sq1, sq2, sq3, sq4, sq5, sq6]
  refine tkN (i := 19) (v := ?_) rfl ?_ ?_
  rotate_left
  · (intro w hSw; (try dsimp only at hSw); go_simp; try with_reducible rfl)
  try simp only [Act.put, sq1, sq2, sq3, sq4, sq5, sq6]
  refine tkN (i := 20) (v := ?_) rfl ?_ ?_
  rotate_left
  · (intro w hSw; (try dsimp only at hSw); go_simp; try with_reducible rfl)
  try simp only [Act.put, sq1, sq2, sq3, sq4, sq5, sq6]
  refine tkN (i := 21) (v := ?_) rfl ?_ ?_
  rotate_left
  · (intro w hSw; (try dsimp only at hSw); go_simp; try with_reducible rfl)
  try simp only [Act.put, sq1, sq2, sq3, sq4, sq5, sq6]
  refine tkN (i := 22) (v := ?_) rfl ?_ ?_
  rotate_left
  · (intro w hSw; (try dsimp only at hSw); go_simp; try with_reducible rfl)
  try simp only [Act.put, sq1, sq2, sq3, sq4, sq5, sq6]
  refine tkN (i := 23) (v := ?_) rfl ?_ ?_
  rotate_left
  · (intro w hSw; (try dsimp only at hSw); go_simp; try with_reducible rfl)
  try simp only [Act.put, sq1, sq2, sq3, sq4, sq5, sq6]
  refine tkN (i := 24) (v := ?_) rfl ?_ ?_
  rotate_left
  · (intro w hSw; (try dsimp only at hSw); go_simp; try with_reducible rfl)
  try simp only [Act.put, sq1, sq2, sq3, sq4, sq5, sq6]
  refine tkN (i := 25) (v := ?_) rfl ?_ ?_
  rotate_left
  · (intro w hSw; (try dsimp only at hSw); go_simp; try with_reducible rfl)
  try simp only [Act.put, sq1, sq2, sq3, sq4, sq5, sq6]
  refine tkN (i := 26) (v := ?_) rfl ?_ ?_
  rotate_left
  · (intro w hSw; (try dsimp only at hSw); go_simp; try with_reducible rfl)
  try simp only [Act.put, sq1, sq2, sq3, sq4, sq5, sq6]
  refine tkN (i := 27) (v := ?_) rfl ?_ ?_
  rotate_left
  · (intro w hSw; (try dsimp only at hSw); go_simp; try with_reducible rfl)
  try simp only [Act.put, sq1, sq2, sq3, sq4, sq5, sq6]
  refine tkN (i := 28) (v := ?_) rfl ?_ ?_
  rotate_left
  · (intro w hSw; (try dsimp only at hSw); go_simp; try with_reducible rfl)
  try simp only [Act.put, sq1, sq2, sq3, sq4, sq5, sq6]
  refine tkN (i := 29) (v := ?_) rfl ?_ ?_
  rotate_left
  · (intro w hSw; (try dsimp only at hSw); go_simp; try with_reducible rfl)
  try simp only [Act.put, sq1, sq2, sq3, sq4, sq5, sq6]
  refine tkN (i := 30) (v := ?_) rfl ?_ ?_
  rotate_left
  · (intro w hSw; (try dsimp only at hSw); go_simp; try with_reducible rfl)
  try simp only [Act.put, sq1, sq2, sq3, sq4, sq5, sq6]
  refine tkN (i := 31) (v := ?_) rfl ?_ ?_
  rotate_left
  · (intro w hSw; (try dsimp only at hSw); go_simp; try with_reducible rfl)
  try simp only [Act.put, sq1, sq2, sq3, sq4, sq5, sq6]
  refine tkN (i := 32) (v := ?_) rfl ?_ ?_
  rotate_left
  · (intro w hSw; (try dsimp only at hSw); go_simp; try with_reducible rfl)
  try simp only [Act.put, sq1, sq2, sq3, sq4, sq5, sq6]
  refine tkN (i := 33) (v := ?_) rfl ?_ ?_
  rotate_left
  · (intro w hSw; (try dsimp only at hSw); go_simp; try with_reducible rfl)
  try simp only [Act.put, sq1, sq2, sq3, sq4, sq5, sq6]
  refine tkN (i := 34) (v := ?_) rfl ?_ ?_
  rotate_left
  · (intro w hSw; (try dsimp only at hSw); go_simp; try with_reducible rfl)
  try simp only [Act.put, sq1, sq2, sq3, sq4, sq5, sq6]
  refine tkN (i := 35) (v := ?_) rfl ?_ ?_
  rotate_left
  · (intro w hSw; (try dsimp only at hSw); go_simp; try with_reducible rfl)
  try simp only [Act.put, sq1, sq2, sq3, sq4, sq5, sq6]
  refine tkN (i := 36) (v := ?_) rfl ?_ ?_
  rotate_left
  · (intro w hSw; (try dsimp only at hSw); go_simp; try with_reducible rfl)
  try simp only [Act.put, sq1, sq2, sq3, sq4, sq5, sq6]
  refine tkN (i := 37) (v := ?_) rfl ?_ ?_
  rotate_left
  · (intro w hSw; (try dsimp only at hSw); go_simp; try with_reducible rfl)
  try simp only [Act.put, sq1, sq2, sq3, sq4, sq5, sq6]
  refine tkN (i := 38) (v := ?_) rfl ?_ ?_
  rotate_left
  · (intro w hSw; (try dsimp only at hSw); go_simp; try with_reducible rfl)
  try simp only [Act.put, sq1, sq2, sq3, sq4, sq5, sq6]
  refine tkN (i := 39) (v := ?_) rfl ?_ ?_
  rotate_left
  · (intro w hSw; (try dsimp only at hSw); go_simp; try with_reducible rfl)
  try simp only [Act.put, sq1, sq2, sq3, sq4, sq5, sq6]
  refine tkN (i := 40) (v := ?_) rfl ?_ ?_
  rotate_left
  · (intro w hSw; (try dsimp only at hSw); go_simp; try with_reducible rfl)
  try simp only [Act.put, sq1, sq2, sq3, sq4, sq5, sq6]
  refine tkN (i := 41) (v := ?_) rfl ?_ ?_
  rotate_left
  · (intro w hSw; (try dsimp only at hSw); go_simp; try with_reducible rfl)
  try simp only [Act.put, sq1, sq2, sq3, sq4, sq5, sq6]
  refine tkN (i := 42) (v := ?_) rfl ?_ ?_
  rotate_left
  · (intro w hSw; (try dsimp only at hSw); go_simp; try with_reducible rfl)
  try simp only [Act.put, sq1, sq2, sq3, sq4, sq5, sq6]
  refine tkN (i := 43) (v := ?_) rfl ?_ ?_
  rotate_left
  · (intro w hSw; (try dsimp only at hSw); go_simp; try with_reducible rfl)
  try simp only [Act.put, sq1, sq2, sq3, sq4, sq5, sq6]
  refine tkN (i := 44) (v := ?_) rfl ?_ ?_
  rotate_left
  · (intro w hSw; (try dsimp only at hSw); go_simp; try with_reducible rfl)
  try simp only [Act.put, sq1, sq2, sq3, sq4, sq5, sq6]
  refine tkN (i := 45) (v := ?_) rfl ?_ ?_
  rotate_left
  · (intro w hSw; (try dsimp only at hSw); go_simp; try with_reducible rfl)
  try simp only [Act.put, sq1, sq2, sq3, sq4, sq5, sq6]
  refine tkN (i := 46) (v := ?_) rfl ?_ ?_
  rotate_left
  · (intro w hSw; (try dsimp only at hSw); go_simp; try with_reducible rfl)
  try simp only [Act.put, sq1, sq2, sq3, sq4, sq5, sq6]
  refine tkN (i := 47) (v := ?_) rfl ?_ ?_
  rotate_left
  · (intro w hSw; (try dsimp only at hSw); go_simp; try with_reducible rfl)
  try simp only [Act.put, sq1, sq2, sq3, sq4, sq5, sq6]
  refine tkN (i := 48) (v := ?_) rfl ?_ ?_
  rotate_left
  · (intro w hSw; (try dsimp only at hSw); go_simp; try with_reducible rfl)
  try simp only [Act.put, sq1, sq2, sq3, sq4, sq5, sq6]
  refine tkN (i := 49) (v := ?_) rfl ?_ ?_
  rotate_left
  · (intro w hSw; (try dsimp only at hSw); go_simp; try with_reducible rfl)
  try simp only [Act.put, sq1, sq2, sq3, sq4, sq5, sq6]
  refine wpAnyH_ready (rs := [50]) (by kernel_rfl) (by simp) ?_
  refine AllReadyH.cons rfl (fun K hK => ?_) ?_
  rotate_left
  · exact AllReadyH.nil
  go_simp
  (refine (levels_yes _ _ _ HR.out _).mono ?_; rintro e w2 ⟨rfl, B1⟩; have H1 := Lib.hid (Hd.out.below B1))
  go_wp2_with fail
  refine hK.out _ _ ?_ (fun hHeld => ?_)
  · (try dsimp only); (first | (with_reducible assumption) | (with_reducible exact H1.out.sq) | (with_reducible exact Hd.out.sq))
  clear hK K
  try simp only [Act.put, sq1, sq2, sq3, sq4, sq5, sq6]
  refine tkN (i := 51) (v := ?_) rfl ?_ ?_
  rotate_left
  · (intro w hSw; (try dsimp only at hSw); go_simp; try with_reducible rfl)
  try simp only [Act.put, sq1, sq2, sq3, sq4, sq5, sq6]
  refine tkN (i := 52) (v := ?_) rfl ?_ ?_
  rotate_left
  · (intro w hSw; (try dsimp only at hSw); go_simp; try with_reducible rfl)
  try simp only [Act.put, sq1, sq2, sq3, sq4, sq5, sq6]
  refine wpAnyH_done (by kernel_rfl) ?_ _
  clear hrule x0 x1 x2 x3 x4 l0 l1 l2 y0 y1 y2 y3 y4 y5 y6 y7 y8 y9 y10 y11 y12 y13 y14 olt llt qlt
  clear Hd B1 g1 gd1 g2 gd2 g3 gd3 g4 gd4 g5 gd5 g6 gd6 g7 gd7 g8 gd8 g0
  obtain ⟨⟨x0, x1, x2, x3, x4⟩, ⟨l0, l1, l2⟩, y0, y1, y2, y3, y4, y5, y6, y7, y8, y9, y10, y11, y12, y13, y14⟩ := SQ12.rule _ _ _ _ _ _ _ _ _ _ _ _ _ _ _ H1.out.sq
  obtain ⟨olt, llt, qlt⟩ := H1.out.lt
  go_wp2_with fail
  obtain ⟨a, b, d, t, c, hc1, hc2, hlook⟩ := fe_look H1.out.pm.ps.fe (s := (s : Int)) (by omega)
  have hk1 := hlook w2.drew rfl
  have hk2 := hlook (w2.alloc (.cells #[.int .i64 0, .int .i64 0, .int .i64 0, .bool false] 55)).drew (Below.heap_alloc w2 _ eb H1.out.pm.ps.fe.lt)
  have HC1 := Lib.hid (And.intro hc1 hc2)
  have HBX : Hid (w.heap.size ≤ w2.heap.size ∧ base ≤ w2.heap.size) := Lib.hid ⟨H1.out.pm.ps.be.size, H1.out.pm.ps.bsz⟩
  have HZ0 := Lib.hid H1.out.drew
  have HZ1 := Lib.hid (H1.out.below ((Below.refl _ _).alloc (Nat.le_refl _) (.cells #[.int .i64 0, .int .i64 0, .int .i64 0, .bool false] 55))).drew
  have HZ2 := Lib.hid (H1.out.below ((Below.refl _ _).alloc (Nat.le_refl _) (.cells #[.int .i64 (a : Int), .int .i64 (b : Int), .int .i64 (d : Int), .bool t] 55))).drew
  have HXB : Hid (Blk (w2.alloc (.cells #[.int .i64 (a : Int), .int .i64 (b : Int), .int .i64 (d : Int), .bool t] 55)).drew w2.heap.size 55 #[.int .i64 (a : Int), .int .i64 (b : Int), .int .i64 (d : Int), .bool t]) := Lib.hid (Blk.new w2 _ _)
  clear hc1 hc2 hlook x0 x1 x2 x3 x4 l0 l1 l2 y0 y1 y2 y3 y4 y5 y6 y7 y8 y9 y10 y11 y12 y13 y14 olt llt qlt
  obtain ⟨⟨x0, x1, x2, x3, x4⟩, ⟨l0, l1, l2⟩, y0, y1, y2, y3, y4, y5, y6, y7, y8, y9, y10, y11, y12, y13, y14⟩ := SQ12.rule _ _ _ _ _ _ _ _ _ _ _ _ _ _ _ HZ0.out.sq
  obtain ⟨olt, llt, qlt⟩ := HZ0.out.lt
  have hrule := SQ12.rule ob lo q eb lb p V S T kd (s : Int) (u : Int) (v : Int) (l : Int)
  go_region_held3 (fun W => SQ12 W ob lo q eb lb p V S T kd (s : Int) (u : Int) (v : Int) (l : Int)) (first | (with_reducible assumption) | (with_reducible exact HZ2.out.sq) | (with_reducible exact HZ1.out.sq) | (with_reducible exact HZ0.out.sq))
    (fail)
  all_goals
    clear hrule hk1 hk2 x0 x1 x2 x3 x4 l0 l1 l2 y0 y1 y2 y3 y4 y5 y6 y7 y8 y9 y10 y11 y12 y13 y14 olt llt qlt
    generalize (w2.alloc (.cells #[.int .i64 (a : Int), .int .i64 (b : Int), .int .i64 (d : Int), .bool t] 55)).drew = w3 at HZ2 HXB ⊢
    generalize w2.heap.size = xb at HXB HBX ⊢
    clear HZ0 HZ1 H1
    obtain ⟨⟨x0, x1, x2, x3, x4⟩, ⟨l0, l1, l2⟩, y0, y1, y2, y3, y4, y5, y6, y7, y8, y9, y10, y11, y12, y13, y14⟩ := SQ12.rule _ _ _ _ _ _ _ _ _ _ _ _ _ _ _ HZ2.out.sq
    obtain ⟨olt, llt, qlt⟩ := HZ2.out.lt
    have e0 := HXB.out.cell 0
    have e1 := HXB.out.cell 1
    have e2 := HXB.out.cell 2
    have e3 := HXB.out.cell 3
    have xlt := HXB.out.lt
    by_cases k1 : kd = 1
    · subst k1
      cases c
      · skip
        as_aux_lemma =>
        have HNS : Hid (∀ x ∈ bs, x.s ≠ s) := Lib.hid fun x hx => by have := HC1.out.2 rfl x hx; omega
        clear HC1
        go_wp2_with fail
        clear x0 x1 x2 x3 x4 l0 l1 l2 y0 y1 y2 y3 y4 y5 y6 y7 y8 y9 y10 y11 y12 y13 y14 olt llt qlt e0 e1 e2 e3 xlt HXB HBX
        have HD := Lib.hid HZ2.out.drew
        clear HZ2
        obtain ⟨⟨x0, x1, x2, x3, x4⟩, ⟨l0, l1, l2⟩, y0, y1, y2, y3, y4, y5, y6, y7, y8, y9, y10, y11, y12, y13, y14⟩ := SQ12.rule _ _ _ _ _ _ _ _ _ _ _ _ _ _ _ HD.out.sq
        obtain ⟨olt, llt, qlt⟩ := HD.out.lt
        have hrule := SQ12.rule ob lo q eb lb p V S T 1 (s : Int) (u : Int) (v : Int) (l : Int)
        by_cases hf : ∃ x ∈ bs, x.u = min u v ∧ x.v = max u v
        · as_aux_lemma =>
          obtain ⟨x, hx, ex⟩ := hf
          have HX := Lib.hid (And.intro hx ex)
          clear hx ex
          go_region_held3 (fun W => SQ12 W ob lo q eb lb p V S T 1 (s : Int) (u : Int) (v : Int) (l : Int)) (first | (with_reducible assumption) | (with_reducible exact H5.out.sq) | (with_reducible exact HD.out.sq))
            (first
              | (go_at_call 45; ((with_reducible refine (ta_find_some HD.out.pm.ps.ta HE.out HP.out.2.1 HP.out.2.2.1 HP.out.1 HX.out.1 HX.out.2 (by omega)).mono ?_); rintro e w5 ⟨rfl, A5, O5⟩; have H5 := Lib.hid (HD.out.next A5 O5)))
              | fail)
          clear hrule x0 x1 x2 x3 x4 l0 l1 l2 y0 y1 y2 y3 y4 y5 y6 y7 y8 y9 y10 y11 y12 y13 y14 olt llt qlt
          go_wp2_with fail
          (try simp only [Exit.inBlock, Exit.then]); refine bodyPost_ret (results_none rfl _ _ _) rfl ?_
          exact ⟨rfl, f, mk, bs, qq, H5.out.pm.more (by omega) (by omega), HE.out, fun _ => .inl ⟨rfl, rfl⟩⟩
        · as_aux_lemma =>
          have HNF : Hid (∀ x ∈ bs, ¬ (x.u = min u v ∧ x.v = max u v)) := Lib.hid fun x hx c => hf ⟨x, hx, c⟩
          clear hf
          go_region_held3 (fun W => SQ12 W ob lo q eb lb p V S T 1 (s : Int) (u : Int) (v : Int) (l : Int)) (first | (with_reducible assumption) | (with_reducible exact H5.out.sq) | (with_reducible exact HD.out.sq))
            (first
              | (go_at_call 45; ((with_reducible refine (ta_find_none HD.out.pm.ps.ta HE.out HP.out.2.1 HP.out.2.2.1 HP.out.1 HNF.out (by omega)).mono ?_); rintro e w5 ⟨rfl, A5, O5⟩; have H5 := Lib.hid (HD.out.next A5 O5)))
              | fail)
          clear hrule x0 x1 x2 x3 x4 l0 l1 l2 y0 y1 y2 y3 y4 y5 y6 y7 y8 y9 y10 y11 y12 y13 y14 olt llt qlt HD A5 O5
          obtain ⟨⟨x0, x1, x2, x3, x4⟩, ⟨l0, l1, l2⟩, y0, y1, y2, y3, y4, y5, y6, y7, y8, y9, y10, y11, y12, y13, y14⟩ := SQ12.rule _ _ _ _ _ _ _ _ _ _ _ _ _ _ _ H5.out.sq
          obtain ⟨olt, llt, qlt⟩ := H5.out.lt
          go_wp2_with fail
          clear x0 x1 x2 x3 x4 l0 l1 l2 y0 y1 y2 y3 y4 y5 y6 y7 y8 y9 y10 y11 y12 y13 y14 olt llt qlt
          have HD5 := Lib.hid H5.out.drew
          clear H5
          obtain ⟨⟨x0, x1, x2, x3, x4⟩, ⟨l0, l1, l2⟩, y0, y1, y2, y3, y4, y5, y6, y7, y8, y9, y10, y11, y12, y13, y14⟩ := SQ12.rule _ _ _ _ _ _ _ _ _ _ _ _ _ _ _ HD5.out.sq
          obtain ⟨olt, llt, qlt⟩ := HD5.out.lt
          have hrule := SQ12.rule ob lo q eb lb p V S T 1 (s : Int) (u : Int) (v : Int) (l : Int)
          obtain ⟨mn, ha⟩ : ∃ a, min u v = a := ⟨_, rfl⟩
          obtain ⟨mx, hb9⟩ : ∃ a, max u v = a := ⟨_, rfl⟩
          have mI : (if v < u then (v : Int) else (u : Int)) = (mn : Int) := by split <;> omega
          have xI : (if u < v then (v : Int) else (u : Int)) = (mx : Int) := by split <;> omega
          have HAB : Hid (mn < mx ∧ (mx : Int) < V) := Lib.hid (by have := HP.out; omega)
          have HMN := Lib.hid (And.intro ha hb9)
          have HF6 : Hid (Kl V S T f (putF V S T f ⟨s, min u v, max u v, l, false⟩)) := Lib.hid (by rw [ha, hb9]; exact putF_kl HR.out HAB.out.1 HAB.out.2 HP.out.2.2.2.1)
          have HE6 : Hid (ER V S T (putF V S T f ⟨s, min u v, max u v, l, false⟩) (bs ++ [⟨s, mn, mx, l, false⟩])) := Lib.hid (by rw [ha, hb9]; exact HE.out.put HR.out HAB.out.1 HAB.out.2 HP.out.2.2.2.1 HP.out.2.2.2.2 HNS.out (by have := HNF.out; rw [ha, hb9] at this; exact this))
          clear ha hb9
          go_region_held3 (fun W => SQ12 W ob lo q eb lb p V S T 1 (s : Int) (u : Int) (v : Int) (l : Int)) (first | (with_reducible assumption) | (with_reducible exact H6.out.sq) | (with_reducible exact HD5.out.sq))
            (first
              | (go_at_call 38; ((with_reducible refine (ta_put (t := false) HD5.out.pm.ps.ta HP.out.2.1 HP.out.2.2.1 HP.out.1 HP.out.2.2.2.1 HP.out.2.2.2.2 (by omega)).mono ?_); rintro e w6 ⟨rfl, A6, O6⟩; have H6 := Lib.hid (HD5.out.turn HF6.out A6 O6)))
              | fail)
          clear hrule x0 x1 x2 x3 x4 l0 l1 l2 y0 y1 y2 y3 y4 y5 y6 y7 y8 y9 y10 y11 y12 y13 y14 olt llt qlt HD5 A6 O6
          generalize putF V S T f ⟨s, min u v, max u v, l, false⟩ = f6 at H6 HE6
          clear HF6
          obtain ⟨⟨x0, x1, x2, x3, x4⟩, ⟨l0, l1, l2⟩, y0, y1, y2, y3, y4, y5, y6, y7, y8, y9, y10, y11, y12, y13, y14⟩ := SQ12.rule _ _ _ _ _ _ _ _ _ _ _ _ _ _ _ H6.out.sq
          obtain ⟨olt, llt, qlt⟩ := H6.out.lt
          go_wp2_with fail
          refine (padd12 (e := ⟨s, mn, mx, l, false⟩) H6.out.pm.here HE6.out (by omega)).mono ?_; rintro e w7 ⟨f7, mk7, rfl, P7, K7⟩
          have HP7 := Lib.hid (And.intro P7 K7)
          clear P7 K7 x0 x1 x2 x3 x4 l0 l1 l2 y0 y1 y2 y3 y4 y5 y6 y7 y8 y9 y10 y11 y12 y13 y14 olt llt qlt
          go_wp2_with fail
          go_end0
          refine ⟨rfl, f7, mk7, _, _, (H6.out.pm.over HP7.out.1).more (by omega) (by omega), HP7.out.2.er HE6.out, fun _ => .inr ⟨s, u, v, l, rfl, rfl, rfl, rfl, HP.out.2.2.2.2, HNS.out, ?_, ?_⟩⟩
          · rw [HMN.out.1, HMN.out.2]
          · rw [HMN.out.1, HMN.out.2]
      · skip
        as_aux_lemma =>
        go_wp2_with fail
        go_end0
        exact HZ2.out.stays HE.out
    · by_cases k2 : kd = 2
      · subst k2
        cases c
        · skip
          as_aux_lemma =>
          go_wp2_with fail
          go_end0
          exact HZ2.out.stays HE.out
        · skip
          as_aux_lemma =>
          obtain ⟨⟨xs, xu, xv, xl, xt⟩, hx, es, ea, eb9, ed, et⟩ := HC1.out.1 rfl
          dsimp only at es ea eb9 ed et
          have es2 : s = xs := by omega
          subst es2 ea eb9 ed et
          obtain ⟨i, hi⟩ := List.mem_iff_getElem?.1 hx
          have HI := Lib.hid hi
          have HOK := Lib.hid (HE.out.ok _ hx)
          have HXM := Lib.hid hx
          clear HC1 hx es hi
          go_wp2_with fail
          refine (prem12 (e := ⟨s, a, b, d, t⟩) HZ2.out.pm.here HE.out HI.out (by omega)).mono ?_; rintro e w5 ⟨f5, mk5, rfl, P5, K5⟩
          have H5 := Lib.hid (HZ2.out.over P5)
          have HX5 : Hid (Blk w5 xb 55 _) := Lib.hid (P5.ps.kb _ _ _ HXB.out (by decide) (by decide))
          have HK5 := Lib.hid K5
          clear P5 K5 HZ2 HXB x0 x1 x2 x3 x4 l0 l1 l2 y0 y1 y2 y3 y4 y5 y6 y7 y8 y9 y10 y11 y12 y13 y14 olt llt qlt e0 e1 e2 e3 xlt
          obtain ⟨⟨x0, x1, x2, x3, x4⟩, ⟨l0, l1, l2⟩, y0, y1, y2, y3, y4, y5, y6, y7, y8, y9, y10, y11, y12, y13, y14⟩ := SQ12.rule _ _ _ _ _ _ _ _ _ _ _ _ _ _ _ H5.out.sq
          obtain ⟨olt, llt, qlt⟩ := H5.out.lt
          have e0 := HX5.out.cell 0
          have e1 := HX5.out.cell 1
          have e2 := HX5.out.cell 2
          have e3 := HX5.out.cell 3
          have xlt := HX5.out.lt
          go_wp2_with fail
          clear x0 x1 x2 x3 x4 l0 l1 l2 y0 y1 y2 y3 y4 y5 y6 y7 y8 y9 y10 y11 y12 y13 y14 olt llt qlt e0 e1 e2 e3 xlt
          have HD := Lib.hid H5.out.drew
          clear H5
          obtain ⟨⟨x0, x1, x2, x3, x4⟩, ⟨l0, l1, l2⟩, y0, y1, y2, y3, y4, y5, y6, y7, y8, y9, y10, y11, y12, y13, y14⟩ := SQ12.rule _ _ _ _ _ _ _ _ _ _ _ _ _ _ _ HD.out.sq
          obtain ⟨olt, llt, qlt⟩ := HD.out.lt
          have hrule := SQX12.rule ob lo q eb lb p xb V S T 2 (s : Int) (u : Int) (v : Int) (l : Int) a b d t
          have HD2 : Hid (SQX12 w5.drew ob lo q eb lb p xb V S T 2 (s : Int) (u : Int) (v : Int) (l : Int) a b d t) := Lib.hid ⟨HD.out.sq, HX5.out⟩
          go_region_held3 (fun W => SQX12 W ob lo q eb lb p xb V S T 2 (s : Int) (u : Int) (v : Int) (l : Int) a b d t) (first | (with_reducible assumption) | (with_reducible exact H62.out) | (with_reducible exact HD2.out))
            (first
              | (go_at_call 48; ((with_reducible refine (ta_remove (u := a) (v := b) HD.out.pm.ps.ta (by have := HOK.out; omega) HOK.out.2.1 (by have := HOK.out; omega) (by omega)).mono ?_); rintro e w6 ⟨rfl, A6, O6⟩; have H6 := Lib.hid (HD.out.turn (rem_kl (e := ⟨s, a, b, d, t⟩) HR.out HOK.out.1 HOK.out.2.1) A6 O6); have H62 : Hid (SQX12 w6 ob lo q eb lb p xb V S T 2 (s : Int) (u : Int) (v : Int) (l : Int) a b d t) := Lib.hid ⟨H6.out.sq, Blk.ta (Blk.drew HX5.out) HD.out.pm.ps.ta O6 (by decide) (by decide)⟩))
              | fail)
          clear hrule x0 x1 x2 x3 x4 l0 l1 l2 y0 y1 y2 y3 y4 y5 y6 y7 y8 y9 y10 y11 y12 y13 y14 olt llt qlt
          go_wp2_with fail
          go_end0
          exact ⟨rfl, _, mk5, _, _, H6.out.pm.more (by omega) (by omega), (HK5.out.er HE.out).remove HR.out HI.out, fun h => absurd h (by decide)⟩
      · by_cases k3 : kd = 3
        · subst k3
          cases c
          · skip
            as_aux_lemma =>
            go_wp2_with fail
            go_end0
            exact HZ2.out.stays HE.out
          · skip
            as_aux_lemma =>
            obtain ⟨⟨xs, xu, xv, xl, xt⟩, hx, es, ea, eb9, ed, et⟩ := HC1.out.1 rfl
            dsimp only at es ea eb9 ed et
            have es2 : s = xs := by omega
            subst es2 ea eb9 ed et
            obtain ⟨i, hi⟩ := List.mem_iff_getElem?.1 hx
            have HI := Lib.hid hi
            have HOK := Lib.hid (HE.out.ok _ hx)
            have HXM := Lib.hid hx
            clear HC1 hx es hi
            go_wp2_with fail
            refine (prem12 (e := ⟨s, a, b, d, t⟩) HZ2.out.pm.here HE.out HI.out (by omega)).mono ?_; rintro e w5 ⟨f5, mk5, rfl, P5, K5⟩
            have H5 := Lib.hid (HZ2.out.over P5)
            have HX5 : Hid (Blk w5 xb 55 _) := Lib.hid (P5.ps.kb _ _ _ HXB.out (by decide) (by decide))
            have HK5 := Lib.hid K5
            clear P5 K5 HZ2 HXB x0 x1 x2 x3 x4 l0 l1 l2 y0 y1 y2 y3 y4 y5 y6 y7 y8 y9 y10 y11 y12 y13 y14 olt llt qlt e0 e1 e2 e3 xlt
            obtain ⟨⟨x0, x1, x2, x3, x4⟩, ⟨l0, l1, l2⟩, y0, y1, y2, y3, y4, y5, y6, y7, y8, y9, y10, y11, y12, y13, y14⟩ := SQ12.rule _ _ _ _ _ _ _ _ _ _ _ _ _ _ _ H5.out.sq
            obtain ⟨olt, llt, qlt⟩ := H5.out.lt
            have e0 := HX5.out.cell 0
            have e1 := HX5.out.cell 1
            have e2 := HX5.out.cell 2
            have e3 := HX5.out.cell 3
            have xlt := HX5.out.lt
            go_wp2_with fail
            clear x0 x1 x2 x3 x4 l0 l1 l2 y0 y1 y2 y3 y4 y5 y6 y7 y8 y9 y10 y11 y12 y13 y14 olt llt qlt e0 e1 e2 e3 xlt
            have HD := Lib.hid H5.out.drew
            clear H5
            obtain ⟨⟨x0, x1, x2, x3, x4⟩, ⟨l0, l1, l2⟩, y0, y1, y2, y3, y4, y5, y6, y7, y8, y9, y10, y11, y12, y13, y14⟩ := SQ12.rule _ _ _ _ _ _ _ _ _ _ _ _ _ _ _ HD.out.sq
            obtain ⟨olt, llt, qlt⟩ := HD.out.lt
            have hrule := SQ12.rule ob lo q eb lb p V S T 3 (s : Int) (u : Int) (v : Int) (l : Int)
            have HE5 := Lib.hid (HK5.out.er HE.out)
            have HE6 := Lib.hid (HE5.out.lift2 (k := l) HR.out HI.out HP.out.2.2.2.2)
            go_region_held3 (fun W => SQ12 W ob lo q eb lb p V S T 3 (s : Int) (u : Int) (v : Int) (l : Int)) (first | (with_reducible assumption) | (with_reducible exact H6.out.sq) | (with_reducible exact HD.out.sq))
              (first
                | (go_at_call 49; ((with_reducible refine (ta_lift (x := ⟨s, a, b, d, t⟩) (k := l) HD.out.pm.ps.ta HE5.out HXM.out HP.out.2.2.2.2 (by omega)).mono ?_); rintro e w6 ⟨rfl, A6, O6⟩; have H6 := Lib.hid (HD.out.turn (lift_kl (e := ⟨s, a, b, d, t⟩) HR.out HOK.out.2.2.1) A6 O6); have HX6 : Hid (Blk w6 xb 55 _) := Lib.hid (Blk.ta (Blk.drew HX5.out) HD.out.pm.ps.ta O6 (by decide) (by decide))))
                | fail)
            clear hrule x0 x1 x2 x3 x4 l0 l1 l2 y0 y1 y2 y3 y4 y5 y6 y7 y8 y9 y10 y11 y12 y13 y14 olt llt qlt HD A6 O6 HX5
            generalize hf6 : upd f5 (sC S T s 2) (l : Int) = f6 at H6
            have HF6 : Hid (ER V S T f6 (bs.eraseIdx i ++ [⟨s, a, b, l, t⟩])) := Lib.hid (by rw [← hf6]; exact HE6.out)
            clear hf6 HE6 HE5
            obtain ⟨⟨x0, x1, x2, x3, x4⟩, ⟨l0, l1, l2⟩, y0, y1, y2, y3, y4, y5, y6, y7, y8, y9, y10, y11, y12, y13, y14⟩ := SQ12.rule _ _ _ _ _ _ _ _ _ _ _ _ _ _ _ H6.out.sq
            obtain ⟨olt, llt, qlt⟩ := H6.out.lt
            have e0 := HX6.out.cell 0
            have e1 := HX6.out.cell 1
            have e2 := HX6.out.cell 2
            have e3 := HX6.out.cell 3
            have xlt := HX6.out.lt
            have xfr := HX6.out.frozen 2
            go_wp2_with fail
            have H7 := Lib.hid (H6.out.other HX6.out HBX.out.1 HBX.out.2 2 (.int .i64 (l : Int)))
            clear x0 x1 x2 x3 x4 l0 l1 l2 y0 y1 y2 y3 y4 y5 y6 y7 y8 y9 y10 y11 y12 y13 y14 olt llt qlt e0 e1 e2 e3 xlt xfr
            refine (padd12 (e := ⟨s, a, b, l, t⟩) H7.out.pm.here HF6.out (by omega)).mono ?_; rintro e w8 ⟨f8, mk8, rfl, P8, K8⟩
            have HP8 := Lib.hid (And.intro P8 K8)
            clear P8 K8
            go_wp2_with fail
            go_end0
            exact ⟨rfl, f8, mk8, _, _, (H7.out.pm.over HP8.out.1).more (by omega) (by omega), HP8.out.2.er HF6.out, fun h => absurd h (by decide)⟩
        · have n1 : (kd == 1) = false := beq_eq_false_iff_ne.2 k1
          have n2 : (kd == 2) = false := beq_eq_false_iff_ne.2 k2
          have n3 : (kd == 3) = false := beq_eq_false_iff_ne.2 k3
          as_aux_lemma =>
          go_wp2_with fail
          go_end0
          exact HZ2.out.stays HE.out
end
end Go.Proofs.Ytaooglagddphnaa
