/- A call that may be. Printed by wip/tools/edi.py. -/
import Derived.Test.YtahabfjngeicmaaEkM
namespace Go.Proofs.Ytahabfjngeicmaa
open Go.RowKit

set_option maxRecDepth 100000

section
variable {w : World} {base q p gb cap m : Nat} {V S T kd : Int} {t : Bool} {f : Nat → Int} {vl : Value} {ls : List E1}
variable {s u v l : Nat}
set_option maxHeartbeats 8000000 in
theorem step_good (h : PW w base q V S T p gb cap m f vl ls) (hE : ER V S T f ls) (hl : ls.length ≤ 1000) (hm : m ≤ 800000) (hne : u ≠ v) (hu : (u : Int) < V) (hv : (v : Int) < V) (hs : (s : Int) < S) (hl9 : (l : Int) < lv V) :
    Calls Try.prog 24 #[.pointer (some ⟨q, 0, none⟩), vO11 kd (s : Int) (u : Int) (v : Int) (l : Int) t] w (StD w base q V S T p gb cap m ls (s : Int) (u : Int) (v : Int)) := by
  have HE := Lib.hid hE
  have HR := Lib.hid h.em.hR
  have HLN := Lib.hid hl
  have al : ∀ (W : World), (W.alloc (.cells #[.int .i64 kd, .int .i64 (s : Int), .int .i64 (u : Int), .int .i64 (v : Int), .int .i64 (l : Int), .bool t] 72)).heap.size = W.heap.size + 1 := fun W => by simp
  have HX : Hid (SX w ((w.alloc (.cells #[.int .i64 kd, .int .i64 (s : Int), .int .i64 (u : Int), .int .i64 (v : Int), .int .i64 (l : Int), .bool t] 72)).alloc (.cells #[.int .i64 V, .int .i64 S, .int .i64 T] 23)) base q w.heap.size (w.heap.size + 1) V S T p gb cap m f vl ls kd (s : Int) (u : Int) (v : Int) (l : Int) t) := Lib.hid ⟨h.below (((Below.refl _ _).alloc (Nat.le_refl _) _).alloc (by simp) _), (Blk.new _ _ _).alloc _, new_next _ _ _ _ _, (((Below.refl _ _).alloc (Nat.le_refl _) _).alloc (by simp) _).mono h.size, fun i cs hz => (hz.alloc _).alloc _, fun i cs hz _ => (hz.alloc _).alloc _⟩
  clear al
  obtain ⟨y0, y1, y2, y3, y4, y5, y6, y7⟩ := h.pq.cells
  have qlt := h.pq.lt
  have HV0 : Hid (w.cell? ⟨q, 7, none⟩ = some vl) := Lib.hid y7
  clear h hE hl
  go_enter Try.func24, Try.ntmps24
  go_wp2_with fail
  clear y0 y1 y2 y3 y4 y5 y6 y7 qlt
  generalize (w.alloc (.cells #[.int .i64 kd, .int .i64 (s : Int), .int .i64 (u : Int), .int .i64 (v : Int), .int .i64 (l : Int), .bool t] 72)).alloc (.cells #[.int .i64 V, .int .i64 S, .int .i64 T] 23) = w1 at HX ⊢
  generalize w.heap.size + 1 = lo at HX ⊢
  generalize w.heap.size = ob at HX ⊢
  obtain ⟨iI, hiI⟩ := slI_ex ls s
  obtain ⟨kI, hkI⟩ := btI_ex ls u v
  have HI := Lib.hid hiI
  have HK := Lib.hid hkI
  obtain ⟨i0, i1⟩ := hiI.bd HLN.out
  obtain ⟨k0, k1⟩ := hkI.bd HLN.out
  clear hiI hkI
  have HP : Hid (u ≠ v ∧ (u : Int) < V ∧ (v : Int) < V ∧ (s : Int) < S ∧ (l : Int) < lv V) := Lib.hid ⟨hne, hu, hv, hs, hl9⟩
  have g0 : ((u : Int) == (v : Int)) = false := beq_eq_false_iff_ne.2 (by omega)
  have g1 : ¬ (u : Int) < 0 := by omega
  have gd1 := decide_eq_false g1
  have g2 : ¬ V ≤ (u : Int) := by omega
  have gd2 := decide_eq_false g2
  have g3 : ¬ (v : Int) < 0 := by omega
  have gd3 := decide_eq_false g3
  have g4 : ¬ V ≤ (v : Int) := by omega
  have gd4 := decide_eq_false g4
  have g5 : ¬ (s : Int) < 0 := by omega
  have gd5 := decide_eq_false g5
  have g6 : ¬ S ≤ (s : Int) := by omega
  have gd6 := decide_eq_false g6
  have g7 : ¬ (l : Int) < 0 := by omega
  have gd7 := decide_eq_false g7
  have g8 : ¬ lv V ≤ (l : Int) := by omega
  have gd8 := decide_eq_false g8
  clear hne
  have Hd := Lib.hid HX.out.drew
  clear HX
  obtain ⟨⟨x0, x1, x2, x3, x4, x5⟩, ⟨l0, l1, l2⟩, y0, y1, y2, y3, y4, y5, y6, y7⟩ := SQ.rule _ _ _ _ _ _ _ _ _ _ _ _ _ _ _ Hd.out.sq
  obtain ⟨olt, llt, qlt⟩ := Hd.out.lt
  have hrule := SQ.rule ob lo q p V S T vl kd (s : Int) (u : Int) (v : Int) (l : Int) t
  refine wp_region_held_drew (S := (fun W => SQ W ob lo q p V S T vl kd (s : Int) (u : Int) (v : Int) (l : Int) t)) (by kernel_rfl) ?_ (fun hHeld => ?_)
  · exact Hd.out.sq
  refine tkN (i := 0) (v := ?_) rfl ?_ ?_
  rotate_left
  · (intro w hSw; (try dsimp only at hSw); go_simp; try with_reducible rfl)
  try simp only [Act.put, sq1, sq2, sq3, sq4, sq5]
  refine tkN (i := 1) (v := ?_) rfl ?_ ?_
  rotate_left
  · (intro w hSw; (try dsimp only at hSw); go_simp; try with_reducible rfl)
  try simp only [Act.put, sq1, sq2, sq3, sq4, sq5, sq6]
  refine tkN (i := 2) (v := ?_) rfl ?_ ?_
  rotate_left
  · (intro w hSw; (try dsimp only at hSw); go_simp; try with_reducible rfl)
  try simp only [Act.put, sq1, sq2, sq3, sq4, sq5, sq6]
  refine tkN (i := 3) (v := ?_) rfl ?_ ?_
  rotate_left
  · (intro w hSw; (try dsimp only at hSw); go_simp; try with_reducible rfl)
  try simp only [Act.put, sq1, sq2, sq3, sq4, sq5, sq6]
  refine tkN (i := 4) (v := ?_) rfl ?_ ?_
  rotate_left
  · (intro w hSw; (try dsimp only at hSw); go_simp; try with_reducible rfl)
  try simp only [Act.put, sq1, sq2, sq3, sq4, sq5, sq6]
  refine tkN (i := 5) (v := ?_) rfl ?_ ?_
  rotate_left
  · (intro w hSw; (try dsimp only at hSw); go_simp; try with_reducible rfl)
  try simp only [Act.put, sq1, sq2, sq3, sq4, sq5, sq6]
  refine tkN (i := 6) (v := ?_) rfl ?_ ?_
  rotate_left
  · (intro w hSw; (try dsimp only at hSw); go_simp; try with_reducible rfl)
  try simp only [Act.put, sq1, sq2, sq3, sq4, sq5, sq6]
  refine tkN (i := 7) (v := ?_) rfl ?_ ?_
  rotate_left
  · (intro w hSw; (try dsimp only at hSw); go_simp; try with_reducible rfl)
  try simp only [Act.put, sq1, sq2, sq3, sq4, sq5, sq6]
  refine tkN (i := 8) (v := ?_) rfl ?_ ?_
  rotate_left
  · (intro w hSw; (try dsimp only at hSw); go_simp; try with_reducible rfl)
  try simp only [Act.put, sq1, sq2, sq3, sq4, sq5, sq6]
  refine tkN (i := 9) (v := ?_) rfl ?_ ?_
  rotate_left
  · (intro w hSw; (try dsimp only at hSw); go_simp; try with_reducible rfl)
  try simp only [Act.put, sq1, sq2, sq3, sq4, sq5, sq6]
  refine tkN (i := 10) (v := ?_) rfl ?_ ?_
  rotate_left
  · (intro w hSw; (try dsimp only at hSw); go_simp; try with_reducible rfl)
  try simp only [Act.put, sq1, sq2, sq3, sq4, sq5, sq6]
  refine tkN (i := 11) (v := ?_) rfl ?_ ?_
  rotate_left
  · (intro w hSw; (try dsimp only at hSw); go_simp; try with_reducible rfl)
  try simp only [Act.put, sq1, sq2, sq3, sq4, sq5, sq6]
  refine tkN (i := 12) (v := ?_) rfl ?_ ?_
  rotate_left
  · (intro w hSw; (try dsimp only at hSw); go_simp; try with_reducible rfl)
  try simp only [Act.put, sq1, sq2, sq3, sq4, sq5, sq6]
  refine tkN (i := 13) (v := ?_) rfl ?_ ?_
  rotate_left
  · (intro w hSw; (try dsimp only at hSw); go_simp; try with_reducible rfl)
  try simp only [Act.put, sq1, sq2, sq3, sq4, sq5, sq6]
  refine tkN (i := 14) (v := ?_) rfl ?_ ?_
  rotate_left
  · (intro w hSw; (try dsimp only at hSw); go_simp; try with_reducible rfl)
  try simp only [Act.put, sq1, sq2, sq3, sq4, sq5, sq6]
  refine tkN (i := 15) (v := ?_) rfl ?_ ?_
  rotate_left
  · (intro w hSw; (try dsimp only at hSw); go_simp; try with_reducible rfl)
  try simp only [Act.put, sq1, sq2, sq3, sq4, sq5, sq6]
  refine tkN (i := 16) (v := ?_) rfl ?_ ?_
  rotate_left
  · (intro w hSw; (try dsimp only at hSw); go_simp; try with_reducible rfl)
  try simp only [Act.put, sq1, sq2, sq3, sq4, sq5, sq6]
  refine tkN (i := 17) (v := ?_) rfl ?_ ?_
  rotate_left
  · (intro w hSw; (try dsimp only at hSw); go_simp; try with_reducible rfl)
  try simp only [Act.put, sq1, sq2, sq3, sq4, sq5, sq6]
  refine tkN (i := 18) (v := ?_) rfl ?_ ?_
  rotate_left
  · (intro w hSw; (try dsimp only at hSw); go_simp; try with_reducible rfl)
  try simp only [Act.put, sq1, sq2, sq3, sq4, sq5, sq6]
  refine tkN (i := 19) (v := ?_) rfl ?_ ?_
  rotate_left
  · (intro w hSw; (try dsimp only at hSw); go_simp; try with_reducible rfl)
  try simp only [Act.put, sq1, sq2, sq3, sq4, sq5, sq6]
  refine tkN (i := 20) (v := ?_) rfl ?_ ?_
  rotate_left
  · (intro w hSw; (try dsimp only at hSw); go_simp; try with_reducible rfl)
  try simp only [Act.put, sq1, sq2, sq3, sq4, sq5, sq6]
  refine tkN (i := 21) (v := ?_) rfl ?_ ?_
  rotate_left
  · (intro w hSw; (try dsimp only at hSw); go_simp; try with_reducible rfl)
  try simp only [Act.put, sq1, sq2, sq3, sq4, sq5, sq6]
  refine tkN (i := 22) (v := ?_) rfl ?_ ?_
  rotate_left
  · (intro w hSw; (try dsimp only at hSw); go_simp; try with_reducible rfl)
  try simp only [Act.put, sq1, sq2, sq3, sq4, sq5, sq6]
  refine tkN (i := 23) (v := ?_) rfl ?_ ?_
  rotate_left
  · (intro w hSw; (try dsimp only at hSw); go_simp; try with_reducible rfl)
  try simp only [Act.put, sq1, sq2, sq3, sq4, sq5, sq6]
  refine tkN (i := 24) (v := ?_) rfl ?_ ?_
  rotate_left
  · (intro w hSw; (try dsimp only at hSw); go_simp; try with_reducible rfl)
  try simp only [Act.put, sq1, sq2, sq3, sq4, sq5, sq6]
  refine tkN (i := 25) (v := ?_) rfl ?_ ?_
  rotate_left
  · (intro w hSw; (try dsimp only at hSw); go_simp; try with_reducible rfl)
  try simp only [Act.put, sq1, sq2, sq3, sq4, sq5, sq6]
  refine tkN (i := 26) (v := ?_) rfl ?_ ?_
  rotate_left
  · (intro w hSw; (try dsimp only at hSw); go_simp; try with_reducible rfl)
  try simp only [Act.put, sq1, sq2, sq3, sq4, sq5, sq6]
  refine tkN (i := 27) (v := ?_) rfl ?_ ?_
  rotate_left
  · (intro w hSw; (try dsimp only at hSw); go_simp; try with_reducible rfl)
  try simp only [Act.put, sq1, sq2, sq3, sq4, sq5, sq6]
  refine tkN (i := 28) (v := ?_) rfl ?_ ?_
  rotate_left
  · (intro w hSw; (try dsimp only at hSw); go_simp; try with_reducible rfl)
  try simp only [Act.put, sq1, sq2, sq3, sq4, sq5, sq6]
  refine tkN (i := 29) (v := ?_) rfl ?_ ?_
  rotate_left
  · (intro w hSw; (try dsimp only at hSw); go_simp; try with_reducible rfl)
  try simp only [Act.put, sq1, sq2, sq3, sq4, sq5, sq6]
  refine tkN (i := 30) (v := ?_) rfl ?_ ?_
  rotate_left
  · (intro w hSw; (try dsimp only at hSw); go_simp; try with_reducible rfl)
  try simp only [Act.put, sq1, sq2, sq3, sq4, sq5, sq6]
  refine tkN (i := 31) (v := ?_) rfl ?_ ?_
  rotate_left
  · (intro w hSw; (try dsimp only at hSw); go_simp; try with_reducible rfl)
  try simp only [Act.put, sq1, sq2, sq3, sq4, sq5, sq6]
  refine tkN (i := 32) (v := ?_) rfl ?_ ?_
  rotate_left
  · (intro w hSw; (try dsimp only at hSw); go_simp; try with_reducible rfl)
  try simp only [Act.put, sq1, sq2, sq3, sq4, sq5, sq6]
  refine tkN (i := 33) (v := ?_) rfl ?_ ?_
  rotate_left
  · (intro w hSw; (try dsimp only at hSw); go_simp; try with_reducible rfl)
  try simp only [Act.put, sq1, sq2, sq3, sq4, sq5, sq6]
  refine tkN (i := 34) (v := ?_) rfl ?_ ?_
  rotate_left
  · (intro w hSw; (try dsimp only at hSw); go_simp; try with_reducible rfl)
  try simp only [Act.put, sq1, sq2, sq3, sq4, sq5, sq6]
  refine tkN (i := 35) (v := ?_) rfl ?_ ?_
  rotate_left
  · (intro w hSw; (try dsimp only at hSw); go_simp; try with_reducible rfl)
  try simp only [Act.put, sq1, sq2, sq3, sq4, sq5, sq6]
  refine tkN (i := 36) (v := ?_) rfl ?_ ?_
  rotate_left
  · (intro w hSw; (try dsimp only at hSw); go_simp; try with_reducible rfl)
  try simp only [Act.put, sq1, sq2, sq3, sq4, sq5, sq6]
  refine tkN (i := 37) (v := ?_) rfl ?_ ?_
  rotate_left
  · (intro w hSw; (try dsimp only at hSw); go_simp; try with_reducible rfl)
  try simp only [Act.put, sq1, sq2, sq3, sq4, sq5, sq6]
  refine tkN (i := 38) (v := ?_) rfl ?_ ?_
  rotate_left
  · (intro w hSw; (try dsimp only at hSw); go_simp; try with_reducible rfl)
  try simp only [Act.put, sq1, sq2, sq3, sq4, sq5, sq6]
  refine tkN (i := 39) (v := ?_) rfl ?_ ?_
  rotate_left
  · (intro w hSw; (try dsimp only at hSw); go_simp; try with_reducible rfl)
  try simp only [Act.put, sq1, sq2, sq3, sq4, sq5, sq6]
  refine tkN (i := 40) (v := ?_) rfl ?_ ?_
  rotate_left
  · (intro w hSw; (try dsimp only at hSw); go_simp; try with_reducible rfl)
  try simp only [Act.put, sq1, sq2, sq3, sq4, sq5, sq6]
  refine tkN (i := 41) (v := ?_) rfl ?_ ?_
  rotate_left
  · (intro w hSw; (try dsimp only at hSw); go_simp; try with_reducible rfl)
  try simp only [Act.put, sq1, sq2, sq3, sq4, sq5, sq6]
  refine tkN (i := 42) (v := ?_) rfl ?_ ?_
  rotate_left
  · (intro w hSw; (try dsimp only at hSw); go_simp; try with_reducible rfl)
  try simp only [Act.put, sq1, sq2, sq3, sq4, sq5, sq6]
  refine tkN (i := 43) (v := ?_) rfl ?_ ?_
  rotate_left
  · (intro w hSw; (try dsimp only at hSw); go_simp; try with_reducible rfl)
  try simp only [Act.put, sq1, sq2, sq3, sq4, sq5, sq6]
  refine tkN (i := 44) (v := ?_) rfl ?_ ?_
  rotate_left
  · (intro w hSw; (try dsimp only at hSw); go_simp; try with_reducible rfl)
  try simp only [Act.put, sq1, sq2, sq3, sq4, sq5, sq6]
  refine tkN (i := 45) (v := ?_) rfl ?_ ?_
  rotate_left
  · (intro w hSw; (try dsimp only at hSw); go_simp; try with_reducible rfl)
  try simp only [Act.put, sq1, sq2, sq3, sq4, sq5, sq6]
  refine tkN (i := 46) (v := ?_) rfl ?_ ?_
  rotate_left
  · (intro w hSw; (try dsimp only at hSw); go_simp; try with_reducible rfl)
  try simp only [Act.put, sq1, sq2, sq3, sq4, sq5, sq6]
  refine tkN (i := 47) (v := ?_) rfl ?_ ?_
  rotate_left
  · (intro w hSw; (try dsimp only at hSw); go_simp; try with_reducible rfl)
  try simp only [Act.put, sq1, sq2, sq3, sq4, sq5, sq6]
  refine tkN (i := 48) (v := ?_) rfl ?_ ?_
  rotate_left
  · (intro w hSw; (try dsimp only at hSw); go_simp; try with_reducible rfl)
  try simp only [Act.put, sq1, sq2, sq3, sq4, sq5, sq6]
  refine tkN (i := 49) (v := ?_) rfl ?_ ?_
  rotate_left
  · (intro w hSw; (try dsimp only at hSw); go_simp; try with_reducible rfl)
  try simp only [Act.put, sq1, sq2, sq3, sq4, sq5, sq6]
  refine wpAnyH_ready (rs := [50]) (by kernel_rfl) (by simp) ?_
  refine AllReadyH.cons rfl (fun K hK => ?_) ?_
  rotate_left
  · exact AllReadyH.nil
  go_simp
  (refine (levels_yes _ _ _ HR.out _).mono ?_; rintro e w2 ⟨rfl, B1⟩; have H1 := Lib.hid (Hd.out.below B1))
  go_wp2_with fail
  refine hK.out _ _ ?_ (fun hHeld => ?_)
  · (try dsimp only); (first | (with_reducible assumption) | (with_reducible exact H1.out.sq) | (with_reducible exact Hd.out.sq))
  clear hK K
  try simp only [Act.put, sq1, sq2, sq3, sq4, sq5, sq6]
  refine tkN (i := 51) (v := ?_) rfl ?_ ?_
  rotate_left
  · (intro w hSw; (try dsimp only at hSw); go_simp; try with_reducible rfl)
  try simp only [Act.put, sq1, sq2, sq3, sq4, sq5, sq6]
  refine tkN (i := 52) (v := ?_) rfl ?_ ?_
  rotate_left
  · (intro w hSw; (try dsimp only at hSw); go_simp; try with_reducible rfl)
  try simp only [Act.put, sq1, sq2, sq3, sq4, sq5, sq6]
  refine wpAnyH_done (by kernel_rfl) ?_ _
  clear hrule x0 x1 x2 x3 x4 x5 l0 l1 l2 y0 y1 y2 y3 y4 y5 y6 y7 olt llt qlt
  clear Hd B1 g1 gd1 g2 gd2 g3 gd3 g4 gd4 g5 gd5 g6 gd6 g7 gd7 g8 gd8 g0
  obtain ⟨⟨x0, x1, x2, x3, x4, x5⟩, ⟨l0, l1, l2⟩, y0, y1, y2, y3, y4, y5, y6, y7⟩ := SQ.rule _ _ _ _ _ _ _ _ _ _ _ _ _ _ _ H1.out.sq
  obtain ⟨olt, llt, qlt⟩ := H1.out.lt
  have hrule := SQ.rule ob lo q p V S T vl kd (s : Int) (u : Int) (v : Int) (l : Int) t
  go_wp2_with fail
  clear hrule x0 x1 x2 x3 x4 x5 l0 l1 l2 y0 y1 y2 y3 y4 y5 y6 y7 olt llt qlt
  have H2 := Lib.hid H1.out.drew
  clear H1
  obtain ⟨⟨x0, x1, x2, x3, x4, x5⟩, ⟨l0, l1, l2⟩, y0, y1, y2, y3, y4, y5, y6, y7⟩ := SQ.rule _ _ _ _ _ _ _ _ _ _ _ _ _ _ _ H2.out.sq
  obtain ⟨olt, llt, qlt⟩ := H2.out.lt
  have hrule := SQ.rule ob lo q p V S T vl kd (s : Int) (u : Int) (v : Int) (l : Int) t
  go_region_held3 (fun W => SQ W ob lo q p V S T vl kd (s : Int) (u : Int) (v : Int) (l : Int) t) (first | (with_reducible assumption) | (with_reducible exact H4.out.sq) | (with_reducible exact H3.out.sq) | (with_reducible exact H2.out.sq))
    (first
      | (go_at_call 62; ((with_reducible refine (slot_any H2.out.pw.pq H2.out.pw.ow HE.out HLN.out HI.out).mono ?_); rintro e w3 ⟨rfl, B3⟩; have H3 := Lib.hid (H2.out.below B3)))
      | (go_at_call 27; ((with_reducible refine (between_any H3.out.pw.pq H3.out.pw.ow HE.out HLN.out HK.out).mono ?_); rintro e w3 ⟨rfl, B4⟩; have H4 := Lib.hid (H3.out.below B4)))
      | fail)
  clear hrule x0 x1 x2 x3 x4 x5 l0 l1 l2 y0 y1 y2 y3 y4 y5 y6 y7 olt llt qlt
  clear H2 H3 B3 B4
  obtain ⟨⟨x0, x1, x2, x3, x4, x5⟩, ⟨l0, l1, l2⟩, y0, y1, y2, y3, y4, y5, y6, y7⟩ := SQ.rule _ _ _ _ _ _ _ _ _ _ _ _ _ _ _ H4.out.sq
  obtain ⟨olt, llt, qlt⟩ := H4.out.lt
  have hrule := SQ.rule ob lo q p V S T vl kd (s : Int) (u : Int) (v : Int) (l : Int) t
  cases e1 : (kd == 1)
  rotate_left
  · as_aux_lemma =>
      by_cases gi : 0 ≤ iI
      · go_wp2_with fail
        clear hrule x0 x1 x2 x3 x4 x5 l0 l1 l2 y0 y1 y2 y3 y4 y5 y6 y7 olt llt qlt
        go_end0
        exact H4.out.fin HE.out (by omega) (by omega) (Kp5.refl _ _ _ _)
      by_cases gk : 0 ≤ kI
      · go_wp2_with fail
        clear hrule x0 x1 x2 x3 x4 x5 l0 l1 l2 y0 y1 y2 y3 y4 y5 y6 y7 olt llt qlt
        go_end0
        exact H4.out.fin HE.out (by omega) (by omega) (Kp5.refl _ _ _ _)
      have HNS := Lib.hid (HI.out.neg gi)
      have HNP := Lib.hid (HK.out.neg gk)
      go_wp2_with fail
      clear HI HK i0 i1 k0 k1 gi gk
      clear hrule x0 x1 x2 x3 x4 x5 l0 l1 l2 y0 y1 y2 y3 y4 y5 y6 y7 olt llt qlt
      have H5 := Lib.hid H4.out.drew
      clear H4
      obtain ⟨⟨x0, x1, x2, x3, x4, x5⟩, ⟨l0, l1, l2⟩, y0, y1, y2, y3, y4, y5, y6, y7⟩ := SQ.rule _ _ _ _ _ _ _ _ _ _ _ _ _ _ _ H5.out.sq
      obtain ⟨olt, llt, qlt⟩ := H5.out.lt
      have hrule := SQ.rule ob lo q p V S T vl kd (s : Int) (u : Int) (v : Int) (l : Int) t
      go_region_held3 (fun W => SQ W ob lo q p V S T vl kd (s : Int) (u : Int) (v : Int) (l : Int) t) (first | (with_reducible assumption) | (with_reducible exact H6.out.sq) | (with_reducible exact H5.out.sq))
        (first
          | (go_at_call 60; ((with_reducible refine (put_any H5.out.pw.em HP.out.2.1 HP.out.2.2.1 HP.out.1 HP.out.2.2.2.1 HP.out.2.2.2.2 (by omega)).mono ?_); rintro e w3 ⟨rfl, A6, O6⟩; have H6 := Lib.hid (H5.out.next A6 O6)))
          | fail)
      clear hrule x0 x1 x2 x3 x4 x5 l0 l1 l2 y0 y1 y2 y3 y4 y5 y6 y7 olt llt qlt
      clear H5 A6 O6
      obtain ⟨⟨x0, x1, x2, x3, x4, x5⟩, ⟨l0, l1, l2⟩, y0, y1, y2, y3, y4, y5, y6, y7⟩ := SQ.rule _ _ _ _ _ _ _ _ _ _ _ _ _ _ _ H6.out.sq
      obtain ⟨olt, llt, qlt⟩ := H6.out.lt
      have hrule := SQ.rule ob lo q p V S T vl kd (s : Int) (u : Int) (v : Int) (l : Int) t
      go_wp2_with fail
      clear hrule x0 x1 x2 x3 x4 x5 l0 l1 l2 y0 y1 y2 y3 y4 y5 y6 y7 olt llt qlt
      have H7 := Lib.hid H6.out.drew
      obtain ⟨⟨x0, x1, x2, x3, x4, x5⟩, ⟨l0, l1, l2⟩, y0, y1, y2, y3, y4, y5, y6, y7⟩ := SQ.rule _ _ _ _ _ _ _ _ _ _ _ _ _ _ _ H7.out.sq
      obtain ⟨olt, llt, qlt⟩ := H7.out.lt
      have hrule := SQ.rule ob lo q p V S T vl kd (s : Int) (u : Int) (v : Int) (l : Int) t
      obtain ⟨a, ha⟩ : ∃ a, min u v = a := ⟨_, rfl⟩
      obtain ⟨b, hb9⟩ : ∃ a, max u v = a := ⟨_, rfl⟩
      have mI : (if v < u then (v : Int) else (u : Int)) = (a : Int) := by split <;> omega
      have xI : (if u < v then (v : Int) else (u : Int)) = (b : Int) := by split <;> omega
      rw [ha, hb9] at H6 H7 HNP
      have HAB : Hid (a < b ∧ (b : Int) < V) := Lib.hid (by have := HP.out; omega)
      clear ha hb9
      refine wp_till (fun W => SQ W ob lo q p V S T vl kd (s : Int) (u : Int) (v : Int) (l : Int) t) (fun j => decide (27 ≤ j)) (by kernel_rfl) ?_ (fun hHeld => ?_)
      · exact H7.out.sq
      refine Till.plain (i := 0) (v := ?_) rfl (by kernel_rfl) (by kernel_rfl) (by kernel_rfl) (fun _ _ _ h => h) (Or.inl ⟨by rfl, ?_⟩) ?_
      rotate_left
      · (intro w hSw; (try dsimp only at hSw); go_simp; try with_reducible rfl)
      try simp only [Act.put, List.setIfInBounds_toArray, List.set_cons_zero, List.set_cons_succ, List.getElem_toArray, List.getElem_cons_zero]
      refine Till.plain (i := 1) (v := ?_) rfl (by kernel_rfl) (by kernel_rfl) (by kernel_rfl) (fun _ _ _ h => h) (Or.inl ⟨by rfl, ?_⟩) ?_
      rotate_left
      · (intro w hSw; (try dsimp only at hSw); go_simp; try with_reducible rfl)
      try simp only [Act.put, List.setIfInBounds_toArray, List.set_cons_zero, List.set_cons_succ, List.getElem_toArray, List.getElem_cons_zero, List.getElem_cons_succ]
      refine Till.plain (i := 2) (v := ?_) rfl (by kernel_rfl) (by kernel_rfl) (by kernel_rfl) (fun _ _ _ h => h) (Or.inl ⟨by rfl, ?_⟩) ?_
      rotate_left
      · (intro w hSw; (try dsimp only at hSw); go_simp; try with_reducible rfl)
      try simp only [Act.put, List.setIfInBounds_toArray, List.set_cons_zero, List.set_cons_succ, List.getElem_toArray, List.getElem_cons_zero, List.getElem_cons_succ]
      refine Till.plain (i := 3) (v := ?_) rfl (by kernel_rfl) (by kernel_rfl) (by kernel_rfl) (fun _ _ _ h => h) (Or.inl ⟨by rfl, ?_⟩) ?_
      rotate_left
      · (intro w hSw; (try dsimp only at hSw); go_simp; try with_reducible rfl)
      try simp only [Act.put, List.setIfInBounds_toArray, List.set_cons_zero, List.set_cons_succ, List.getElem_toArray, List.getElem_cons_zero, List.getElem_cons_succ]
      refine Till.load (i := 4) (v := ?_) rfl (by kernel_rfl) (by kernel_rfl) (by kernel_rfl) (by kernel_rfl) (fun _ _ _ h => h) (Or.inl ⟨by rfl, ?_⟩) (by assumption) ?_
      rotate_left
      · (intro w hSw; (try dsimp only at hSw); go_simp; try with_reducible rfl)
      try simp only [Act.put, List.setIfInBounds_toArray, List.set_cons_zero, List.set_cons_succ, List.getElem_toArray, List.getElem_cons_zero, List.getElem_cons_succ]
      refine Till.plain (i := 5) (v := ?_) rfl (by kernel_rfl) (by kernel_rfl) (by kernel_rfl) (fun _ _ _ h => h) (Or.inl ⟨by rfl, ?_⟩) ?_
      rotate_left
      · (intro w hSw; (try dsimp only at hSw); go_simp; try with_reducible rfl)
      try simp only [Act.put, List.setIfInBounds_toArray, List.set_cons_zero, List.set_cons_succ, List.getElem_toArray, List.getElem_cons_zero, List.getElem_cons_succ]
      refine Till.load (i := 6) (v := ?_) rfl (by kernel_rfl) (by kernel_rfl) (by kernel_rfl) (by kernel_rfl) (fun _ _ _ h => h) (Or.inl ⟨by rfl, ?_⟩) (by assumption) ?_
      rotate_left
      · (intro w hSw; (try dsimp only at hSw); go_simp; try with_reducible rfl)
      try simp only [Act.put, List.setIfInBounds_toArray, List.set_cons_zero, List.set_cons_succ, List.getElem_toArray, List.getElem_cons_zero, List.getElem_cons_succ]
      refine Till.plain (i := 7) (v := ?_) rfl (by kernel_rfl) (by kernel_rfl) (by kernel_rfl) (fun _ _ _ h => h) (Or.inl ⟨by rfl, ?_⟩) ?_
      rotate_left
      · (intro w hSw; (try dsimp only at hSw); go_simp; try with_reducible rfl)
      try simp only [Act.put, List.setIfInBounds_toArray, List.set_cons_zero, List.set_cons_succ, List.getElem_toArray, List.getElem_cons_zero, List.getElem_cons_succ]
      refine Till.load (i := 8) (v := ?_) rfl (by kernel_rfl) (by kernel_rfl) (by kernel_rfl) (by kernel_rfl) (fun _ _ _ h => h) (Or.inl ⟨by rfl, ?_⟩) (by assumption) ?_
      rotate_left
      · (intro w hSw; (try dsimp only at hSw); go_simp; try with_reducible rfl)
      try simp only [Act.put, List.setIfInBounds_toArray, List.set_cons_zero, List.set_cons_succ, List.getElem_toArray, List.getElem_cons_zero, List.getElem_cons_succ]
      refine Till.plain (i := 9) (v := ?_) rfl (by kernel_rfl) (by kernel_rfl) (by kernel_rfl) (fun _ _ _ h => h) (Or.inl ⟨by rfl, ?_⟩) ?_
      rotate_left
      · (intro w hSw; (try dsimp only at hSw); go_simp; try with_reducible rfl)
      try simp only [Act.put, List.setIfInBounds_toArray, List.set_cons_zero, List.set_cons_succ, List.getElem_toArray, List.getElem_cons_zero, List.getElem_cons_succ]
      refine Till.load (i := 10) (v := ?_) rfl (by kernel_rfl) (by kernel_rfl) (by kernel_rfl) (by kernel_rfl) (fun _ _ _ h => h) (Or.inl ⟨by rfl, ?_⟩) (by assumption) ?_
      rotate_left
      · (intro w hSw; (try dsimp only at hSw); go_simp; try with_reducible rfl)
      try simp only [Act.put, List.setIfInBounds_toArray, List.set_cons_zero, List.set_cons_succ, List.getElem_toArray, List.getElem_cons_zero, List.getElem_cons_succ]
      refine Till.plain (i := 11) (v := ?_) rfl (by kernel_rfl) (by kernel_rfl) (by kernel_rfl) (fun _ _ _ h => h) (Or.inl ⟨by rfl, ?_⟩) ?_
      rotate_left
      · (intro w hSw; (try dsimp only at hSw); go_simp; try with_reducible rfl)
      try simp only [Act.put, List.setIfInBounds_toArray, List.set_cons_zero, List.set_cons_succ, List.getElem_toArray, List.getElem_cons_zero, List.getElem_cons_succ]
      refine Till.plain (i := 12) (v := ?_) rfl (by kernel_rfl) (by kernel_rfl) (by kernel_rfl) (fun _ _ _ h => h) (Or.inl ⟨by rfl, ?_⟩) ?_
      rotate_left
      · (intro w hSw; (try dsimp only at hSw); go_simp; try with_reducible rfl)
      try simp only [Act.put, List.setIfInBounds_toArray, List.set_cons_zero, List.set_cons_succ, List.getElem_toArray, List.getElem_cons_zero, List.getElem_cons_succ]
      refine Till.load (i := 13) (v := ?_) rfl (by kernel_rfl) (by kernel_rfl) (by kernel_rfl) (by kernel_rfl) (fun _ _ _ h => h) (Or.inl ⟨by rfl, ?_⟩) (by assumption) ?_
      rotate_left
      · (intro w hSw; (try dsimp only at hSw); go_simp; try with_reducible rfl)
      try simp only [Act.put, List.setIfInBounds_toArray, List.set_cons_zero, List.set_cons_succ, List.getElem_toArray, List.getElem_cons_zero, List.getElem_cons_succ]
      refine Till.plain (i := 14) (v := ?_) rfl (by kernel_rfl) (by kernel_rfl) (by kernel_rfl) (fun _ _ _ h => h) (Or.inl ⟨by rfl, ?_⟩) ?_
      rotate_left
      · (intro w hSw; (try dsimp only at hSw); go_simp; try with_reducible rfl)
      try simp only [Act.put, List.setIfInBounds_toArray, List.set_cons_zero, List.set_cons_succ, List.getElem_toArray, List.getElem_cons_zero, List.getElem_cons_succ]
      refine Till.load (i := 15) (v := ?_) rfl (by kernel_rfl) (by kernel_rfl) (by kernel_rfl) (by kernel_rfl) (fun _ _ _ h => h) (Or.inl ⟨by rfl, ?_⟩) (by assumption) ?_
      rotate_left
      · (intro w hSw; (try dsimp only at hSw); go_simp; try with_reducible rfl)
      try simp only [Act.put, List.setIfInBounds_toArray, List.set_cons_zero, List.set_cons_succ, List.getElem_toArray, List.getElem_cons_zero, List.getElem_cons_succ]
      refine Till.plain (i := 16) (v := ?_) rfl (by kernel_rfl) (by kernel_rfl) (by kernel_rfl) (fun _ _ _ h => h) (Or.inl ⟨by rfl, ?_⟩) ?_
      rotate_left
      · (intro w hSw; (try dsimp only at hSw); go_simp; try with_reducible rfl)
      try simp only [Act.put, List.setIfInBounds_toArray, List.set_cons_zero, List.set_cons_succ, List.getElem_toArray, List.getElem_cons_zero, List.getElem_cons_succ]
      refine Till.plain (i := 17) (v := ?_) rfl (by kernel_rfl) (by kernel_rfl) (by kernel_rfl) (fun _ _ _ h => h) (Or.inl ⟨by rfl, ?_⟩) ?_
      rotate_left
      · (intro w hSw; (try dsimp only at hSw); go_simp; try with_reducible rfl)
      try simp only [Act.put, List.setIfInBounds_toArray, List.set_cons_zero, List.set_cons_succ, List.getElem_toArray, List.getElem_cons_zero, List.getElem_cons_succ]
      refine Till.load (i := 18) (v := ?_) rfl (by kernel_rfl) (by kernel_rfl) (by kernel_rfl) (by kernel_rfl) (fun _ _ _ h => h) (Or.inl ⟨by rfl, ?_⟩) (by assumption) ?_
      rotate_left
      · (intro w hSw; (try dsimp only at hSw); go_simp; try with_reducible rfl)
      try simp only [Act.put, List.setIfInBounds_toArray, List.set_cons_zero, List.set_cons_succ, List.getElem_toArray, List.getElem_cons_zero, List.getElem_cons_succ]
      refine Till.plain (i := 19) (v := ?_) rfl (by kernel_rfl) (by kernel_rfl) (by kernel_rfl) (fun _ _ _ h => h) (Or.inl ⟨by rfl, ?_⟩) ?_
      rotate_left
      · (intro w hSw; (try dsimp only at hSw); go_simp; try with_reducible rfl)
      try simp only [Act.put, List.setIfInBounds_toArray, List.set_cons_zero, List.set_cons_succ, List.getElem_toArray, List.getElem_cons_zero, List.getElem_cons_succ]
      refine Till.load (i := 20) (v := ?_) rfl (by kernel_rfl) (by kernel_rfl) (by kernel_rfl) (by kernel_rfl) (fun _ _ _ h => h) (Or.inl ⟨by rfl, ?_⟩) (by assumption) ?_
      rotate_left
      · (intro w hSw; (try dsimp only at hSw); go_simp; try with_reducible rfl)
      try simp only [Act.put, List.setIfInBounds_toArray, List.set_cons_zero, List.set_cons_succ, List.getElem_toArray, List.getElem_cons_zero, List.getElem_cons_succ]
      refine Till.plain (i := 21) (v := ?_) rfl (by kernel_rfl) (by kernel_rfl) (by kernel_rfl) (fun _ _ _ h => h) (Or.inl ⟨by rfl, ?_⟩) ?_
      rotate_left
      · (intro w hSw; (try dsimp only at hSw); go_simp; try with_reducible rfl)
      try simp only [Act.put, List.setIfInBounds_toArray, List.set_cons_zero, List.set_cons_succ, List.getElem_toArray, List.getElem_cons_zero, List.getElem_cons_succ]
      refine Till.plain (i := 22) (v := vOne (s : Int) (a : Int) (b : Int) (l : Int) t) rfl (by kernel_rfl) (by kernel_rfl) (by kernel_rfl) (fun _ _ _ h => h) (Or.inl ⟨by rfl, ?_⟩) ?_
      · exact fun w _ => exec_b79 (x := .tmp 105) (y := .tmp 120) (s := (s : Int)) (a := (a : Int)) (b := (b : Int)) (l := (l : Int)) (t := t) (by rfl) (by rfl) (by rfl)
      try simp only [Act.put, List.setIfInBounds_toArray, List.set_cons_zero, List.set_cons_succ, List.getElem_toArray, List.getElem_cons_zero, List.getElem_cons_succ]
      refine Till.ready (rs := [23]) (by kernel_rfl) (by simp) ?_
      refine AllTill.cons rfl (fun K hK => ?_) ?_
      rotate_left
      · exact AllTill.nil
      refine step_bs (x := .tmp 121) (s := (s : Int)) (a := (a : Int)) (b := (b : Int)) (l := (l : Int)) (t := t) (by rfl) (by rfl) (by rfl) ?_
      refine hK.out _ _ ?_ (fun hHeld => ?_)
      · (try dsimp only); exact (H7.out.alloc _).sq
      clear hK K
      try simp only [Act.put, List.setIfInBounds_toArray, List.set_cons_zero, List.set_cons_succ, List.getElem_toArray, List.getElem_cons_zero, List.getElem_cons_succ]
      refine Till.ready (rs := [24]) (by kernel_rfl) (by simp) ?_
      refine AllTill.cons rfl (fun K hK => ?_) ?_
      rotate_left
      · exact AllTill.nil
      refine step_append_ow (l2 := [⟨s, a, b, l, t⟩]) (by rfl) _ _ (by rfl) rfl (H7.out.alloc (.cells #[.int .i64 (s : Int), .int .i64 (a : Int), .int .i64 (b : Int), .int .i64 (l : Int), .bool t] 79)).pw.ow ⟨w3.drew.heap.size, 0, none⟩ 1 1 rfl rfl (news1 w3.drew ⟨s, a, b, l, t⟩) (by have := HLN.out; simp; omega) (H7.out.alloc (.cells #[.int .i64 (s : Int), .int .i64 (a : Int), .int .i64 (b : Int), .int .i64 (l : Int), .bool t] 79)).pw.size ?_
      intro v5 w5 hO5 hg5
      have HB8 := Lib.hid ((H7.out.alloc (.cells #[.int .i64 (s : Int), .int .i64 (a : Int), .int .i64 (b : Int), .int .i64 (l : Int), .bool t] 79)).appended hg5 hO5 HV0.out)
      have z7 := Blk.cell HB8.out.1 7
      have z8 := Blk.frozen HB8.out.1 7
      have z9 := HB8.out.1.lt
      obtain ⟨av5, ac5, hv5⟩ := hO5.slice
      obtain ⟨n6, hn6⟩ : ∃ N, (ls ++ [(⟨s, a, b, l, t⟩ : E1)]).length = N := ⟨_, rfl⟩
      rw [hn6] at hv5
      subst hv5
      clear hg5 hO5 hn6
      refine hK.out _ _ ?_ (fun hHeld => ?_)
      · (try dsimp only); exact HB8.out.2.2
      clear hK K
      try simp only [Act.put, List.setIfInBounds_toArray, List.set_cons_zero, List.set_cons_succ, List.getElem_toArray, List.getElem_cons_zero, List.getElem_cons_succ]
      refine Till.plain (i := 25) (v := ?_) rfl (by kernel_rfl) (by kernel_rfl) (by kernel_rfl) (fun _ _ _ h => h) (Or.inl ⟨by rfl, ?_⟩) ?_
      rotate_left
      · (intro w hSw; (try dsimp only at hSw); go_simp; try with_reducible rfl)
      try simp only [Act.put, List.setIfInBounds_toArray, List.set_cons_zero, List.set_cons_succ, List.getElem_toArray, List.getElem_cons_zero, List.getElem_cons_succ]
      refine Till.plain (i := 26) (v := ?_) rfl (by kernel_rfl) (by kernel_rfl) (by kernel_rfl) (fun _ _ _ h => h) (Or.inl ⟨by rfl, ?_⟩) ?_
      rotate_left
      · (intro w hSw; (try dsimp only at hSw); go_simp; try with_reducible rfl)
      try simp only [Act.put, List.setIfInBounds_toArray, List.set_cons_zero, List.set_cons_succ, List.getElem_toArray, List.getElem_cons_zero, List.getElem_cons_succ]
      refine Till.ready (rs := [27]) (by kernel_rfl) (by simp) ?_
      refine AllTill.last rfl (by rfl) (fun K hK => ?_) ?_
      rotate_left
      · exact AllTill.nil
      go_simp
      refine hK.out _ _ ?_
      clear hK K
      try simp only [Act.put, List.setIfInBounds_toArray, List.set_cons_zero, List.set_cons_succ, List.getElem_toArray, List.getElem_cons_zero, List.getElem_cons_succ]
      refine Till.done (by kernel_rfl) ?_ _
      clear hrule x0 x1 x2 x3 x4 x5 l0 l1 l2 y0 y1 y2 y3 y4 y5 y6 y7 olt llt qlt
      have H9 := Lib.hid HB8.out.2.1
      clear z7 z8 z9
      go_wp2_with fail
      go_end0
      exact H9.out.fin (HE.out.put (x := ⟨s, a, b, l, t⟩) HR.out HAB.out.1 HAB.out.2 HP.out.2.2.2.1 HP.out.2.2.2.2 HNS.out HNP.out) (by omega) (by simp) (kp5_append _ _ _ _)
  cases e2 : (kd == 2)
  rotate_left
  · as_aux_lemma =>
      go_wp2_with fail
      clear hrule x0 x1 x2 x3 x4 x5 l0 l1 l2 y0 y1 y2 y3 y4 y5 y6 y7 olt llt qlt
      have H5 := Lib.hid H4.out.drew
      clear H4
      obtain ⟨⟨x0, x1, x2, x3, x4, x5⟩, ⟨l0, l1, l2⟩, y0, y1, y2, y3, y4, y5, y6, y7⟩ := SQ.rule _ _ _ _ _ _ _ _ _ _ _ _ _ _ _ H5.out.sq
      obtain ⟨olt, llt, qlt⟩ := H5.out.lt
      have hrule := SQ.rule ob lo q p V S T vl kd (s : Int) (u : Int) (v : Int) (l : Int) t
      go_region_held3 (fun W => SQ W ob lo q p V S T vl kd (s : Int) (u : Int) (v : Int) (l : Int) t) (first | (with_reducible assumption) | (with_reducible exact H6.out.sq) | (with_reducible exact H5.out.sq))
        (first
          | (go_at_call 61; ((with_reducible refine (remove_any H5.out.pw.em HP.out.2.1 HP.out.2.2.1 HP.out.1 (by omega)).mono ?_); rintro e w3 ⟨rfl, A6, O6⟩; have H6 := Lib.hid (H5.out.next A6 O6)))
          | fail)
      clear hrule x0 x1 x2 x3 x4 x5 l0 l1 l2 y0 y1 y2 y3 y4 y5 y6 y7 olt llt qlt
      clear H5 A6 O6
      obtain ⟨⟨x0, x1, x2, x3, x4, x5⟩, ⟨l0, l1, l2⟩, y0, y1, y2, y3, y4, y5, y6, y7⟩ := SQ.rule _ _ _ _ _ _ _ _ _ _ _ _ _ _ _ H6.out.sq
      obtain ⟨olt, llt, qlt⟩ := H6.out.lt
      have hrule := SQ.rule ob lo q p V S T vl kd (s : Int) (u : Int) (v : Int) (l : Int) t
      by_cases gk : 0 ≤ kI
      rotate_left
      · go_wp2_with fail
        clear hrule x0 x1 x2 x3 x4 x5 l0 l1 l2 y0 y1 y2 y3 y4 y5 y6 y7 olt llt qlt
        go_end0
        exact H6.out.fin (HE.out.rem_no HP.out.2.1 HP.out.2.2.1 HP.out.1 (HK.out.neg (by omega))) (by omega) (by omega) (Kp5.refl _ _ _ _)
      obtain ⟨i, x, hkI, hi, ex⟩ := HK.out.pos gk
      have HX : Hid (ls[i]? = some x ∧ x.u = min u v ∧ x.v = max u v) := Lib.hid ⟨hi, ex⟩
      subst hkI
      have iLn : i < ls.length := (List.getElem?_eq_some_iff.1 hi).1
      obtain ⟨g, ac, hv5, _⟩ := H6.out.pw.ow.at hi
      obtain ⟨n, hn⟩ : ∃ n, ls.length = n := ⟨_, rfl⟩
      have HN := Lib.hid hn
      rw [hn] at hv5 iLn
      subst hv5
      have iI : (i : Int) < (n : Int) := by omega
      have nI : (n : Int) ≤ 1000 := by have := HLN.out; omega
      have hcap : n ≤ ac := by
        rcases H6.out.pw.ow.shape with ⟨e, _⟩ | ⟨_, _, _, e, _, _, h1, _⟩
        · cases e
        · injection e with _ _ e3
          rw [← e3] at h1; rw [hn] at h1; exact h1
      have iac : i ≤ ac := by omega
      have wq1 : IntKind.i64.wrap ((i : Int) + 1) = (i : Int) + 1 := IntWalk.i64_in _ (by omega)
      have j0 : (0 : Int) ≤ (i : Int) + 1 := by omega
      have j1 : (i : Int) + 1 ≤ (n : Int) := by omega
      have jt : ((i : Int) + 1).toNat = i + 1 := by omega
      obtain ⟨ad, had⟩ : ∃ ad, (if ac = i + 1 then some (⟨g, 0, none⟩ : Addr) else some ⟨g, (i + 1) * 5, none⟩) = some ad := by split <;> exact ⟨_, rfl⟩
      have HSRC : Hid (∀ W : World, OW W base (.slice (some ⟨g, 0, none⟩) n ac) ls → ∀ (j : Nat) (u : Value), (flat5 (ls.drop (i + 1)))[j]? = some u → W.cell? (ad.add j) = some u) := Lib.hid (by
        intro W hW j u hj
        by_cases hac : ac = i + 1
        · have : ls.drop (i + 1) = [] := List.drop_eq_nil_of_le (by omega)
          rw [this] at hj; cases hj
        · rw [if_neg hac] at had
          injection had with had
          rw [← had]; exact hW.src_drop (i + 1) j u hj)
      clear hi ex hn k0 k1 i0 i1 HI
      go_wp2_with fail
      clear hrule x0 x1 x2 x3 x4 x5 l0 l1 l2 y0 y1 y2 y3 y4 y5 y6 y7 olt llt qlt
      have H7 := Lib.hid H6.out.drew
      obtain ⟨⟨x0, x1, x2, x3, x4, x5⟩, ⟨l0, l1, l2⟩, y0, y1, y2, y3, y4, y5, y6, y7⟩ := SQ.rule _ _ _ _ _ _ _ _ _ _ _ _ _ _ _ H7.out.sq
      obtain ⟨olt, llt, qlt⟩ := H7.out.lt
      have hrule := SQ.rule ob lo q p V S T (.slice (some ⟨g, 0, none⟩) n ac) kd (s : Int) (u : Int) (v : Int) (l : Int) t
      refine wp_till (fun W => SQ W ob lo q p V S T (.slice (some ⟨g, 0, none⟩) n ac) kd (s : Int) (u : Int) (v : Int) (l : Int) t) (fun j => decide (19 ≤ j)) (by kernel_rfl) ?_ (fun hHeld => ?_)
      · exact H7.out.sq
      refine Till.plain (i := 0) (v := ?_) rfl (by kernel_rfl) (by kernel_rfl) (by kernel_rfl) (fun _ _ _ h => h) (Or.inl ⟨by rfl, ?_⟩) ?_
      rotate_left
      · (intro w hSw; (try dsimp only at hSw); go_simp; try with_reducible rfl)
      try simp only [Act.put, List.setIfInBounds_toArray, List.set_cons_zero, List.set_cons_succ, List.getElem_toArray, List.getElem_cons_zero]
      refine Till.plain (i := 2) (v := ?_) rfl (by kernel_rfl) (by kernel_rfl) (by kernel_rfl) (fun _ _ _ h => h) (Or.inl ⟨by rfl, ?_⟩) ?_
      rotate_left
      · (intro w hSw; (try dsimp only at hSw); go_simp; try with_reducible rfl)
      try simp only [Act.put, List.setIfInBounds_toArray, List.set_cons_zero, List.set_cons_succ, List.getElem_toArray, List.getElem_cons_zero, List.getElem_cons_succ]
      refine Till.plain (i := 3) (v := ?_) rfl (by kernel_rfl) (by kernel_rfl) (by kernel_rfl) (fun _ _ _ h => h) (Or.inl ⟨by rfl, ?_⟩) ?_
      rotate_left
      · (intro w hSw; (try dsimp only at hSw); go_simp; try with_reducible rfl)
      try simp only [Act.put, List.setIfInBounds_toArray, List.set_cons_zero, List.set_cons_succ, List.getElem_toArray, List.getElem_cons_zero, List.getElem_cons_succ]
      refine Till.plain (i := 4) (v := ?_) rfl (by kernel_rfl) (by kernel_rfl) (by kernel_rfl) (fun _ _ _ h => h) (Or.inl ⟨by rfl, ?_⟩) ?_
      rotate_left
      · (intro w hSw; (try dsimp only at hSw); go_simp; try with_reducible rfl)
      try simp only [Act.put, List.setIfInBounds_toArray, List.set_cons_zero, List.set_cons_succ, List.getElem_toArray, List.getElem_cons_zero, List.getElem_cons_succ]
      refine Till.load (i := 5) (v := ?_) rfl (by kernel_rfl) (by kernel_rfl) (by kernel_rfl) (by kernel_rfl) (fun _ _ _ h => h) (Or.inl ⟨by rfl, ?_⟩) (by assumption) ?_
      rotate_left
      · (intro w hSw; (try dsimp only at hSw); go_simp; try with_reducible rfl)
      try simp only [Act.put, List.setIfInBounds_toArray, List.set_cons_zero, List.set_cons_succ, List.getElem_toArray, List.getElem_cons_zero, List.getElem_cons_succ]
      refine Till.plain (i := 6) (v := ?_) rfl (by kernel_rfl) (by kernel_rfl) (by kernel_rfl) (fun _ _ _ h => h) (Or.inl ⟨by rfl, ?_⟩) ?_
      rotate_left
      · (intro w hSw; (try dsimp only at hSw); go_simp; try with_reducible rfl)
      try simp only [Act.put, List.setIfInBounds_toArray, List.set_cons_zero, List.set_cons_succ, List.getElem_toArray, List.getElem_cons_zero, List.getElem_cons_succ]
      refine Till.plain (i := 7) (v := ?_) rfl (by kernel_rfl) (by kernel_rfl) (by kernel_rfl) (fun _ _ _ h => h) (Or.inl ⟨by rfl, ?_⟩) ?_
      rotate_left
      · (intro w hSw; (try dsimp only at hSw); go_simp; try with_reducible rfl)
      try simp only [Act.put, List.setIfInBounds_toArray, List.set_cons_zero, List.set_cons_succ, List.getElem_toArray, List.getElem_cons_zero, List.getElem_cons_succ]
      refine Till.plain (i := 9) (v := ?_) rfl (by kernel_rfl) (by kernel_rfl) (by kernel_rfl) (fun _ _ _ h => h) (Or.inl ⟨by rfl, ?_⟩) ?_
      rotate_left
      · (intro w hSw; (try dsimp only at hSw); go_simp; try with_reducible rfl)
      try simp only [Act.put, List.setIfInBounds_toArray, List.set_cons_zero, List.set_cons_succ, List.getElem_toArray, List.getElem_cons_zero, List.getElem_cons_succ]
      refine Till.plain (i := 10) (v := ?_) rfl (by kernel_rfl) (by kernel_rfl) (by kernel_rfl) (fun _ _ _ h => h) (Or.inl ⟨by rfl, ?_⟩) ?_
      rotate_left
      · (intro w hSw; (try dsimp only at hSw); go_simp; try with_reducible rfl)
      try simp only [Act.put, List.setIfInBounds_toArray, List.set_cons_zero, List.set_cons_succ, List.getElem_toArray, List.getElem_cons_zero, List.getElem_cons_succ]
      refine Till.plain (i := 11) (v := ?_) rfl (by kernel_rfl) (by kernel_rfl) (by kernel_rfl) (fun _ _ _ h => h) (Or.inl ⟨by rfl, ?_⟩) ?_
      rotate_left
      · (intro w hSw; (try dsimp only at hSw); go_simp; try with_reducible rfl)
      try simp only [Act.put, List.setIfInBounds_toArray, List.set_cons_zero, List.set_cons_succ, List.getElem_toArray, List.getElem_cons_zero, List.getElem_cons_succ]
      refine Till.load (i := 12) (v := ?_) rfl (by kernel_rfl) (by kernel_rfl) (by kernel_rfl) (by kernel_rfl) (fun _ _ _ h => h) (Or.inl ⟨by rfl, ?_⟩) (by assumption) ?_
      rotate_left
      · (intro w hSw; (try dsimp only at hSw); go_simp; try with_reducible rfl)
      try simp only [Act.put, List.setIfInBounds_toArray, List.set_cons_zero, List.set_cons_succ, List.getElem_toArray, List.getElem_cons_zero, List.getElem_cons_succ]
      refine Till.plain (i := 13) (v := ?_) rfl (by kernel_rfl) (by kernel_rfl) (by kernel_rfl) (fun _ _ _ h => h) (Or.inl ⟨by rfl, ?_⟩) ?_
      rotate_left
      · (intro w hSw; (try dsimp only at hSw); go_simp; try with_reducible rfl)
      try simp only [Act.put, List.setIfInBounds_toArray, List.set_cons_zero, List.set_cons_succ, List.getElem_toArray, List.getElem_cons_zero, List.getElem_cons_succ]
      refine Till.plain (i := 14) (v := ?_) rfl (by kernel_rfl) (by kernel_rfl) (by kernel_rfl) (fun _ _ _ h => h) (Or.inl ⟨by rfl, ?_⟩) ?_
      rotate_left
      · (intro w hSw; (try dsimp only at hSw); go_simp; try with_reducible rfl)
      try simp only [Act.put, List.setIfInBounds_toArray, List.set_cons_zero, List.set_cons_succ, List.getElem_toArray, List.getElem_cons_zero, List.getElem_cons_succ]
      refine Till.plain (i := 15) (v := ?_) rfl (by kernel_rfl) (by kernel_rfl) (by kernel_rfl) (fun _ _ _ h => h) (Or.inl ⟨by rfl, ?_⟩) ?_
      rotate_left
      · (intro w hSw; (try dsimp only at hSw); go_simp; try with_reducible rfl)
      try simp only [Act.put, List.setIfInBounds_toArray, List.set_cons_zero, List.set_cons_succ, List.getElem_toArray, List.getElem_cons_zero, List.getElem_cons_succ]
      refine Till.ready (rs := [1]) (by kernel_rfl) (by simp) ?_
      refine AllTill.cons rfl (fun K hK => ?_) ?_
      rotate_left
      · exact AllTill.nil
      go_simp
      refine hK.out _ _ ?_ (fun hHeld => ?_)
      · (try dsimp only); exact (H6.out.alloc _).drew.sq
      clear hK K
      try simp only [Act.put, List.setIfInBounds_toArray, List.set_cons_zero, List.set_cons_succ, List.getElem_toArray, List.getElem_cons_zero, List.getElem_cons_succ]
      refine Till.ready (rs := [8]) (by kernel_rfl) (by simp) ?_
      refine AllTill.cons rfl (fun K hK => ?_) ?_
      rotate_left
      · exact AllTill.nil
      refine step_append_ow (l2 := ls.take i) (by rfl) _ _ (by rfl) rfl (OW.empty w3).drew ⟨g, 0, none⟩ i ac (by rw [List.length_take]; have := HN.out; omega) rfl ((H6.out.alloc (.cells #[] 79)).drew.pw.ow.src_take i) (by simp; have := HLN.out; omega) (by simp) ?_
      intro v8 w8 hO8 hg8
      have HB8 := Lib.hid (((Below.refl _ _).alloc (Nat.le_refl _) (.cells #[] 79)).drew.grown hg8 (by simp) (fun r hr => ((OW.empty w3).drew.lt r hr).1))
      have H8 := Lib.hid (H6.out.below HB8.out)
      rw [List.nil_append] at hO8
      have HO8 := Lib.hid hO8
      obtain ⟨av8, ac8, hv8⟩ := hO8.slice
      obtain ⟨n8, hn8⟩ : ∃ N, (ls.take i).length = N := ⟨_, rfl⟩
      rw [hn8] at hv8
      subst hv8
      clear hg8 hO8 hn8
      refine hK.out _ _ ?_ (fun hHeld => ?_)
      · (try dsimp only); exact H8.out.sq
      clear hK K
      try simp only [Act.put, List.setIfInBounds_toArray, List.set_cons_zero, List.set_cons_succ, List.getElem_toArray, List.getElem_cons_zero, List.getElem_cons_succ]
      refine Till.ready (rs := [16]) (by kernel_rfl) (by simp) ?_
      refine AllTill.cons rfl (fun K hK => ?_) ?_
      rotate_left
      · exact AllTill.nil
      refine step_append_ow (l2 := ls.drop (i + 1)) (by rfl) _ _ (by rfl) rfl HO8.out ad (n - (i + 1)) (ac - (i + 1)) (by rw [List.length_drop]; have := HN.out; omega) rfl (HSRC.out _ H8.out.pw.ow) (by simp; have := HLN.out; omega) HB8.out.size ?_
      intro v9 w9 hO9 hg9
      have HB9 := Lib.hid (HB8.out.grown hg9 HB8.out.size (fun r hr => (HO8.out.lt r hr).1))
      have H9 := Lib.hid (H6.out.below HB9.out)
      rw [take_drop_erase] at hO9
      have HO9 := Lib.hid (hO9.less H6.out.pw.size)
      obtain ⟨av9, ac9, hv9⟩ := hO9.slice
      obtain ⟨n9, hn9⟩ : ∃ N, (ls.eraseIdx i).length = N := ⟨_, rfl⟩
      rw [hn9] at hv9
      subst hv9
      have z7 := Blk.cell H9.out.pw.pq 7
      have z8 := Blk.frozen H9.out.pw.pq 7
      have z9 := H9.out.pw.pq.lt
      clear hg9 hO9 hn9
      refine hK.out _ _ ?_ (fun hHeld => ?_)
      · (try dsimp only); exact H9.out.sq
      clear hK K
      try simp only [Act.put, List.setIfInBounds_toArray, List.set_cons_zero, List.set_cons_succ, List.getElem_toArray, List.getElem_cons_zero, List.getElem_cons_succ]
      refine Till.plain (i := 17) (v := ?_) rfl (by kernel_rfl) (by kernel_rfl) (by kernel_rfl) (fun _ _ _ h => h) (Or.inl ⟨by rfl, ?_⟩) ?_
      rotate_left
      · (intro w hSw; (try dsimp only at hSw); go_simp; try with_reducible rfl)
      try simp only [Act.put, List.setIfInBounds_toArray, List.set_cons_zero, List.set_cons_succ, List.getElem_toArray, List.getElem_cons_zero, List.getElem_cons_succ]
      refine Till.plain (i := 18) (v := ?_) rfl (by kernel_rfl) (by kernel_rfl) (by kernel_rfl) (fun _ _ _ h => h) (Or.inl ⟨by rfl, ?_⟩) ?_
      rotate_left
      · (intro w hSw; (try dsimp only at hSw); go_simp; try with_reducible rfl)
      try simp only [Act.put, List.setIfInBounds_toArray, List.set_cons_zero, List.set_cons_succ, List.getElem_toArray, List.getElem_cons_zero, List.getElem_cons_succ]
      refine Till.ready (rs := [19]) (by kernel_rfl) (by simp) ?_
      refine AllTill.last rfl (by rfl) (fun K hK => ?_) ?_
      rotate_left
      · exact AllTill.nil
      go_simp
      refine hK.out _ _ ?_
      clear hK K
      try simp only [Act.put, List.setIfInBounds_toArray, List.set_cons_zero, List.set_cons_succ, List.getElem_toArray, List.getElem_cons_zero, List.getElem_cons_succ]
      refine Till.done (by kernel_rfl) ?_ _
      clear hrule x0 x1 x2 x3 x4 x5 l0 l1 l2 y0 y1 y2 y3 y4 y5 y6 y7 olt llt qlt
      have H10 := Lib.hid (H9.out.list HO9.out)
      clear z7 z8 z9
      go_wp2_with fail
      go_end0
      exact H10.out.fin (HE.out.rem HR.out HX.out.1 HX.out.2) (by omega) (by rw [List.length_eraseIdx]; split <;> omega) (kp5_erase HX.out.1 HX.out.2 _)
  cases e3 : (kd == 3)
  rotate_left
  · as_aux_lemma =>
      by_cases gi : 0 ≤ iI
      rotate_left
      · go_wp2_with fail
        clear hrule x0 x1 x2 x3 x4 x5 l0 l1 l2 y0 y1 y2 y3 y4 y5 y6 y7 olt llt qlt
        go_end0
        exact H4.out.fin HE.out (by omega) (by omega) (Kp5.refl _ _ _ _)
      obtain ⟨i, x, hiI, hi, ex⟩ := HI.out.pos gi
      have HX : Hid (ls[i]? = some x ∧ x.s = s) := Lib.hid ⟨hi, ex⟩
      subst hiI
      have iLn : i < ls.length := (List.getElem?_eq_some_iff.1 hi).1
      have HAt : Hid (At V S T f s x.u x.v x.l x.t) := Lib.hid (by rw [← ex]; exact HE.out.at (List.mem_of_getElem? hi))
      obtain ⟨g, ac, hv5, _⟩ := H4.out.pw.ow.at hi
      obtain ⟨n, hn⟩ : ∃ n, ls.length = n := ⟨_, rfl⟩
      have HN := Lib.hid hn
      rw [hn] at hv5 iLn
      subst hv5
      have iI : (i : Int) < (n : Int) := by omega
      have nI : (n : Int) ≤ 1000 := by have := HLN.out; omega
      clear hi ex hn k0 k1 i0 i1 HI HK
      go_wp2_with fail
      clear hrule x0 x1 x2 x3 x4 x5 l0 l1 l2 y0 y1 y2 y3 y4 y5 y6 y7 olt llt qlt
      have H5 := Lib.hid H4.out.drew
      clear H4
      obtain ⟨⟨x0, x1, x2, x3, x4, x5⟩, ⟨l0, l1, l2⟩, y0, y1, y2, y3, y4, y5, y6, y7⟩ := SQ.rule _ _ _ _ _ _ _ _ _ _ _ _ _ _ _ H5.out.sq
      obtain ⟨olt, llt, qlt⟩ := H5.out.lt
      have hrule := SQ.rule ob lo q p V S T (.slice (some ⟨g, 0, none⟩) n ac) kd (s : Int) (u : Int) (v : Int) (l : Int) t
      go_region_held3 (fun W => SQ W ob lo q p V S T (.slice (some ⟨g, 0, none⟩) n ac) kd (s : Int) (u : Int) (v : Int) (l : Int) t) (first | (with_reducible assumption) | (with_reducible exact H6.out.sq) | (with_reducible exact H5.out.sq))
        (first
          | (go_at_call 30; ((with_reducible refine (turn_yes11 (t2 := t) H5.out.pw.em HAt.out (by omega)).mono ?_); rintro e w3 ⟨rfl, A6, O6⟩; have H6 := Lib.hid (H5.out.next A6 O6)))
          | fail)
      clear hrule x0 x1 x2 x3 x4 x5 l0 l1 l2 y0 y1 y2 y3 y4 y5 y6 y7 olt llt qlt
      clear H5 A6 O6
      obtain ⟨⟨x0, x1, x2, x3, x4, x5⟩, ⟨l0, l1, l2⟩, y0, y1, y2, y3, y4, y5, y6, y7⟩ := SQ.rule _ _ _ _ _ _ _ _ _ _ _ _ _ _ _ H6.out.sq
      obtain ⟨olt, llt, qlt⟩ := H6.out.lt
      have hrule := SQ.rule ob lo q p V S T (.slice (some ⟨g, 0, none⟩) n ac) kd (s : Int) (u : Int) (v : Int) (l : Int) t
      go_wp2_with fail
      clear hrule x0 x1 x2 x3 x4 x5 l0 l1 l2 y0 y1 y2 y3 y4 y5 y6 y7 olt llt qlt
      have H7 := Lib.hid H6.out.drew
      have H8 : Hid (SX w ((w3.setCell ⟨g, i * 5 + 1 + 3, none⟩ (.bool t)).drew) base q ob lo V S T p gb cap (m + 4) (upd f (eC V S T x.u x.v) (eV s t)) (.slice (some ⟨g, 0, none⟩) n ac) (ls.set i { x with t := t }) kd (s : Int) (u : Int) (v : Int) (l : Int) t) := Lib.hid (by
        have h := H6.out
        rw [← HN.out] at h ⊢
        exact (h.turned (j := 4) (y := { x with t := t }) (uv := .bool t) HX.out.1 (by decide) rfl (by have h0 := HV0.out; rw [← HN.out] at h0; exact h0)).drew)
      obtain ⟨_, _, hown⟩ := H7.out.pw.ow.own g rfl
      have z1 := hown.frozen (i * 5 + 4)
      have glt := hown.lt
      have zz : ∃ b, w3.drew.cell? ⟨g, i * 5 + 4, none⟩ = some b := by
        obtain ⟨_, _, e, _, _, _, a0, a1, a2, a3, a4⟩ := H7.out.pw.ow.at HX.out.1
        injection e with e1 _ _
        injection e1 with e1
        injection e1 with e1
        subst e1
        exact ⟨_, a4⟩
      obtain ⟨ov, z2⟩ := zz
      clear hown H6
      obtain ⟨⟨x0, x1, x2, x3, x4, x5⟩, ⟨l0, l1, l2⟩, y0, y1, y2, y3, y4, y5, y6, y7⟩ := SQ.rule _ _ _ _ _ _ _ _ _ _ _ _ _ _ _ H7.out.sq
      obtain ⟨olt, llt, qlt⟩ := H7.out.lt
      have hrule := SQ.rule ob lo q p V S T (.slice (some ⟨g, 0, none⟩) n ac) kd (s : Int) (u : Int) (v : Int) (l : Int) t
      go_region_held3 (fun W => SQ W ob lo q p V S T (.slice (some ⟨g, 0, none⟩) n ac) kd (s : Int) (u : Int) (v : Int) (l : Int) t) (first | (with_reducible assumption) | (with_reducible exact H8.out.sq) | (with_reducible exact H7.out.sq)) (fail)
      clear hrule x0 x1 x2 x3 x4 x5 l0 l1 l2 y0 y1 y2 y3 y4 y5 y6 y7 olt llt qlt z1 z2 glt
      clear H7
      go_wp2_with fail
      go_end0
      exact H8.out.fin ((HE.out.turn HR.out HX.out.1 t).cong fun k => by rw [HX.out.2]) (by omega) (by simp) (kp5_set HX.out.1 HX.out.2 _ _)
  cases e4 : (kd == 4)
  rotate_left
  · as_aux_lemma =>
      by_cases gi : 0 ≤ iI
      rotate_left
      · go_wp2_with fail
        clear hrule x0 x1 x2 x3 x4 x5 l0 l1 l2 y0 y1 y2 y3 y4 y5 y6 y7 olt llt qlt
        go_end0
        exact H4.out.fin HE.out (by omega) (by omega) (Kp5.refl _ _ _ _)
      obtain ⟨i, x, hiI, hi, ex⟩ := HI.out.pos gi
      have HX : Hid (ls[i]? = some x ∧ x.s = s) := Lib.hid ⟨hi, ex⟩
      subst hiI
      have iLn : i < ls.length := (List.getElem?_eq_some_iff.1 hi).1
      have HAt : Hid (At V S T f s x.u x.v x.l x.t) := Lib.hid (by rw [← ex]; exact HE.out.at (List.mem_of_getElem? hi))
      obtain ⟨g, ac, hv5, _⟩ := H4.out.pw.ow.at hi
      obtain ⟨n, hn⟩ : ∃ n, ls.length = n := ⟨_, rfl⟩
      have HN := Lib.hid hn
      rw [hn] at hv5 iLn
      subst hv5
      have iI : (i : Int) < (n : Int) := by omega
      have nI : (n : Int) ≤ 1000 := by have := HLN.out; omega
      clear hi ex hn k0 k1 i0 i1 HI HK
      go_wp2_with fail
      clear hrule x0 x1 x2 x3 x4 x5 l0 l1 l2 y0 y1 y2 y3 y4 y5 y6 y7 olt llt qlt
      have H5 := Lib.hid H4.out.drew
      clear H4
      obtain ⟨⟨x0, x1, x2, x3, x4, x5⟩, ⟨l0, l1, l2⟩, y0, y1, y2, y3, y4, y5, y6, y7⟩ := SQ.rule _ _ _ _ _ _ _ _ _ _ _ _ _ _ _ H5.out.sq
      obtain ⟨olt, llt, qlt⟩ := H5.out.lt
      have hrule := SQ.rule ob lo q p V S T (.slice (some ⟨g, 0, none⟩) n ac) kd (s : Int) (u : Int) (v : Int) (l : Int) t
      go_region_held3 (fun W => SQ W ob lo q p V S T (.slice (some ⟨g, 0, none⟩) n ac) kd (s : Int) (u : Int) (v : Int) (l : Int) t) (first | (with_reducible assumption) | (with_reducible exact H6.out.sq) | (with_reducible exact H5.out.sq))
        (first
          | (go_at_call 31; ((with_reducible refine (lift_yes11 H5.out.pw.em HAt.out HP.out.2.2.2.2 (by omega)).mono ?_); rintro e w3 ⟨rfl, A6, O6⟩; have H6 := Lib.hid (H5.out.next A6 O6)))
          | fail)
      clear hrule x0 x1 x2 x3 x4 x5 l0 l1 l2 y0 y1 y2 y3 y4 y5 y6 y7 olt llt qlt
      clear H5 A6 O6
      obtain ⟨⟨x0, x1, x2, x3, x4, x5⟩, ⟨l0, l1, l2⟩, y0, y1, y2, y3, y4, y5, y6, y7⟩ := SQ.rule _ _ _ _ _ _ _ _ _ _ _ _ _ _ _ H6.out.sq
      obtain ⟨olt, llt, qlt⟩ := H6.out.lt
      have hrule := SQ.rule ob lo q p V S T (.slice (some ⟨g, 0, none⟩) n ac) kd (s : Int) (u : Int) (v : Int) (l : Int) t
      go_wp2_with fail
      clear hrule x0 x1 x2 x3 x4 x5 l0 l1 l2 y0 y1 y2 y3 y4 y5 y6 y7 olt llt qlt
      have H7 := Lib.hid H6.out.drew
      have H8 : Hid (SX w ((w3.setCell ⟨g, i * 5 + 1 + 2, none⟩ (.int .i64 (l : Int))).drew) base q ob lo V S T p gb cap (m + 4) (upd f (sC S T s 2) (l : Int)) (.slice (some ⟨g, 0, none⟩) n ac) (ls.set i { x with l := l }) kd (s : Int) (u : Int) (v : Int) (l : Int) t) := Lib.hid (by
        have h := H6.out
        rw [← HN.out] at h ⊢
        exact (h.turned (j := 3) (y := { x with l := l }) (uv := .int .i64 (l : Int)) HX.out.1 (by decide) rfl (by have h0 := HV0.out; rw [← HN.out] at h0; exact h0)).drew)
      obtain ⟨_, _, hown⟩ := H7.out.pw.ow.own g rfl
      have z1 := hown.frozen (i * 5 + 3)
      have glt := hown.lt
      have zz : ∃ b, w3.drew.cell? ⟨g, i * 5 + 3, none⟩ = some b := by
        obtain ⟨_, _, e, _, _, _, a0, a1, a2, a3, a4⟩ := H7.out.pw.ow.at HX.out.1
        injection e with e1 _ _
        injection e1 with e1
        injection e1 with e1
        subst e1
        exact ⟨_, a3⟩
      obtain ⟨ov, z2⟩ := zz
      clear hown H6
      obtain ⟨⟨x0, x1, x2, x3, x4, x5⟩, ⟨l0, l1, l2⟩, y0, y1, y2, y3, y4, y5, y6, y7⟩ := SQ.rule _ _ _ _ _ _ _ _ _ _ _ _ _ _ _ H7.out.sq
      obtain ⟨olt, llt, qlt⟩ := H7.out.lt
      have hrule := SQ.rule ob lo q p V S T (.slice (some ⟨g, 0, none⟩) n ac) kd (s : Int) (u : Int) (v : Int) (l : Int) t
      go_region_held3 (fun W => SQ W ob lo q p V S T (.slice (some ⟨g, 0, none⟩) n ac) kd (s : Int) (u : Int) (v : Int) (l : Int) t) (first | (with_reducible assumption) | (with_reducible exact H8.out.sq) | (with_reducible exact H7.out.sq)) (fail)
      clear hrule x0 x1 x2 x3 x4 x5 l0 l1 l2 y0 y1 y2 y3 y4 y5 y6 y7 olt llt qlt z1 z2 glt
      clear H7
      go_wp2_with fail
      go_end0
      exact H8.out.fin ((HE.out.lift HR.out HX.out.1 HP.out.2.2.2.2).cong fun k => by rw [HX.out.2]) (by omega) (by simp) (kp5_set HX.out.1 HX.out.2 _ _)
  go_wp2_with fail
  clear hrule x0 x1 x2 x3 x4 x5 l0 l1 l2 y0 y1 y2 y3 y4 y5 y6 y7 olt llt qlt
  go_end0
  exact H4.out.fin HE.out (by omega) (by omega) (Kp5.refl _ _ _ _)
end
end Go.Proofs.Ytahabfjngeicmaa
