/- Put, of. -/
import Derived.Test.YtaooglagddphnaaEdC
namespace Go.Proofs.Ytaooglagddphnaa
open Go.RowKit

set_option maxRecDepth 100000

section
variable {w w' w0 : World} {V S T : Int} {p gb cap m m' u v s l b r : Nat} {f f' : Nat → Int} {t : Bool}
theorem nV_bd {a b : Nat} (ha : a < 16) (hb : b < 16) : 0 ≤ nV a b ∧ nV a b ≤ 65535 := by unfold nV; omega
set_option maxHeartbeats 2000000 in
theorem put_any (h : EM w V S T p gb cap m f) (hu : (u : Int) < V) (hv : (v : Int) < V) (hne : u ≠ v) (hs : (s : Int) < S) (hl : (l : Int) < lv V) (hm : m ≤ 99900000) :
    Calls Try.prog 38 #[vE V S T p, .int .i64 (s : Int), .int .i64 (u : Int), .int .i64 (v : Int), .int .i64 (l : Int), .bool t] w fun e w' => e = .returned (.tuple #[]) ∧ EM w' V S T p gb cap (m + 3) (putF V S T f ⟨s, min u v, max u v, l, t⟩) ∧ Only p gb w w' := by
  have ms := methp_store
  have mn := nilp_store
  have H := Lib.hid (EX.new h)
  have HR := Lib.hid h.hR
  have HK := Lib.hid (eC_int h.hR hu hv hne)
  have HP : Hid ((u : Int) < V ∧ (v : Int) < V ∧ u ≠ v ∧ (s : Int) < S ∧ (l : Int) < lv V) := Lib.hid ⟨hu, hv, hne, hs, hl⟩
  have H1 : Hid (slotF S T (s : Int) 1 = ((sC S T s 1 : Nat) : Int)) := Lib.hid (sC_int h.hR hs (k := 1) (by decide))
  have H2 : Hid (slotF S T (s : Int) 2 = ((sC S T s 2 : Nat) : Int)) := Lib.hid (sC_int h.hR hs (k := 2) (by decide))
  have HL1 := Lib.hid (sC_lt h.hR hs (k := 1) (by decide))
  have HL2 := Lib.hid (sC_lt h.hR hs (k := 2) (by decide))
  have u16 : u < 16 := by have := h.hR.v2; omega
  have v16 : v < 16 := by have := h.hR.v2; omega
  have l5 : (l : Int) < 5 := by have := (lv_bd V).2; omega
  have l0 : (0 : Int) ≤ (l : Int) := Int.natCast_nonneg _
  have s0 : (0 : Int) ≤ (s : Int) := Int.natCast_nonneg _
  obtain ⟨a, ha⟩ : ∃ a, min u v = a := ⟨_, rfl⟩
  obtain ⟨b9, hb9⟩ : ∃ a, max u v = a := ⟨_, rfl⟩
  have mI : (if v < u then (v : Int) else (u : Int)) = (a : Int) := by split <;> omega
  have xI : (if u < v then (v : Int) else (u : Int)) = (b9 : Int) := by split <;> omega
  have a16 : (a : Int) < 16 := by omega
  have b16 : (b9 : Int) < 16 := by omega
  have hor := or_256 (a := a) (b := b9) (by omega) (by omega)
  obtain ⟨N, hN⟩ : ∃ N, nV a b9 = N := ⟨_, rfl⟩
  have HN := Lib.hid hN
  rw [hN] at hor
  have hn0 : 0 ≤ N ∧ N ≤ 65535 := by rw [← hN]; exact nV_bd (by omega) (by omega)
  obtain ⟨n0, n1⟩ := hn0
  have a0 : (0 : Int) ≤ (a : Int) := Int.natCast_nonneg _
  have wq1 : IntKind.i64.wrap ((a : Int) * 256) = (a : Int) * 256 := IntWalk.i64_in _ (by omega)
  have wq3 : IntKind.u64.wrap (l : Int) = (l : Int) := IntWalk.u64_in _ (by omega)
  have wq2 : IntKind.u64.wrap N = N := IntWalk.u64_in _ (by omega)
  have HAB : Hid (eC V S T a b9 = eC V S T u v) := Lib.hid (by rw [← ha, ← hb9]; exact eC_minmax u v)
  rw [ha, hb9]
  clear h hN hu hv hne hs hl ha hb9
  have hk0 : (0 : Int) ≤ ((eC V S T u v : Nat) : Int) := Int.natCast_nonneg _
  go_enter Try.func38, Try.ntmps38
  go_wp2_with fail
  generalize w.alloc (.cells #[.int .i64 V, .int .i64 S, .int .i64 T, .iface 84 (pmV p)] 36) = w1 at H ⊢
  generalize w.heap.size = b at H ⊢
  refine (edge_yes V S T (u : Int) (v : Int) HR.out _).mono ?_; rintro e w2 ⟨rfl, hb2⟩; rw [HK.out]
  have H3 := Lib.hid (H.out.below hb2)
  clear H hb2
  obtain ⟨c0, c1, c2, c3⟩ := H3.out.e.cells
  have blt := H3.out.e.lt
  go_wp2_with fail
  refine (hasSlot_yes HR.out s0 HP.out.2.2.2.1 _).mono ?_; rintro e w4 ⟨rfl, hb4⟩
  have H4 := Lib.hid (H3.out.below hb4)
  clear H3 hb4 c0 c1 c2 c3 blt
  obtain ⟨c0, c1, c2, c3⟩ := H4.out.e.cells
  have blt := H4.out.e.lt
  go_wp2_with fail
  refine (hasLevel_yes HR.out l0 HP.out.2.2.2.2 _).mono ?_; rintro e w5 ⟨rfl, hb5⟩
  have H5 := Lib.hid (H4.out.below hb5)
  clear H4 hb5 c0 c1 c2 c3 blt
  obtain ⟨c0, c1, c2, c3⟩ := H5.out.e.cells
  have blt := H5.out.e.lt
  go_wp2_with fail
  have HD := Lib.hid H5.out.drew
  have hrule := EdB.rule b V S T p
  go_region_held3 (fun W => EdB W b V S T p) (first | (with_reducible assumption) | (with_reducible exact H7.out.e) | (with_reducible exact H6.out.e) | (with_reducible exact HD.out.e))
    (first
      | (go_at_call 86; ((with_reducible refine (ends_yes V S T (s : Int) HR.out _).mono ?_); rintro e w2 ⟨rfl, hb2⟩; rw [H1.out]; have H6 := Lib.hid (HD.out.below hb2)))
      | ((with_reducible refine (em_store (x := N) H6.out.m HL1.out n0 (by omega) (by omega) rfl).mono ?_); rintro e w3 ⟨rfl, A3, O3⟩; have H7 := Lib.hid (H6.out.next A3 O3))
      | fail)
  all_goals
    clear c0 c1 c2 c3 blt hrule A3 O3 HD H5 H6 hb2
    obtain ⟨c0, c1, c2, c3⟩ := H7.out.e.cells
    have blt := H7.out.e.lt
    go_wp2_with fail
    have HD := Lib.hid H7.out.drew
    have hrule := EdB.rule b V S T p
    go_region_held3 (fun W => EdB W b V S T p) (first | (with_reducible assumption) | (with_reducible exact H9.out.e) | (with_reducible exact H8.out.e) | (with_reducible exact HD.out.e))
      (first
        | (go_at_call 87; ((with_reducible refine (level_yes V S T (s : Int) HR.out _).mono ?_); rintro e w2 ⟨rfl, hb2⟩; rw [H2.out]; have H8 := Lib.hid (HD.out.below hb2)))
        | ((with_reducible refine (em_store (x := (l : Int)) H8.out.m HL2.out l0 (by omega) (by omega) rfl).mono ?_); rintro e w3 ⟨rfl, A3, O3⟩; have H9 := Lib.hid (H8.out.next A3 O3))
        | fail)
    clear c0 c1 c2 c3 blt hrule A3 O3 HD H7 H8 hb2
    obtain ⟨c0, c1, c2, c3⟩ := H9.out.e.cells
    have blt := H9.out.e.lt
    go_wp2_with fail
    refine (set_any H9.out.m HP.out.1 HP.out.2.1 HP.out.2.2.1 HP.out.2.2.2.1 (by omega)).mono ?_; rintro e w7 ⟨rfl, A7, O7⟩
    have H10 := Lib.hid (H9.out.next A7 O7)
    clear A7 O7 c0 c1 c2 c3 blt H9
    go_wp2_with fail
    go_end0
    exact ⟨rfl, by unfold putF; dsimp only; rw [HAB.out, HN.out]; exact H10.out.m, H10.out.o⟩
/-- In a call that tells an edge: its result's block, too. -/
structure EO (w0 W : World) (b r : Nat) (V S T : Int) (p gb cap m : Nat) (f : Nat → Int) : Prop where
  ex : EX w0 W b V S T p gb cap m f
  rb : ∃ x0 x1 x2 x3, Blk W r 55 #[x0, x1, x2, x3]
  hn : w0.heap.size ≤ r
theorem EO.below (h : EO w0 w b r V S T p gb cap m f) (hb : Below w.heap.size w w') : EO w0 w' b r V S T p gb cap m f := by
  obtain ⟨h1, ⟨x0, x1, x2, x3, h2⟩, h3⟩ := h
  exact ⟨h1.below hb, ⟨x0, x1, x2, x3, h2.below hb h2.lt⟩, h3⟩
theorem EO.drew (h : EO w0 w b r V S T p gb cap m f) : EO w0 w.drew b r V S T p gb cap m f := h.below (Below.refl _ _).drew
theorem EO.next (h : EO w0 w b r V S T p gb cap m f) (hm : EM w' V S T p gb cap m' f') (ho : Only p gb w w') : EO w0 w' b r V S T p gb cap m' f' := by
  obtain ⟨h1, ⟨x0, x1, x2, x3, h2⟩, h3⟩ := h
  exact ⟨h1.next hm ho, ⟨x0, x1, x2, x3, h2.em h1.m ho (by decide) (by decide)⟩, h3⟩
theorem EO.new (h : EM w V S T p gb cap m f) : EO w ((w.alloc (.cells #[.int .i64 V, .int .i64 S, .int .i64 T, .iface 84 (pmV p)] 36)).alloc (.cells #[.int .i64 0, .int .i64 0, .int .i64 0, .bool false] 55)) w.heap.size (w.heap.size + 1) V S T p gb cap m f := by
  refine ⟨(EX.new h).below ((Below.refl _ _).alloc (Nat.le_refl _) _), ⟨.int .i64 0, .int .i64 0, .int .i64 0, .bool false, ?_⟩, by omega⟩
  exact new_next w _ _ _ _
theorem EO.set (h : EO w0 w b r V S T p gb cap m f) (i : Nat) (u : Value) : EO w0 (w.setCell ⟨r, i, none⟩ u) b r V S T p gb cap m f := by
  obtain ⟨⟨h1, h1m, h1o⟩, ⟨x0, x1, x2, x3, h2⟩, h3⟩ := h
  refine ⟨⟨?_, h1m.far h2 (by decide) (by decide) u, h1o.set_new h3 u⟩, ?_, h3⟩
  · exact Blk.far h1 (Blk.ne_ h1 h2 (by decide)) u
  · have h4 := h2.set_ i u
    rcases i with _ | _ | _ | _ | i
    · exact ⟨_, _, _, _, h4⟩
    · exact ⟨_, _, _, _, h4⟩
    · exact ⟨_, _, _, _, h4⟩
    · exact ⟨_, _, _, _, h4⟩
    · refine ⟨x0, x1, x2, x3, ?_⟩
      rwa [Array.setIfInBounds_eq_of_size_le (by simp)] at h4
/-- What its regions read. -/
def SO (W : World) (b r : Nat) (V S T : Int) (p : Nat) : Prop := EdB W b V S T p ∧ ∃ x0 x1 x2 x3, Blk W r 55 #[x0, x1, x2, x3]
theorem EO.so (h : EO w0 w b r V S T p gb cap m f) : SO w b r V S T p := ⟨h.ex.e, h.rb⟩
theorem SO.set (h : SO w b r V S T p) (y0 y1 y2 y3 : Value) : SO ((((w.setCell ⟨r, 0, none⟩ y0).setCell ⟨r, 1, none⟩ y1).setCell ⟨r, 2, none⟩ y2).setCell ⟨r, 3, none⟩ y3) b r V S T p := by
  obtain ⟨h1, x0, x1, x2, x3, h2⟩ := h
  have hn := Blk.ne_ h1 h2 (by decide)
  exact ⟨Blk.far (Blk.far (Blk.far (Blk.far h1 hn _) hn _) hn _) hn _, _, _, _, _, h2.four y0 y1 y2 y3⟩
theorem SO.drew (h : SO w b r V S T p) : SO w.drew b r V S T p := h
theorem SO.rule (b r : Nat) (V S T : Int) (p : Nat) : ∀ W : World, SO W b r V S T p → (W.cell? ⟨b, 0, none⟩ = some (.int .i64 V) ∧ W.cell? ⟨b, 1, none⟩ = some (.int .i64 S) ∧ W.cell? ⟨b, 2, none⟩ = some (.int .i64 T) ∧ W.cell? ⟨b, 3, none⟩ = some (.iface 84 (pmV p))) ∧
    (W.cell? ⟨r, 0, none⟩ = some (zAt W r 0) ∧ W.cell? ⟨r, 1, none⟩ = some (zAt W r 1) ∧ W.cell? ⟨r, 2, none⟩ = some (zAt W r 2) ∧ W.cell? ⟨r, 3, none⟩ = some (zAt W r 3)) ∧
    (W.frozen? ⟨r, 0, none⟩ = false ∧ W.frozen? ⟨r, 1, none⟩ = false ∧ W.frozen? ⟨r, 2, none⟩ = false ∧ W.frozen? ⟨r, 3, none⟩ = false) := by
  rintro W ⟨h1, x0, x1, x2, x3, h2⟩
  have z : ∀ i v, #[x0, x1, x2, x3][i]? = some v → W.cell? ⟨r, i, none⟩ = some (zAt W r i) := fun i v hv => by
    have := (h2.cell i).trans hv
    unfold zAt; rw [this]; rfl
  exact ⟨h1.cells, ⟨z 0 x0 rfl, z 1 x1 rfl, z 2 x2 rfl, z 3 x3 rfl⟩, h2.frozen 0, h2.frozen 1, h2.frozen 2, h2.frozen 3⟩
end
end Go.Proofs.Ytaooglagddphnaa
