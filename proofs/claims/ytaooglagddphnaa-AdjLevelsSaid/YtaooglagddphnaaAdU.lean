/- The law's right and begun. Printed by wip/tools/adu.py. -/
import Derived.Test.YtaooglagddphnaaAdE
import Derived.Deep.DeepCutAuto
namespace Go.Proofs.Ytaooglagddphnaa
open Go.RowKit

set_option maxRecDepth 100000

section
variable {w : World} {V S T : Int}
def rgt12 (V S T : Int) : Bool := rtB V S T && decide (V ≤ 8)
theorem rgt12_yes (h : rgt12 V S T = true) : Rt V S T ∧ V ≤ 8 := by
  unfold rgt12 at h
  simp only [Bool.and_eq_true, decide_eq_true_eq] at h
  exact ⟨rtB_yes h.1, h.2⟩
theorem right_any12 (V S T : Int) (w : World) :
    Calls Try.prog 10 #[vL V S T] w fun e w' => e = .returned (.bool (rgt12 V S T)) ∧ Below w.heap.size w w' := by
  have HB : Hid (Below w.heap.size w (w.alloc (.cells #[.int .i64 V, .int .i64 S, .int .i64 T] 23))) := Lib.hid ((Below.refl _ _).alloc (Nat.le_refl _) _)
  have HL : Hid (Blk (w.alloc (.cells #[.int .i64 V, .int .i64 S, .int .i64 T] 23)) w.heap.size 23 #[.int .i64 V, .int .i64 S, .int .i64 T]) := Lib.hid (Blk.new _ _ _)
  go_enter Try.func10, Try.ntmps10
  go_wp2_with fail
  generalize w.heap.size = lb at HL ⊢
  generalize w.alloc (.cells #[.int .i64 V, .int .i64 S, .int .i64 T] 23) = W1 at HL HB ⊢
  refine (rright_any V S T _).mono ?_; rintro e w2 ⟨rfl, hb2⟩
  have HB2 := Lib.hid (HB.out.trans (hb2.mono HB.out.size))
  have l0 : w2.cell? ⟨lb, 0, none⟩ = some (.int .i64 V) := (HL.out.below hb2 HL.out.lt).cell 0
  have llt := (HL.out.below hb2 HL.out.lt).lt
  clear HL HB hb2
  cases h1 : rtB V S T
  · go_wp2_with fail
    go_ret
    exact ⟨by unfold rgt12; rw [h1]; rfl, HB2.out⟩
  · go_wp2_with fail
    go_ret
    exact ⟨by unfold rgt12; rw [h1]; rfl, HB2.out⟩
end

theorem l3_rule12 (b : Nat) (V S T : Int) : ∀ W : World, Blk W b 23 #[.int .i64 V, .int .i64 S, .int .i64 T] → W.cell? ⟨b, 0, none⟩ = some (.int .i64 V) ∧ W.cell? ⟨b, 1, none⟩ = some (.int .i64 S) ∧ W.cell? ⟨b, 2, none⟩ = some (.int .i64 T) := fun _ h => ⟨h.cell 0, h.cell 1, h.cell 2⟩
/-- begun's memory, ahead of the trees' variable. -/
structure B0Q (w0 W : World) (zb l3 : Nat) (V S T : Int) (p gb m : Nat) (g : Mg9) (vc : Array Value) : Prop where
  z : Blk W zb 38 vc
  l : Blk W l3 23 #[.int .i64 V, .int .i64 S, .int .i64 T]
  tm : TM W V S T p gb (cellsN V S T) m g
  be : Below w0.heap.size w0 W
  kp : w0.heap.size ≤ p
  kg : w0.heap.size ≤ gb
/-- .. and behind it. -/
structure BNQ (w0 W : World) (zb l3 tb : Nat) (V S T : Int) (p gb m : Nat) (g : Mg9) (vc : Array Value) : Prop where
  b : B0Q w0 W zb l3 V S T p gb m g vc
  t : Blk W tb 32 #[.int .i64 V, .int .i64 S, .int .i64 T, .iface 84 (pmV p), .int .i64 1, .int .i64 0]
section
variable {w w' W w0 : World} {V S T : Int} {zb l3 tb p gb m m' : Nat} {g g' : Mg9} {vc : Array Value}
theorem B0Q.below (h : B0Q w0 w zb l3 V S T p gb m g vc) (hb : Below w.heap.size w w') : B0Q w0 w' zb l3 V S T p gb m g vc := ⟨h.z.below hb h.z.lt, h.l.below hb h.l.lt, h.tm.below hb, h.be.trans (hb.mono h.be.size), h.kp, h.kg⟩
theorem B0Q.drew (h : B0Q w0 w zb l3 V S T p gb m g vc) : B0Q w0 w.drew zb l3 V S T p gb m g vc := h.below (Below.refl _ _).drew
theorem B0Q.alloc (h : B0Q w0 w zb l3 V S T p gb m g vc) (o : Obj) : B0Q w0 (w.alloc o) zb l3 V S T p gb m g vc := h.below ((Below.refl _ _).alloc (Nat.le_refl _) _)
theorem B0Q.made (h : B0Q w0 w zb l3 V S T p gb m g vc) : BNQ w0 (w.alloc (.cells #[.int .i64 V, .int .i64 S, .int .i64 T, .iface 84 (pmV p), .int .i64 1, .int .i64 0] 32)) zb l3 w.heap.size V S T p gb m g vc := ⟨h.alloc _, Blk.new _ _ _⟩
theorem B0Q.set1 {cs : Array Value} (h : B0Q w0 w zb l3 V S T p gb m g vc) (hq : Blk w tb 32 cs) (hb : w0.heap.size ≤ tb) (i : Nat) (u : Value) : B0Q w0 (w.setCell ⟨tb, i, none⟩ u) zb l3 V S T p gb m g vc :=
  ⟨Blk.far (p := ⟨tb, i, none⟩) h.z (Blk.ne_ h.z hq (by decide)) u, Blk.far (p := ⟨tb, i, none⟩) h.l (Blk.ne_ h.l hq (by decide)) u, h.tm.far hq (by decide) (by decide) u, h.be.setCell hb u, h.kp, h.kg⟩
theorem B0Q.store {c0 c1 c2 c3 c4 c5 : Value} (h : B0Q w0 w zb l3 V S T p gb m g vc) (hq : Blk w tb 32 #[c0, c1, c2, c3, c4, c5]) (hb : w0.heap.size ≤ tb) : BNQ w0 ((((((w.setCell ⟨tb, 0, none⟩ (.int .i64 V)).setCell ⟨tb, 1, none⟩ (.int .i64 S)).setCell ⟨tb, 2, none⟩ (.int .i64 T)).setCell ⟨tb, 3, none⟩ (.iface 84 (pmV p))).setCell ⟨tb, 4, none⟩ (.int .i64 1)).setCell ⟨tb, 5, none⟩ (.int .i64 0)) zb l3 tb V S T p gb m g vc := by
  have k0 := hq.set_ 0 (.int .i64 V)
  have k1 := k0.set_ 1 (.int .i64 S)
  have k2 := k1.set_ 2 (.int .i64 T)
  have k3 := k2.set_ 3 (.iface 84 (pmV p))
  have k4 := k3.set_ 4 (.int .i64 1)
  have k5 := k4.set_ 5 (.int .i64 0)
  have h0 := h.set1 hq hb 0 (.int .i64 V)
  have h1 := h0.set1 k0 hb 1 (.int .i64 S)
  have h2 := h1.set1 k1 hb 2 (.int .i64 T)
  have h3 := h2.set1 k2 hb 3 (.iface 84 (pmV p))
  have h4 := h3.set1 k3 hb 4 (.int .i64 1)
  exact ⟨h4.set1 k4 hb 5 (.int .i64 0), k5⟩
theorem BNQ.below (h : BNQ w0 w zb l3 tb V S T p gb m g vc) (hb : Below w.heap.size w w') : BNQ w0 w' zb l3 tb V S T p gb m g vc := ⟨h.b.below hb, h.t.below hb h.t.lt⟩
theorem BNQ.drew (h : BNQ w0 w zb l3 tb V S T p gb m g vc) : BNQ w0 w.drew zb l3 tb V S T p gb m g vc := h.below (Below.refl _ _).drew
theorem BNQ.only (h : BNQ w0 w zb l3 tb V S T p gb m g vc) (A : TM w' V S T p gb (cellsN V S T) m' g') (ho : Only p gb w w') : BNQ w0 w' zb l3 tb V S T p gb m' g' vc :=
  ⟨⟨h.b.z.treap h.b.tm ho (by decide) (by decide), h.b.l.treap h.b.tm ho (by decide) (by decide), A, Only.below h.b.be ho h.b.be.size h.b.kp h.b.kg, h.b.kp, h.b.kg⟩, h.t.treap h.b.tm ho (by decide) (by decide)⟩
theorem BNQ.more (h : BNQ w0 w zb l3 tb V S T p gb m g vc) (hm : m ≤ m') : BNQ w0 w zb l3 tb V S T p gb m' g vc := ⟨⟨h.b.z, h.b.l, h.b.tm.more hm, h.b.be, h.b.kp, h.b.kg⟩, h.t⟩
/-- Between two nodes. -/
def NRelQ (w0 : World) (zb l3 tb : Nat) (V S T : Int) (p gb : Nat) (vc : Array Value) (i : Value) (W : World) : Prop :=
  ∃ x g, 1 ≤ x ∧ x ≤ nN V S + 1 ∧ i = .int .i64 ((x : Nat) : Int) ∧ BNQ w0 W zb l3 tb V S T p gb (10 * (x - 1)) g vc ∧ (∀ y, 1 ≤ y → y < x → Stands (vxN V) (fun _ => 0) g (sgl y)) ∧ ∀ y k, nN V S < y → g y k = 0
end
/-- What begun's last region reads, and stores into. -/
def BS12 (W : World) (lb tb rb : Nat) (V S T : Int) (p : Nat) : Prop := Blk W lb 23 #[.int .i64 V, .int .i64 S, .int .i64 T] ∧ Blk W tb 32 #[.int .i64 V, .int .i64 S, .int .i64 T, .iface 84 (pmV p), .int .i64 1, .int .i64 0] ∧ ∃ x0 x1 x2 x3 x4 x5 x6 x7 x8 x9, Blk W rb 38 #[x0, x1, x2, x3, x4, x5, x6, x7, x8, x9]
section
variable {w w' w0 : World} {lb tb rb p l3 gb m : Nat} {V S T : Int} {g : Mg9}
theorem BS12.below (h : BS12 w lb tb rb V S T p) (hb : Below w.heap.size w w') : BS12 w' lb tb rb V S T p := by
  obtain ⟨h1, h3, x0, x1, x2, x3, x4, x5, x6, x7, x8, x9, h2⟩ := h
  exact ⟨h1.below hb h1.lt, h3.below hb h3.lt, x0, x1, x2, x3, x4, x5, x6, x7, x8, x9, h2.below hb h2.lt⟩
theorem BS12.drew (h : BS12 w lb tb rb V S T p) : BS12 w.drew lb tb rb V S T p := h.below (Below.refl _ _).drew
theorem Blk.ten {w : World} {g : Nat} {t : TypeId} {x0 x1 x2 x3 x4 x5 x6 x7 x8 x9 : Value} (h : Blk w g t #[x0, x1, x2, x3, x4, x5, x6, x7, x8, x9]) (y0 y1 y2 y3 y4 y5 y6 y7 y8 y9 : Value) : Blk ((((((((((w.setCell ⟨g, 0, none⟩ y0).setCell ⟨g, 1, none⟩ y1).setCell ⟨g, 2, none⟩ y2).setCell ⟨g, 3, none⟩ y3).setCell ⟨g, 4, none⟩ y4).setCell ⟨g, 5, none⟩ y5).setCell ⟨g, 6, none⟩ y6).setCell ⟨g, 7, none⟩ y7).setCell ⟨g, 8, none⟩ y8).setCell ⟨g, 9, none⟩ y9) g t #[y0, y1, y2, y3, y4, y5, y6, y7, y8, y9] := by
  have k0 : Blk (w.setCell ⟨g, 0, none⟩ y0) g t #[y0, x1, x2, x3, x4, x5, x6, x7, x8, x9] := h.set_ 0 y0
  have k1 : Blk ((w.setCell ⟨g, 0, none⟩ y0).setCell ⟨g, 1, none⟩ y1) g t #[y0, y1, x2, x3, x4, x5, x6, x7, x8, x9] := k0.set_ 1 y1
  have k2 : Blk (((w.setCell ⟨g, 0, none⟩ y0).setCell ⟨g, 1, none⟩ y1).setCell ⟨g, 2, none⟩ y2) g t #[y0, y1, y2, x3, x4, x5, x6, x7, x8, x9] := k1.set_ 2 y2
  have k3 : Blk ((((w.setCell ⟨g, 0, none⟩ y0).setCell ⟨g, 1, none⟩ y1).setCell ⟨g, 2, none⟩ y2).setCell ⟨g, 3, none⟩ y3) g t #[y0, y1, y2, y3, x4, x5, x6, x7, x8, x9] := k2.set_ 3 y3
  have k4 : Blk (((((w.setCell ⟨g, 0, none⟩ y0).setCell ⟨g, 1, none⟩ y1).setCell ⟨g, 2, none⟩ y2).setCell ⟨g, 3, none⟩ y3).setCell ⟨g, 4, none⟩ y4) g t #[y0, y1, y2, y3, y4, x5, x6, x7, x8, x9] := k3.set_ 4 y4
  have k5 : Blk ((((((w.setCell ⟨g, 0, none⟩ y0).setCell ⟨g, 1, none⟩ y1).setCell ⟨g, 2, none⟩ y2).setCell ⟨g, 3, none⟩ y3).setCell ⟨g, 4, none⟩ y4).setCell ⟨g, 5, none⟩ y5) g t #[y0, y1, y2, y3, y4, y5, x6, x7, x8, x9] := k4.set_ 5 y5
  have k6 : Blk (((((((w.setCell ⟨g, 0, none⟩ y0).setCell ⟨g, 1, none⟩ y1).setCell ⟨g, 2, none⟩ y2).setCell ⟨g, 3, none⟩ y3).setCell ⟨g, 4, none⟩ y4).setCell ⟨g, 5, none⟩ y5).setCell ⟨g, 6, none⟩ y6) g t #[y0, y1, y2, y3, y4, y5, y6, x7, x8, x9] := k5.set_ 6 y6
  have k7 : Blk ((((((((w.setCell ⟨g, 0, none⟩ y0).setCell ⟨g, 1, none⟩ y1).setCell ⟨g, 2, none⟩ y2).setCell ⟨g, 3, none⟩ y3).setCell ⟨g, 4, none⟩ y4).setCell ⟨g, 5, none⟩ y5).setCell ⟨g, 6, none⟩ y6).setCell ⟨g, 7, none⟩ y7) g t #[y0, y1, y2, y3, y4, y5, y6, y7, x8, x9] := k6.set_ 7 y7
  have k8 : Blk (((((((((w.setCell ⟨g, 0, none⟩ y0).setCell ⟨g, 1, none⟩ y1).setCell ⟨g, 2, none⟩ y2).setCell ⟨g, 3, none⟩ y3).setCell ⟨g, 4, none⟩ y4).setCell ⟨g, 5, none⟩ y5).setCell ⟨g, 6, none⟩ y6).setCell ⟨g, 7, none⟩ y7).setCell ⟨g, 8, none⟩ y8) g t #[y0, y1, y2, y3, y4, y5, y6, y7, y8, x9] := k7.set_ 8 y8
  have k9 : Blk ((((((((((w.setCell ⟨g, 0, none⟩ y0).setCell ⟨g, 1, none⟩ y1).setCell ⟨g, 2, none⟩ y2).setCell ⟨g, 3, none⟩ y3).setCell ⟨g, 4, none⟩ y4).setCell ⟨g, 5, none⟩ y5).setCell ⟨g, 6, none⟩ y6).setCell ⟨g, 7, none⟩ y7).setCell ⟨g, 8, none⟩ y8).setCell ⟨g, 9, none⟩ y9) g t #[y0, y1, y2, y3, y4, y5, y6, y7, y8, y9] := k8.set_ 9 y9
  exact k9
theorem BS12.set (h : BS12 w lb tb rb V S T p) (y0 y1 y2 y3 y4 y5 y6 y7 y8 y9 : Value) : BS12 ((((((((((w.setCell ⟨rb, 0, none⟩ y0).setCell ⟨rb, 1, none⟩ y1).setCell ⟨rb, 2, none⟩ y2).setCell ⟨rb, 3, none⟩ y3).setCell ⟨rb, 4, none⟩ y4).setCell ⟨rb, 5, none⟩ y5).setCell ⟨rb, 6, none⟩ y6).setCell ⟨rb, 7, none⟩ y7).setCell ⟨rb, 8, none⟩ y8).setCell ⟨rb, 9, none⟩ y9) lb tb rb V S T p := by
  obtain ⟨h1, h3, x0, x1, x2, x3, x4, x5, x6, x7, x8, x9, h2⟩ := h
  have hn := Blk.ne_ h1 h2 (by decide)
  have hn3 := Blk.ne_ h3 h2 (by decide)
  exact ⟨Blk.far (Blk.far (Blk.far (Blk.far (Blk.far (Blk.far (Blk.far (Blk.far (Blk.far (Blk.far h1 hn _) hn _) hn _) hn _) hn _) hn _) hn _) hn _) hn _) hn _, Blk.far (Blk.far (Blk.far (Blk.far (Blk.far (Blk.far (Blk.far (Blk.far (Blk.far (Blk.far h3 hn3 _) hn3 _) hn3 _) hn3 _) hn3 _) hn3 _) hn3 _) hn3 _) hn3 _) hn3 _, _, _, _, _, _, _, _, _, _, _, h2.ten y0 y1 y2 y3 y4 y5 y6 y7 y8 y9⟩
theorem BS12.lt (h : BS12 w lb tb rb V S T p) : lb < w.heap.size ∧ tb < w.heap.size ∧ rb < w.heap.size := by
  obtain ⟨h1, h3, x0, x1, x2, x3, x4, x5, x6, x7, x8, x9, h2⟩ := h
  exact ⟨h1.lt, h3.lt, h2.lt⟩
theorem BS12.rule (lb tb rb : Nat) (V S T : Int) (p : Nat) : ∀ W : World, BS12 W lb tb rb V S T p → (W.cell? ⟨lb, 0, none⟩ = some (.int .i64 V) ∧ W.cell? ⟨lb, 1, none⟩ = some (.int .i64 S) ∧ W.cell? ⟨lb, 2, none⟩ = some (.int .i64 T)) ∧
    (W.cell? ⟨tb, 0, none⟩ = some (.int .i64 V) ∧ W.cell? ⟨tb, 1, none⟩ = some (.int .i64 S) ∧ W.cell? ⟨tb, 2, none⟩ = some (.int .i64 T) ∧ W.cell? ⟨tb, 3, none⟩ = some (.iface 84 (pmV p)) ∧ W.cell? ⟨tb, 4, none⟩ = some (.int .i64 1) ∧ W.cell? ⟨tb, 5, none⟩ = some (.int .i64 0)) ∧
    (W.cell? ⟨rb, 0, none⟩ = some (zAt W rb 0) ∧ W.cell? ⟨rb, 1, none⟩ = some (zAt W rb 1) ∧ W.cell? ⟨rb, 2, none⟩ = some (zAt W rb 2) ∧ W.cell? ⟨rb, 3, none⟩ = some (zAt W rb 3) ∧ W.cell? ⟨rb, 4, none⟩ = some (zAt W rb 4) ∧ W.cell? ⟨rb, 5, none⟩ = some (zAt W rb 5) ∧ W.cell? ⟨rb, 6, none⟩ = some (zAt W rb 6) ∧ W.cell? ⟨rb, 7, none⟩ = some (zAt W rb 7) ∧ W.cell? ⟨rb, 8, none⟩ = some (zAt W rb 8) ∧ W.cell? ⟨rb, 9, none⟩ = some (zAt W rb 9)) ∧
    (W.frozen? ⟨rb, 0, none⟩ = false ∧ W.frozen? ⟨rb, 1, none⟩ = false ∧ W.frozen? ⟨rb, 2, none⟩ = false ∧ W.frozen? ⟨rb, 3, none⟩ = false ∧ W.frozen? ⟨rb, 4, none⟩ = false ∧ W.frozen? ⟨rb, 5, none⟩ = false ∧ W.frozen? ⟨rb, 6, none⟩ = false ∧ W.frozen? ⟨rb, 7, none⟩ = false ∧ W.frozen? ⟨rb, 8, none⟩ = false ∧ W.frozen? ⟨rb, 9, none⟩ = false) := by
  rintro W ⟨h1, h3, x0, x1, x2, x3, x4, x5, x6, x7, x8, x9, h2⟩
  have z : ∀ i v, #[x0, x1, x2, x3, x4, x5, x6, x7, x8, x9][i]? = some v → W.cell? ⟨rb, i, none⟩ = some (zAt W rb i) := fun i v hv => by
    have := (h2.cell i).trans hv
    unfold zAt; rw [this]; rfl
  exact ⟨⟨h1.cell 0, h1.cell 1, h1.cell 2⟩, ⟨h3.cell 0, h3.cell 1, h3.cell 2, h3.cell 3, h3.cell 4, h3.cell 5⟩, ⟨z 0 x0 rfl, z 1 x1 rfl, z 2 x2 rfl, z 3 x3 rfl, z 4 x4 rfl, z 5 x5 rfl, z 6 x6 rfl, z 7 x7 rfl, z 8 x8 rfl, z 9 x9 rfl⟩, h2.frozen 0, h2.frozen 1, h2.frozen 2, h2.frozen 3, h2.frozen 4, h2.frozen 5, h2.frozen 6, h2.frozen 7, h2.frozen 8, h2.frozen 9⟩
theorem BNQ.bs {vc : Array Value} (h : BNQ w0 w rb lb tb V S T p gb m g vc) (hc : vc = #[.int .i64 0, .int .i64 0, .int .i64 0, .nilIface, .int .i64 0, .int .i64 0, .int .i64 0, .int .i64 0, .int .i64 0, .nilIface]) : BS12 w lb tb rb V S T p := ⟨h.b.l, h.t, _, _, _, _, _, _, _, _, _, _, by rw [← hc]; exact h.b.z⟩
end
/-- What begun leaves. -/
def BgD12 (V S T : Int) (w : World) (e : Ending) (w' : World) : Prop :=
  ∃ p gb, e = .returned (.tuple #[vA V S T p, .bool true]) ∧ TA w' V S T p gb (cellsN V S T) (10 * nN V S) zeroF (fun _ => 0) (sing (nN V S)) ∧ Below w.heap.size w w' ∧ w.heap.size ≤ p ∧ w.heap.size ≤ gb
section
variable {w : World} {V S T : Int}
set_option maxHeartbeats 16000000 in
theorem begun_any12 (hR : Rt V S T) :
    Calls Try.prog 12 #[vL V S T] w (BgD12 V S T w) := by
  have HR := Lib.hid hR
  have hn560 := nN_le hR
  clear hR
  have HL : Hid (Blk ((w.alloc (.cells #[.int .i64 V, .int .i64 S, .int .i64 T] 23)).alloc (.cells #[.int .i64 0, .int .i64 0, .int .i64 0, .nilIface, .int .i64 0, .int .i64 0, .int .i64 0, .int .i64 0, .int .i64 0, .nilIface] 38)) w.heap.size 23 #[.int .i64 V, .int .i64 S, .int .i64 T]) := Lib.hid ((Blk.new _ _ _).alloc _)
  have HZ : Hid (Blk ((w.alloc (.cells #[.int .i64 V, .int .i64 S, .int .i64 T] 23)).alloc (.cells #[.int .i64 0, .int .i64 0, .int .i64 0, .nilIface, .int .i64 0, .int .i64 0, .int .i64 0, .int .i64 0, .int .i64 0, .nilIface] 38)) (w.heap.size + 1) 38 #[.int .i64 0, .int .i64 0, .int .i64 0, .nilIface, .int .i64 0, .int .i64 0, .int .i64 0, .int .i64 0, .int .i64 0, .nilIface]) := Lib.hid (new_next w _ _ _ _)
  have HB : Hid (Below w.heap.size w ((w.alloc (.cells #[.int .i64 V, .int .i64 S, .int .i64 T] 23)).alloc (.cells #[.int .i64 0, .int .i64 0, .int .i64 0, .nilIface, .int .i64 0, .int .i64 0, .int .i64 0, .int .i64 0, .int .i64 0, .nilIface] 38))) := Lib.hid (((Below.refl _ _).alloc (Nat.le_refl _) _).alloc (by simp) _)
  have HRB : Hid (w.heap.size ≤ w.heap.size + 1) := Lib.hid (Nat.le_succ _)
  go_enter Try.func12, Try.ntmps12
  go_wp2_with fail
  generalize w.heap.size + 1 = zb at HZ HRB ⊢
  generalize hzb : w.heap.size = l3 at HL ⊢
  generalize (w.alloc (.cells #[.int .i64 V, .int .i64 S, .int .i64 T] 23)).alloc (.cells #[.int .i64 0, .int .i64 0, .int .i64 0, .nilIface, .int .i64 0, .int .i64 0, .int .i64 0, .int .i64 0, .int .i64 0, .nilIface] 38) = W1 at HZ HL HB ⊢
  clear hzb
  refine (cells_yes V S T HR.out _).mono ?_; rintro e w2 ⟨rfl, hb2⟩
  have HZ2 := Lib.hid (HZ.out.below hb2 HZ.out.lt)
  have HL2 := Lib.hid (HL.out.below hb2 HL.out.lt)
  have HB2 := Lib.hid (HB.out.trans (hb2.mono HB.out.size))
  clear HZ HL HB hb2
  go_wp2_with fail
  refine (lnew HR.out _).mono ?_; rintro e w3 ⟨rfl, hA, hb3⟩
  have H3 : Hid (B0Q w w3 zb l3 V S T (w2.heap.size + 1) w2.heap.size 0 (fun _ _ => 0) #[.int .i64 0, .int .i64 0, .int .i64 0, .nilIface, .int .i64 0, .int .i64 0, .int .i64 0, .int .i64 0, .int .i64 0, .nilIface]) := Lib.hid ⟨HZ2.out.below hb3 HZ2.out.lt, HL2.out.below hb3 HL2.out.lt, TM.new HR.out hA, HB2.out.trans (hb3.mono HB2.out.size), Nat.le_trans HB2.out.size (Nat.le_succ _), HB2.out.size⟩
  generalize w2.heap.size + 1 = p at H3 ⊢
  generalize w2.heap.size = gb at H3
  clear hA hb3 HZ2 HL2 HB2
  have b0 : ((0 : Int) != 0) = false := rfl
  have l0 : w3.cell? ⟨l3, 0, none⟩ = some (.int .i64 V) := H3.out.l.cell 0
  have l1 : w3.cell? ⟨l3, 1, none⟩ = some (.int .i64 S) := H3.out.l.cell 1
  have l2 : w3.cell? ⟨l3, 2, none⟩ = some (.int .i64 T) := H3.out.l.cell 2
  have llt := H3.out.l.lt
  go_upto_region 4 with fail
  go_cut [6] from 21 to 26 (fun s wx => ∃ tb, s = .pointer (some ⟨tb, 0, none⟩) ∧ BNQ w wx zb l3 tb V S T p gb 0 (fun _ _ => 0) #[.int .i64 0, .int .i64 0, .int .i64 0, .nilIface, .int .i64 0, .int .i64 0, .int .i64 0, .int .i64 0, .int .i64 0, .nilIface])
  case first =>
    have Hd := Lib.hid H3.out.drew
    have hrule := l3_rule12 l3 V S T
    clear H3
    refine wp_region_held_drew (S := (fun W => Blk W l3 23 #[.int .i64 V, .int .i64 S, .int .i64 T])) (by kernel_rfl) ?_ (fun hHeld => ?_)
    · exact Hd.out.l
    refine wpAnyH_take (i := 0) (v := ?_) rfl (by kernel_rfl) (by kernel_rfl) (by kernel_rfl) (fun _ _ _ h => h) (Or.inl ⟨by rfl, ?_⟩) (by assumption) ?_
    rotate_left
    · (intro w hSw; (try dsimp only at hSw); go_simp; try with_reducible rfl)
    try simp only [Act.put, List.setIfInBounds_toArray, List.set_cons_zero, List.set_cons_succ, List.getElem_toArray, List.getElem_cons_zero]
    refine wpAnyH_take (i := 1) (v := ?_) rfl (by kernel_rfl) (by kernel_rfl) (by kernel_rfl) (fun _ _ _ h => h) (Or.inl ⟨by rfl, ?_⟩) (by assumption) ?_
    rotate_left
    · (intro w hSw; (try dsimp only at hSw); go_simp; try with_reducible rfl)
    try simp only [Act.put, List.setIfInBounds_toArray, List.set_cons_zero, List.set_cons_succ, List.getElem_toArray, List.getElem_cons_zero, List.getElem_cons_succ]
    refine wpAnyH_take (i := 4) (v := ?_) rfl (by kernel_rfl) (by kernel_rfl) (by kernel_rfl) (fun _ _ _ h => h) (Or.inl ⟨by rfl, ?_⟩) (by assumption) ?_
    rotate_left
    · (intro w hSw; (try dsimp only at hSw); go_simp; try with_reducible rfl)
    try simp only [Act.put, List.setIfInBounds_toArray, List.set_cons_zero, List.set_cons_succ, List.getElem_toArray, List.getElem_cons_zero, List.getElem_cons_succ]
    refine wpAnyH_ready (rs := [2, 6]) (by kernel_rfl) (by simp) ?_
    refine AllReadyH.cons rfl (fun K hK => ?_) ?_
    rotate_left
    · refine AllReadyH.cons rfl (fun K hK => ?_) ?_
      rotate_left
      · exact AllReadyH.nil
      go_simp
      refine hK.out _ _ ?_ (fun hHeld => ?_)
      · (try dsimp only); exact (Hd.out.alloc _).l
      clear hK K
      try simp only [Act.put, List.setIfInBounds_toArray, List.set_cons_zero, List.set_cons_succ, List.getElem_toArray, List.getElem_cons_zero, List.getElem_cons_succ]
      refine wpAnyH_ready (rs := [2]) (by kernel_rfl) (by simp) ?_
      refine AllReadyH.cons rfl (fun K hK => ?_) ?_
      rotate_left
      · exact AllReadyH.nil
      go_simp
      (refine (pm_of p _).mono ?_; rintro e w4 ⟨rfl, hb1⟩; have H4 := Lib.hid ((Hd.out.alloc (.cells #[.int .i64 0, .int .i64 0, .int .i64 0, .nilIface, .int .i64 0, .int .i64 0] 32)).below hb1); have HN : Hid (Blk w4 w3.heap.size 32 #[.int .i64 0, .int .i64 0, .int .i64 0, .nilIface, .int .i64 0, .int .i64 0]) := Lib.hid ((Blk.new w3.drew _ _).below hb1 (by simp)); have nlt := HN.out.lt; have n0 := HN.out.frozen 0; have m0 : w4.cell? ⟨w3.heap.size, 0, none⟩ = some (.int .i64 0) := HN.out.cell 0; have n1 := HN.out.frozen 1; have m1 : w4.cell? ⟨w3.heap.size, 1, none⟩ = some (.int .i64 0) := HN.out.cell 1; have n2 := HN.out.frozen 2; have m2 : w4.cell? ⟨w3.heap.size, 2, none⟩ = some (.int .i64 0) := HN.out.cell 2; have n3 := HN.out.frozen 3; have m3 : w4.cell? ⟨w3.heap.size, 3, none⟩ = some (.nilIface) := HN.out.cell 3; have n4 := HN.out.frozen 4; have m4 : w4.cell? ⟨w3.heap.size, 4, none⟩ = some (.int .i64 0) := HN.out.cell 4; have n5 := HN.out.frozen 5; have m5 : w4.cell? ⟨w3.heap.size, 5, none⟩ = some (.int .i64 0) := HN.out.cell 5; have hbs : w.heap.size ≤ w3.heap.size := Hd.out.be.size)
      go_wp2_with fail
      refine hK.out _ _ ?_ (fun hHeld => ?_)
      · (try dsimp only); exact H4.out.l
      clear hK K
      try simp only [Act.put, List.setIfInBounds_toArray, List.set_cons_zero, List.set_cons_succ, List.getElem_toArray, List.getElem_cons_zero, List.getElem_cons_succ]
      refine wpAnyH_take (i := 3) (v := ?_) rfl (by kernel_rfl) (by kernel_rfl) (by kernel_rfl) (fun _ _ _ h => h) (Or.inl ⟨by rfl, ?_⟩) (by assumption) ?_
      rotate_left
      · (intro w hSw; (try dsimp only at hSw); go_simp; try with_reducible rfl)
      try simp only [Act.put, List.setIfInBounds_toArray, List.set_cons_zero, List.set_cons_succ, List.getElem_toArray, List.getElem_cons_zero, List.getElem_cons_succ]
      refine wpAnyH_take (i := 5) (v := ?_) rfl (by kernel_rfl) (by kernel_rfl) (by kernel_rfl) (fun _ _ _ h => h) (Or.inl ⟨by rfl, ?_⟩) (by assumption) ?_
      rotate_left
      · (intro w hSw; (try dsimp only at hSw); go_simp; try with_reducible rfl)
      try simp only [Act.put, List.setIfInBounds_toArray, List.set_cons_zero, List.set_cons_succ, List.getElem_toArray, List.getElem_cons_zero, List.getElem_cons_succ]
      refine wpAnyH_ready (rs := [7]) (by kernel_rfl) (by simp) ?_
      refine AllReadyH.cons rfl (fun K hK => ?_) ?_
      rotate_left
      · exact AllReadyH.nil
      go_simp
      have HBA := Lib.hid (H4.out.store HN.out hbs)
      refine hK.out _ _ ?_ (fun hHeld => ?_)
      · (try dsimp only); exact HBA.out.b.l
      clear hK K
      try simp only [Act.put, List.setIfInBounds_toArray, List.set_cons_zero, List.set_cons_succ, List.getElem_toArray, List.getElem_cons_zero, List.getElem_cons_succ]
      refine wpAnyH_done (by kernel_rfl) ?_ _
      go_wp2_with fail
      go_meet
      exact ⟨_, rfl, HBA.out⟩
    go_simp
    (refine (pm_of p _).mono ?_; rintro e w4 ⟨rfl, hb1⟩; have H4 := Lib.hid (Hd.out.below hb1))
    go_wp2_with fail
    refine hK.out _ _ ?_ (fun hHeld => ?_)
    · (try dsimp only); exact H4.out.l
    clear hK K
    try simp only [Act.put, List.setIfInBounds_toArray, List.set_cons_zero, List.set_cons_succ, List.getElem_toArray, List.getElem_cons_zero, List.getElem_cons_succ]
    refine wpAnyH_take (i := 3) (v := ?_) rfl (by kernel_rfl) (by kernel_rfl) (by kernel_rfl) (fun _ _ _ h => h) (Or.inl ⟨by rfl, ?_⟩) (by assumption) ?_
    rotate_left
    · (intro w hSw; (try dsimp only at hSw); go_simp; try with_reducible rfl)
    try simp only [Act.put, List.setIfInBounds_toArray, List.set_cons_zero, List.set_cons_succ, List.getElem_toArray, List.getElem_cons_zero, List.getElem_cons_succ]
    refine wpAnyH_take (i := 5) (v := ?_) rfl (by kernel_rfl) (by kernel_rfl) (by kernel_rfl) (fun _ _ _ h => h) (Or.inl ⟨by rfl, ?_⟩) (by assumption) ?_
    rotate_left
    · (intro w hSw; (try dsimp only at hSw); go_simp; try with_reducible rfl)
    try simp only [Act.put, List.setIfInBounds_toArray, List.set_cons_zero, List.set_cons_succ, List.getElem_toArray, List.getElem_cons_zero, List.getElem_cons_succ]
    refine wpAnyH_ready (rs := [6]) (by kernel_rfl) (by simp) ?_
    refine AllReadyH.cons rfl (fun K hK => ?_) ?_
    rotate_left
    · exact AllReadyH.nil
    go_simp
    refine hK.out _ _ ?_ (fun hHeld => ?_)
    · (try dsimp only); exact (H4.out.alloc _).l
    clear hK K
    try simp only [Act.put, List.setIfInBounds_toArray, List.set_cons_zero, List.set_cons_succ, List.getElem_toArray, List.getElem_cons_zero, List.getElem_cons_succ]
    refine wpAnyH_ready (rs := [7]) (by kernel_rfl) (by simp) ?_
    refine AllReadyH.cons rfl (fun K hK => ?_) ?_
    rotate_left
    · exact AllReadyH.nil
    go_simp
    have HBA := Lib.hid (H4.out.made)
    refine hK.out _ _ ?_ (fun hHeld => ?_)
    · (try dsimp only); exact HBA.out.b.l
    clear hK K
    try simp only [Act.put, List.setIfInBounds_toArray, List.set_cons_zero, List.set_cons_succ, List.getElem_toArray, List.getElem_cons_zero, List.getElem_cons_succ]
    refine wpAnyH_done (by kernel_rfl) ?_ _
    go_wp2_with fail
    go_meet
    exact ⟨_, rfl, HBA.out⟩
  case rest =>
    obtain ⟨tb, rfl, hN⟩ := hcut
    have HRel : Hid (NRelQ w zb l3 tb V S T p gb #[.int .i64 0, .int .i64 0, .int .i64 0, .nilIface, .int .i64 0, .int .i64 0, .int .i64 0, .int .i64 0, .int .i64 0, .nilIface] (.int .i64 1) wc) := Lib.hid ⟨1, _, Nat.le_refl _, by omega, rfl, hN, fun y h1 h2 => absurd h1 (by omega), fun _ _ _ => rfl⟩
    clear hN H3 l0 l1 l2 llt b0
    obtain ⟨n9, hn9⟩ : ∃ n, nN V S = n := ⟨_, rfl⟩
    have HN9 := Lib.hid hn9
    rw [hn9] at hn560
    clear hn9
    have nI : (n9 : Int) ≤ 560 := by omega
    go_wp2_with fail
    go_loopw [7] (fun i wr => NRelQ w zb l3 tb V S T p gb #[.int .i64 0, .int .i64 0, .int .i64 0, .nilIface, .int .i64 0, .int .i64 0, .int .i64 0, .int .i64 0, .int .i64 0, .nilIface] i wr) (fun i _ => n9 + 1 - (intOf i).toNat)
    case atStart => exact HRel.out
    case round =>
      clear HRel
      obtain ⟨x, g, hx1, hx2, rfl, hS, hst, hg0⟩ := hrel
      have HS := Lib.hid hS
      have HST := Lib.hid hst
      have HG0 := Lib.hid hg0
      rw [HN9.out] at hx2
      clear hS hst hg0
      have l0 : wr.cell? ⟨l3, 0, none⟩ = some (.int .i64 V) := HS.out.b.l.cell 0
      have l1 : wr.cell? ⟨l3, 1, none⟩ = some (.int .i64 S) := HS.out.b.l.cell 1
      have l2 : wr.cell? ⟨l3, 2, none⟩ = some (.int .i64 T) := HS.out.b.l.cell 2
      have t0 : wr.cell? ⟨tb, 0, none⟩ = some (.int .i64 V) := HS.out.t.cell 0
      have t1 : wr.cell? ⟨tb, 1, none⟩ = some (.int .i64 S) := HS.out.t.cell 1
      have t2 : wr.cell? ⟨tb, 2, none⟩ = some (.int .i64 T) := HS.out.t.cell 2
      have t3 : wr.cell? ⟨tb, 3, none⟩ = some (.iface 84 (pmV p)) := HS.out.t.cell 3
      have t4 : wr.cell? ⟨tb, 4, none⟩ = some (.int .i64 1) := HS.out.t.cell 4
      have t5 : wr.cell? ⟨tb, 5, none⟩ = some (.int .i64 0) := HS.out.t.cell 5
      have llt := HS.out.b.l.lt
      have tlt := HS.out.t.lt
      go_wp2_with fail
      refine (lnodes HR.out _).mono ?_; rintro e w6 ⟨rfl, hb6⟩
      have H6 := Lib.hid (HS.out.below hb6)
      rw [HN9.out]
      clear HS hb6 l0 l1 l2 t0 t1 t2 t3 t4 t5 llt tlt
      have l0 : w6.cell? ⟨l3, 0, none⟩ = some (.int .i64 V) := H6.out.b.l.cell 0
      have l1 : w6.cell? ⟨l3, 1, none⟩ = some (.int .i64 S) := H6.out.b.l.cell 1
      have l2 : w6.cell? ⟨l3, 2, none⟩ = some (.int .i64 T) := H6.out.b.l.cell 2
      have t0 : w6.cell? ⟨tb, 0, none⟩ = some (.int .i64 V) := H6.out.t.cell 0
      have t1 : w6.cell? ⟨tb, 1, none⟩ = some (.int .i64 S) := H6.out.t.cell 1
      have t2 : w6.cell? ⟨tb, 2, none⟩ = some (.int .i64 T) := H6.out.t.cell 2
      have t3 : w6.cell? ⟨tb, 3, none⟩ = some (.iface 84 (pmV p)) := H6.out.t.cell 3
      have t4 : w6.cell? ⟨tb, 4, none⟩ = some (.int .i64 1) := H6.out.t.cell 4
      have t5 : w6.cell? ⟨tb, 5, none⟩ = some (.int .i64 0) := H6.out.t.cell 5
      have llt := H6.out.b.l.lt
      have tlt := H6.out.t.lt
      by_cases hxn : x ≤ n9
      · have HXN : Hid (x ≤ nN V S) := Lib.hid (by have := HN9.out; omega)
        have hxI : (x : Int) ≤ (n9 : Int) := by omega
        have HZ0 := Lib.hid H6.out.b.tm.z
        go_wp2_with fail
        refine (talone H6.out.b.tm hx1 HXN.out (by omega)).mono ?_; rintro e w9 ⟨rfl, A9, O9⟩
        have H9 := Lib.hid (H6.out.only A9 O9)
        clear A9 O9 l0 l1 l2 t0 t1 t2 t3 t4 t5 llt tlt
        go_wp2_with fail
        go_roundw
        case rel =>
          refine ⟨x + 1, aloneG (vxN V) g x, by omega, by have := HN9.out; omega, by simp, H9.out.more (by omega), fun y h1 h2 => ?_, fun y k hy => ?_⟩
          · by_cases e : y = x
            · subst e
              exact alone_stands (by omega) fun k => HZ0.out k
            · exact (HST.out y h1 (by omega)).same (by simp [sgl, Tp.row]) fun z hz k => by
                have hz : z = y := by simpa [sgl, Tp.row] using hz
                rw [hz, aloneG_other _ e]
          · rw [aloneG_other _ (by have := HXN.out; omega)]; exact HG0.out y k hy
        case measure => simp [intOf]; omega
      · have ex : x = n9 + 1 := by omega
        subst ex
        have hxI : ¬ ((n9 : Int) + 1) ≤ (n9 : Int) := by omega
        have HFI := Lib.hid (sing_fi (V := V) (S := S) (g := g) fun y h1 h2 => HST.out y h1 (by have := HN9.out; omega))
        have HE5 : Hid (BS12 w6 l3 tb zb V S T p) := Lib.hid (H6.out.bs rfl)
        obtain ⟨_, _, ⟨d0, d1, d2, d3, d4, d5, d6, d7, d8, d9⟩, c0, c1, c2, c3, c4, c5, c6, c7, c8, c9⟩ := BS12.rule _ _ _ _ _ _ _ _ HE5.out
        have rlt := HE5.out.lt.2.2
        go_upto_region 9 with fail
        clear d0 d1 d2 d3 d4 d5 d6 d7 d8 d9 c0 c1 c2 c3 c4 c5 c6 c7 c8 c9 rlt l0 l1 l2 t0 t1 t2 t3 t4 t5 llt tlt
        have HSd : Hid (BS12 w6.drew l3 tb zb V S T p) := Lib.hid HE5.out.drew
        obtain ⟨⟨l0, l1, l2⟩, ⟨t0, t1, t2, t3, t4, t5⟩, ⟨d0, d1, d2, d3, d4, d5, d6, d7, d8, d9⟩, c0, c1, c2, c3, c4, c5, c6, c7, c8, c9⟩ := BS12.rule _ _ _ _ _ _ _ _ HSd.out
        obtain ⟨llt, tlt, rlt⟩ := HSd.out.lt
        have hrule := BS12.rule l3 tb zb V S T p
        go_region_held3 (fun W => BS12 W l3 tb zb V S T p) (first | (with_reducible assumption) | (with_reducible exact BS12.set HS4.out _ _ _ _ _ _ _ _ _ _) | (with_reducible exact HS4.out) | (with_reducible exact HSd.out))
          (first
            | (go_at_call 32; ((with_reducible refine (pm_of p _).mono ?_); rintro e w4 ⟨rfl, hb4⟩; have HS4 := Lib.hid (HSd.out.below hb4); have H4 := Lib.hid (H6.out.drew.below hb4)))
            | fail)
        clear d0 d1 d2 d3 d4 d5 d6 d7 d8 d9 c0 c1 c2 c3 c4 c5 c6 c7 c8 c9 rlt l0 l1 l2 t0 t1 t2 t3 t4 t5 llt tlt hrule hb4 HSd HE5
        have HZ4 : Hid (Blk w4 zb 38 #[.int .i64 0, .int .i64 0, .int .i64 0, .nilIface, .int .i64 0, .int .i64 0, .int .i64 0, .int .i64 0, .int .i64 0, .nilIface]) := Lib.hid H4.out.b.z
        have hf := HZ4.out.ten (.int .i64 V) (.int .i64 S) (.int .i64 T) (.iface 84 (pmV p)) (.int .i64 1) (.int .i64 0) (.int .i64 V) (.int .i64 S) (.int .i64 T) (.iface 84 (pmV p))
        have d0 := hf.cell 0
        have d1 := hf.cell 1
        have d2 := hf.cell 2
        have d3 := hf.cell 3
        have d4 := hf.cell 4
        have d5 := hf.cell 5
        have d6 := hf.cell 6
        have d7 := hf.cell 7
        have d8 := hf.cell 8
        have d9 := hf.cell 9
        have HB5 := Lib.hid ((((((((((H4.out.b.be.setCell (p := ⟨zb, 0, none⟩) HRB.out (.int .i64 V)).setCell (p := ⟨zb, 1, none⟩) HRB.out (.int .i64 S)).setCell (p := ⟨zb, 2, none⟩) HRB.out (.int .i64 T)).setCell (p := ⟨zb, 3, none⟩) HRB.out (.iface 84 (pmV p))).setCell (p := ⟨zb, 4, none⟩) HRB.out (.int .i64 1)).setCell (p := ⟨zb, 5, none⟩) HRB.out (.int .i64 0)).setCell (p := ⟨zb, 6, none⟩) HRB.out (.int .i64 V)).setCell (p := ⟨zb, 7, none⟩) HRB.out (.int .i64 S)).setCell (p := ⟨zb, 8, none⟩) HRB.out (.int .i64 T)).setCell (p := ⟨zb, 9, none⟩) HRB.out (.iface 84 (pmV p)))
        have HM5 : Hid (TM ((((((((((w4.setCell ⟨zb, 0, none⟩ (.int .i64 V)).setCell ⟨zb, 1, none⟩ (.int .i64 S)).setCell ⟨zb, 2, none⟩ (.int .i64 T)).setCell ⟨zb, 3, none⟩ (.iface 84 (pmV p))).setCell ⟨zb, 4, none⟩ (.int .i64 1)).setCell ⟨zb, 5, none⟩ (.int .i64 0)).setCell ⟨zb, 6, none⟩ (.int .i64 V)).setCell ⟨zb, 7, none⟩ (.int .i64 S)).setCell ⟨zb, 8, none⟩ (.int .i64 T)).setCell ⟨zb, 9, none⟩ (.iface 84 (pmV p))) V S T p gb (cellsN V S T) (10 * (n9 + 1 - 1)) g) := Lib.hid (by
          have z0 := HZ4.out
          have m0 := H4.out.b.tm
          have z1 := z0.set_ 0 (.int .i64 V); have m1 := m0.far z0 (by decide) (by decide) (j := 0) (.int .i64 V)
          have z2 := z1.set_ 1 (.int .i64 S); have m2 := m1.far z1 (by decide) (by decide) (j := 1) (.int .i64 S)
          have z3 := z2.set_ 2 (.int .i64 T); have m3 := m2.far z2 (by decide) (by decide) (j := 2) (.int .i64 T)
          have z4 := z3.set_ 3 (.iface 84 (pmV p)); have m4 := m3.far z3 (by decide) (by decide) (j := 3) (.iface 84 (pmV p))
          have z5 := z4.set_ 4 (.int .i64 1); have m5 := m4.far z4 (by decide) (by decide) (j := 4) (.int .i64 1)
          have z6 := z5.set_ 5 (.int .i64 0); have m6 := m5.far z5 (by decide) (by decide) (j := 5) (.int .i64 0)
          have z7 := z6.set_ 6 (.int .i64 V); have m7 := m6.far z6 (by decide) (by decide) (j := 6) (.int .i64 V)
          have z8 := z7.set_ 7 (.int .i64 S); have m8 := m7.far z7 (by decide) (by decide) (j := 7) (.int .i64 S)
          have z9 := z8.set_ 8 (.int .i64 T); have m9 := m8.far z8 (by decide) (by decide) (j := 8) (.int .i64 T)
          have z10 := z9.set_ 9 (.iface 84 (pmV p)); have m10 := m9.far z9 (by decide) (by decide) (j := 9) (.iface 84 (pmV p))
          exact m10)
        have HK := Lib.hid (And.intro H4.out.b.kp H4.out.b.kg)
        clear hf HZ4 HS4 H4
        go_wp2_with fail
        refine bodyPost_ret (v := .tuple #[vA V S T p, .bool true]) (by simp [results, Try.results12, go_sem, d0, d1, d2, d3, d4, d5, d6, d7, d8, d9]) rfl ⟨p, gb, rfl, ⟨g, ?_, HFI.out, fun i _ => ?_⟩, HB5.out, HK.out.1, HK.out.2⟩
        · have := HM5.out.more (m' := 10 * nN V S) (by have := HN9.out; omega)
          exact this
        · unfold rs; rw [HG0.out _ _ (by omega)]; rfl
end
end Go.Proofs.Ytaooglagddphnaa
