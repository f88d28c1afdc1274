/- The law TourBack: its state. Printed by wip/tools/tovlk.py. -/
import Derived.Test.YtahabfjngeicmaaZTovE
import Derived.Test.YtahabfjngeicmaaZTovD
namespace Go.Proofs.Ytahabfjngeicmaa
open Go.RowKit

set_option maxRecDepth 100000

/-- A play whose rows aren't told any more, beside the law's two variables. -/
structure XO (w0 W : World) (ob lo : Nat) (kd a b c d : Int) (zb : Nat) (vc : Array Value) (V S T : Int) (n q p gb cap rb lb cr cl base : Nat) (gB : Nat → Nat) (g : Mg9) (ts : List Tp) (vr : Nat → Value) (rs : Nat → List (List Nat)) (gr : Nat → List (Option (Nat × Nat))) (k : Nat) : Prop where
  x : XS w0 W zb vc V S T n q p gb cap rb lb cr cl base gB g ts vr rs gr k
  o : Blk W ob 29 #[.int .i64 kd, .int .i64 a, .int .i64 b, .int .i64 c, .int .i64 d]
  l : Blk W lo 23 #[.int .i64 V, .int .i64 S, .int .i64 T]
/-- What the great region reads. -/
structure SK (W : World) (ob lo q p rb lb n cr cl : Nat) (V S T kd a b c d : Int) (L s sn gl : Nat) (e1 : Int) : Prop where
  sb : SB W ob lo q p rb lb n cr cl V S T kd a b c d
  c1 : W.cell? ⟨lb, L, none⟩ = some (.slice (some ⟨gl, 0, none⟩) sn sn)
  c2 : W.cell? ⟨gl, s * 2, none⟩ = some (.int .i64 e1)
section
variable {w w' W w0 : World} {kd a b c d e1 : Int} {ob lo zb k k' L s sn gl : Nat} {vc : Array Value} {V S T : Int} {n q p gb cap rb lb cr cl base : Nat} {gB : Nat → Nat} {g g' : Mg9} {ts ts' : List Tp} {vr : Nat → Value} {rs : Nat → List (List Nat)} {gr : Nat → List (Option (Nat × Nat))} {t : Tp}
theorem XO.sb (h : XO w0 w ob lo kd a b c d zb vc V S T n q p gb cap rb lb cr cl base gB g ts vr rs gr k) : SB w ob lo q p rb lb n cr cl V S T kd a b c d := ⟨h.o, h.l, h.x.pq⟩
theorem XO.lt (h : XO w0 w ob lo kd a b c d zb vc V S T n q p gb cap rb lb cr cl base gB g ts vr rs gr k) : ob < w.heap.size ∧ lo < w.heap.size ∧ q < w.heap.size := ⟨h.o.lt, h.l.lt, h.x.qlt⟩
theorem XO.below (h : XO w0 w ob lo kd a b c d zb vc V S T n q p gb cap rb lb cr cl base gB g ts vr rs gr k) (hb : Below w.heap.size w w') : XO w0 w' ob lo kd a b c d zb vc V S T n q p gb cap rb lb cr cl base gB g ts vr rs gr k := ⟨h.x.below hb, h.o.below hb h.o.lt, h.l.below hb h.l.lt⟩
theorem XO.drew (h : XO w0 w ob lo kd a b c d zb vc V S T n q p gb cap rb lb cr cl base gB g ts vr rs gr k) : XO w0 w.drew ob lo kd a b c d zb vc V S T n q p gb cap rb lb cr cl base gB g ts vr rs gr k := h.below (Below.refl _ _).drew
theorem XO.less (h : XO w0 w ob lo kd a b c d zb vc V S T n q p gb cap rb lb cr cl base gB g ts vr rs gr k) (hk : k' ≤ k) : XO w0 w ob lo kd a b c d zb vc V S T n q p gb cap rb lb cr cl base gB g ts vr rs gr k' := ⟨h.x.less hk, h.o, h.l⟩
theorem XO.next (h : XO w0 w ob lo kd a b c d zb vc V S T n q p gb cap rb lb cr cl base gB g ts vr rs gr k) (hx : XS w0 w' zb vc V S T n q p gb cap rb lb cr cl base gB g' ts' vr rs gr k') (ho : Only p gb w w') : XO w0 w' ob lo kd a b c d zb vc V S T n q p gb cap rb lb cr cl base gB g' ts' vr rs gr k' := by
  obtain ⟨m, hm⟩ := h.x.tm
  exact ⟨hx, h.o.treap hm ho (by decide) (by decide), h.l.treap hm ho (by decide) (by decide)⟩
theorem XO.sk {e : Option (Nat × Nat)} (h : XO w0 w ob lo kd a b c d zb vc V S T n q p gb cap rb lb cr cl base gB g ts vr rs gr k) (hl : L < n) (hs : (gr L)[s]? = some e) (hn : S.toNat = sn) : SK w ob lo q p rb lb n cr cl V S T kd a b c d L s sn (gB L) (end1 e) := by
  obtain ⟨m, _, h2⟩ := h.x.pg
  have h3 := h2.gr_cell hl
  rw [hn] at h3
  exact ⟨h.sb, h3, (h2.link_cell hl hs).1⟩
theorem SK.rule (ob lo q p rb lb n cr cl : Nat) (V S T kd a b c d : Int) (L s sn gl : Nat) (e1 : Int) : ∀ W : World, SK W ob lo q p rb lb n cr cl V S T kd a b c d L s sn gl e1 →
    (W.cell? ⟨lb, L, none⟩ = some (.slice (some ⟨gl, 0, none⟩) sn sn) ∧ W.cell? ⟨gl, s * 2, none⟩ = some (.int .i64 e1)) ∧ W.cell? ⟨ob, 0, none⟩ = some (.int .i64 kd) ∧ W.cell? ⟨ob, 1, none⟩ = some (.int .i64 a) ∧ W.cell? ⟨ob, 2, none⟩ = some (.int .i64 b) ∧ W.cell? ⟨ob, 3, none⟩ = some (.int .i64 c) ∧ W.cell? ⟨ob, 4, none⟩ = some (.int .i64 d) ∧
    W.cell? ⟨lo, 0, none⟩ = some (.int .i64 V) ∧ W.cell? ⟨lo, 1, none⟩ = some (.int .i64 S) ∧ W.cell? ⟨lo, 2, none⟩ = some (.int .i64 T) ∧
    W.cell? ⟨q, 0, none⟩ = some (.int .i64 V) ∧ W.cell? ⟨q, 1, none⟩ = some (.int .i64 S) ∧ W.cell? ⟨q, 2, none⟩ = some (.int .i64 T) ∧ W.cell? ⟨q, 3, none⟩ = some (.int .i64 V) ∧ W.cell? ⟨q, 4, none⟩ = some (.int .i64 S) ∧ W.cell? ⟨q, 5, none⟩ = some (.int .i64 T) ∧ W.cell? ⟨q, 6, none⟩ = some (.iface 95 (pmV p)) ∧ W.cell? ⟨q, 7, none⟩ = some (.int .i64 1) ∧ W.cell? ⟨q, 8, none⟩ = some (.int .i64 0) ∧ W.cell? ⟨q, 9, none⟩ = some (.slice (some ⟨rb, 0, none⟩) n cr) ∧ W.cell? ⟨q, 10, none⟩ = some (.slice (some ⟨lb, 0, none⟩) n cl) :=
  fun W h => ⟨⟨h.c1, h.c2⟩, SB.rule ob lo q p rb lb n cr cl V S T kd a b c d W h.sb⟩
theorem SK.below (h : SK w ob lo q p rb lb n cr cl V S T kd a b c d L s sn gl e1) (hb : Below w.heap.size w w') : SK w' ob lo q p rb lb n cr cl V S T kd a b c d L s sn gl e1 :=
  ⟨⟨h.sb.o.below hb h.sb.o.lt, h.sb.l.below hb h.sb.l.lt, h.sb.q.below hb h.sb.q.lt⟩, cell_later hb h.c1, cell_later hb h.c2⟩
end
section
variable {α : Type} {a b : α} {l : List α} {i : Nat}
theorem sq1 : l.toArray.setIfInBounds i a = (l.set i a).toArray := List.setIfInBounds_toArray ..
theorem sq2 : (a :: l).set 0 b = b :: l := rfl
theorem sq3 : (a :: l).set (i + 1) b = a :: l.set i b := rfl
theorem sq4 {h : i < l.toArray.size} : l.toArray[i] = l[i]'(by simpa using h) := rfl
theorem sq5 {h : 0 < (a :: l).length} : (a :: l)[0] = a := rfl
theorem sq6 {h : i + 1 < (a :: l).length} : (a :: l)[i + 1] = l[i]'(by simpa using h) := rfl
end
section
variable {P : Program} {ops : Array Oper} {Q : Exit → Act → World → Prop} {md : Region.Mode} {S : World → Prop}
/-- An operation that isn't run comes up first. -/
theorem tkF {i : Nat} {oi : Oper} {fuel : Nat} {listed : Array Bool} {a : Act} {w : World} (hi : ops[i]? = some oi) (h : wpAnyH P md ops Q S fuel (listed.setIfInBounds i true) (a.put oi.dst undef) w) (hs : Region.noSelect ops = true := by kernel_rfl) (hf : Region.free md ops listed i = true := by kernel_rfl) (hr : (Region.ready md ops listed).contains i = true := by kernel_rfl) (hQ : ∀ c a w, Q (.panic c) (a.put oi.dst undef) w → Q (.panic c) a w := by exact fun _ _ _ h => h) (hg : Region.wanted oi (yielded ops a.tmps) = false := by rfl) (hS : S w := by assumption) : wpAnyH P md ops Q S (fuel + 1) listed a w :=
  wpAnyH_take hi hs hf hr hQ (Or.inr ⟨hg, rfl⟩) hS h
/-- One that is run and leaves memory as it is. -/
theorem tkN {i : Nat} {oi : Oper} {v : Value} {fuel : Nat} {listed : Array Bool} {a : Act} {w : World} (hi : ops[i]? = some oi) (hy : ∀ w, S w → (execOp a.eval oi).run P w = .ok (.value v) w) (h : wpAnyH P md ops Q S fuel (listed.setIfInBounds i true) (a.put oi.dst v) w) (hs : Region.noSelect ops = true := by kernel_rfl) (hf : Region.free md ops listed i = true := by kernel_rfl) (hr : (Region.ready md ops listed).contains i = true := by kernel_rfl) (hQ : ∀ c a w, Q (.panic c) (a.put oi.dst v) w → Q (.panic c) a w := by exact fun _ _ _ h => h) (hg : Region.wanted oi (yielded ops a.tmps) = true := by rfl) (hS : S w := by assumption) : wpAnyH P md ops Q S (fuel + 1) listed a w :=
  wpAnyH_take hi hs hf hr hQ (Or.inl ⟨hg, hy⟩) hS h
end
end Go.Proofs.Ytahabfjngeicmaa
