/- A play in memory; a call on it: its boxes; what its regions read. -/
import Derived.Test.YtahabfjngeicmaaEdG
namespace Go.Proofs.Ytahabfjngeicmaa
open Go.RowKit

set_option maxRecDepth 100000

/-- A play in memory: its block, its cells, its list. -/
structure PW (w : World) (base q : Nat) (V S T : Int) (p gb cap m : Nat) (f : Nat → Int) (v : Value) (l : List E1) : Prop where
  pq : PB11 w q V S T p v
  em : EM w V S T p gb cap m f
  ow : OW w base v l
  bq : base ≤ q
  bp : base ≤ p
  bg : base ≤ gb
/-- A call's value. -/
abbrev vO11 (kd s u v l : Int) (t : Bool) : Value := .agg #[.int .i64 kd, .int .i64 s, .int .i64 u, .int .i64 v, .int .i64 l, .bool t]
section
variable {w w' w0 : World} {base q p gb cap m m' ob lo : Nat} {V S T kd s u v l : Int} {t : Bool} {f f' : Nat → Int} {vl vl' : Value} {ls ls' : List E1}
theorem OW.em {base : Nat} (h : OW w base vl ls) (A : EM w V S T p gb cap m f) (ho : Only p gb w w') : OW w' base vl ls := by
  rcases h.shape with ⟨rfl, rfl⟩ | ⟨g, c, cs, rfl, hg, hz, _⟩
  · exact OW.nil _ _
  · refine h.kept_of fun i hi => ?_
    have e : g = i := by injection hi
    subst e
    exact (Blk.em hz A ho (by decide) (by decide)).trans hz.symm
theorem PW.below (h : PW w base q V S T p gb cap m f vl ls) (hb : Below w.heap.size w w') : PW w' base q V S T p gb cap m f vl ls := ⟨h.pq.below hb, h.em.below hb, h.ow.below hb, h.bq, h.bp, h.bg⟩
theorem PW.drew (h : PW w base q V S T p gb cap m f vl ls) : PW w.drew base q V S T p gb cap m f vl ls := h.below (Below.refl _ _).drew
theorem PW.next (h : PW w base q V S T p gb cap m f vl ls) (hm : EM w' V S T p gb cap m' f') (ho : Only p gb w w') : PW w' base q V S T p gb cap m' f' vl ls := ⟨Blk.em h.pq h.em ho (by decide) (by decide), hm, h.ow.em h.em ho, h.bq, h.bp, h.bg⟩
theorem PW.more (h : PW w base q V S T p gb cap m f vl ls) (hm : m ≤ m') : PW w base q V S T p gb cap m' f vl ls := ⟨h.pq, h.em.more hm, h.ow, h.bq, h.bp, h.bg⟩
theorem PW.size (h : PW w base q V S T p gb cap m f vl ls) : base ≤ w.heap.size := Nat.le_of_lt (Nat.lt_of_le_of_lt h.bq h.pq.lt)
/-- .. whose list is another one. -/
theorem PW.list (h : PW w base q V S T p gb cap m f vl ls) (hO : OW w base vl' ls') : PW (w.setCell ⟨q, 7, none⟩ vl') base q V S T p gb cap m f vl' ls' := by
  refine ⟨?_, h.em.far h.pq (by decide) (by decide) _, ?_, h.bq, h.bp, h.bg⟩
  · exact Blk.set_ h.pq 7 vl'
  · refine hO.kept_of fun i hi => ?_
    rcases hO.shape with ⟨rfl, rfl⟩ | ⟨g, c, cs, rfl, hg, hz, _⟩
    · cases hi
    · have e : g = i := by injection hi
      subst e
      exact (hz.far (p := ⟨q, 7, none⟩) (Blk.ne_ hz h.pq (by decide)) _).trans hz.symm
/-- In a call on a play. -/
structure SX (w0 W : World) (base q ob lo : Nat) (V S T : Int) (p gb cap m : Nat) (f : Nat → Int) (vl : Value) (ls : List E1) (kd s u v l : Int) (t : Bool) : Prop where
  pw : PW W base q V S T p gb cap m f vl ls
  fo : Blk W ob 72 #[.int .i64 kd, .int .i64 s, .int .i64 u, .int .i64 v, .int .i64 l, .bool t]
  fl : Blk W lo 23 #[.int .i64 V, .int .i64 S, .int .i64 T]
  be : Below base w0 W
  ke : ∀ (i : Nat) (cs : Array Value), Blk w0 i 64 cs → Blk W i 64 cs
  kf : ∀ (i : Nat) (cs : Array Value), Blk w0 i 79 cs → (∀ v, w0.cell? ⟨q, 7, none⟩ = some v → v.ownBlock ≠ some i) → Blk W i 79 cs
theorem SX.below (h : SX w0 w base q ob lo V S T p gb cap m f vl ls kd s u v l t) (hb : Below w.heap.size w w') : SX w0 w' base q ob lo V S T p gb cap m f vl ls kd s u v l t := ⟨h.pw.below hb, h.fo.below hb h.fo.lt, h.fl.below hb h.fl.lt, h.be.trans (hb.mono h.pw.size), fun i cs hz => (h.ke i cs hz).below hb (h.ke i cs hz).lt, fun i cs hz hv => (h.kf i cs hz hv).below hb (h.kf i cs hz hv).lt⟩
theorem SX.drew (h : SX w0 w base q ob lo V S T p gb cap m f vl ls kd s u v l t) : SX w0 w.drew base q ob lo V S T p gb cap m f vl ls kd s u v l t := h.below (Below.refl _ _).drew
theorem SX.next (h : SX w0 w base q ob lo V S T p gb cap m f vl ls kd s u v l t) (hm : EM w' V S T p gb cap m' f') (ho : Only p gb w w') : SX w0 w' base q ob lo V S T p gb cap m' f' vl ls kd s u v l t :=
  ⟨h.pw.next hm ho, Blk.em h.fo h.pw.em ho (by decide) (by decide), Blk.em h.fl h.pw.em ho (by decide) (by decide), Only.below h.be ho h.pw.size h.pw.bp h.pw.bg, fun i cs hz => Blk.em (h.ke i cs hz) h.pw.em ho (by decide) (by decide), fun i cs hz hv => Blk.em (h.kf i cs hz hv) h.pw.em ho (by decide) (by decide)⟩
theorem SX.list (h : SX w0 w base q ob lo V S T p gb cap m f vl ls kd s u v l t) (hO : OW w base vl' ls') : SX w0 (w.setCell ⟨q, 7, none⟩ vl') base q ob lo V S T p gb cap m f vl' ls' kd s u v l t :=
  ⟨h.pw.list hO, Blk.far (p := ⟨q, 7, none⟩) h.fo (Blk.ne_ h.fo h.pw.pq (by decide)) _, Blk.far (p := ⟨q, 7, none⟩) h.fl (Blk.ne_ h.fl h.pw.pq (by decide)) _, h.be.setCell h.pw.bq _, fun i cs hz => Blk.far (p := ⟨q, 7, none⟩) (h.ke i cs hz) (Blk.ne_ (h.ke i cs hz) h.pw.pq (by decide)) _, fun i cs hz hv => Blk.far (p := ⟨q, 7, none⟩) (h.kf i cs hz hv) (Blk.ne_ (h.kf i cs hz hv) h.pw.pq (by decide)) _⟩
/-- What its regions read. -/
structure SQ (W : World) (ob lo q p : Nat) (V S T : Int) (vl : Value) (kd s u v l : Int) (t : Bool) : Prop where
  fo : Blk W ob 72 #[.int .i64 kd, .int .i64 s, .int .i64 u, .int .i64 v, .int .i64 l, .bool t]
  fl : Blk W lo 23 #[.int .i64 V, .int .i64 S, .int .i64 T]
  fq : PB11 W q V S T p vl
theorem SX.sq (h : SX w0 w base q ob lo V S T p gb cap m f vl ls kd s u v l t) : SQ w ob lo q p V S T vl kd s u v l t := ⟨h.fo, h.fl, h.pw.pq⟩
theorem SX.lt (h : SX w0 w base q ob lo V S T p gb cap m f vl ls kd s u v l t) : ob < w.heap.size ∧ lo < w.heap.size ∧ q < w.heap.size := ⟨h.fo.lt, h.fl.lt, h.pw.pq.lt⟩
theorem SQ.alloc (h : SQ w ob lo q p V S T vl kd s u v l t) (o : Obj) : SQ (w.alloc o) ob lo q p V S T vl kd s u v l t := ⟨h.fo.alloc o, h.fl.alloc o, Blk.alloc h.fq o⟩
theorem SQ.rule (ob lo q p : Nat) (V S T : Int) (vl : Value) (kd s u v l : Int) (t : Bool) : ∀ W : World, SQ W ob lo q p V S T vl kd s u v l t →
    (W.cell? ⟨ob, 0, none⟩ = some (.int .i64 kd) ∧ W.cell? ⟨ob, 1, none⟩ = some (.int .i64 s) ∧ W.cell? ⟨ob, 2, none⟩ = some (.int .i64 u) ∧ W.cell? ⟨ob, 3, none⟩ = some (.int .i64 v) ∧ W.cell? ⟨ob, 4, none⟩ = some (.int .i64 l) ∧ W.cell? ⟨ob, 5, none⟩ = some (.bool t)) ∧
    (W.cell? ⟨lo, 0, none⟩ = some (.int .i64 V) ∧ W.cell? ⟨lo, 1, none⟩ = some (.int .i64 S) ∧ W.cell? ⟨lo, 2, none⟩ = some (.int .i64 T)) ∧
    (W.cell? ⟨q, 0, none⟩ = some (.int .i64 V) ∧ W.cell? ⟨q, 1, none⟩ = some (.int .i64 S) ∧ W.cell? ⟨q, 2, none⟩ = some (.int .i64 T) ∧ W.cell? ⟨q, 3, none⟩ = some (.int .i64 V) ∧ W.cell? ⟨q, 4, none⟩ = some (.int .i64 S) ∧ W.cell? ⟨q, 5, none⟩ = some (.int .i64 T) ∧ W.cell? ⟨q, 6, none⟩ = some (.iface 95 (pmV p)) ∧ W.cell? ⟨q, 7, none⟩ = some vl) :=
  fun _ h => ⟨⟨h.fo.cell 0, h.fo.cell 1, h.fo.cell 2, h.fo.cell 3, h.fo.cell 4, h.fo.cell 5⟩, ⟨h.fl.cell 0, h.fl.cell 1, h.fl.cell 2⟩, h.fq.cells⟩
/-- What a call leaves. -/
def Kp5 (ls ls' : List E1) (s u v : Int) : Prop := ∀ x ∈ ls, (x.s : Int) ≠ s → ¬ ((x.u : Int) = min u v ∧ (x.v : Int) = max u v) → x ∈ ls'
def StD (w : World) (base q : Nat) (V S T : Int) (p gb cap m : Nat) (ls : List E1) (s u v : Int) (e : Ending) (w' : World) : Prop :=
  e = .returned (.tuple #[]) ∧ ∃ f' vl' ls', PW w' base q V S T p gb cap (m + 4) f' vl' ls' ∧ ER V S T f' ls' ∧ ls'.length ≤ ls.length + 1 ∧ Kp5 ls ls' s u v ∧ Below base w w' ∧ (∀ (i : Nat) (cs : Array Value), Blk w i 64 cs → Blk w' i 64 cs) ∧ ∀ (i : Nat) (cs : Array Value), Blk w i 79 cs → (∀ v, w.cell? ⟨q, 7, none⟩ = some v → v.ownBlock ≠ some i) → Blk w' i 79 cs
theorem SX.fin (h : SX w0 w base q ob lo V S T p gb cap m' f' vl' ls' kd s u v l t) (hE : ER V S T f' ls') (hm : m' ≤ m + 4) (hl : ls'.length ≤ ls.length + 1) (hk : Kp5 ls ls' s u v) : StD w0 base q V S T p gb cap m ls s u v (.returned (.tuple #[])) w := ⟨rfl, _, _, _, h.pw.more hm, hE, hl, hk, h.be, h.ke, h.kf⟩
theorem Kp5.refl (ls : List E1) (s u v : Int) : Kp5 ls ls s u v := fun _ h _ _ => h
/-- One of the list turns, in place. -/
theorem OW.turned {g c i j : Nat} {x y : E1} {uv : Value} (h : OW w base (.slice (some ⟨g, 0, none⟩) ls.length c) ls) (hi : ls[i]? = some x) (hj : j < 5) (hy : y.cells = x.cells.set j uv) : OW (w.setCell ⟨g, i * 5 + j, none⟩ uv) base (.slice (some ⟨g, 0, none⟩) ls.length c) (ls.set i y) := by
  have hil := (List.getElem?_eq_some_iff.1 hi).1
  rcases h.shape with ⟨e, _⟩ | ⟨g', c', cs, e, hg, hz, h1, h2, ⟨h3, h4⟩, _⟩
  · cases e
  · injection e with e1 e2 e3
    injection e1 with e1
    injection e1 with e1
    subst e1 e3
    have key : ∀ (L : List E1) (k : Nat), L[k]? = some x → flat5 (L.set k y) = (flat5 L).set (k * 5 + j) uv := by
      intro L
      induction L with
      | nil => intro k hk; simp at hk
      | cons a L ih =>
        intro k hk
        cases k with
        | zero =>
          simp at hk
          subst hk
          simp only [List.set_cons_zero, flat5, hy, Nat.zero_mul, Nat.zero_add]
          rw [List.set_append_left _ _ (by simp [E1.cells]; omega)]
        | succ k =>
          have := ih k (by simpa using hk)
          simp only [List.set_cons_succ, flat5, this]
          rw [List.set_append_right _ _ (by simp [E1.cells]; omega), show (k + 1) * 5 + j - a.cells.length = k * 5 + j by simp [E1.cells]; omega]
    have hlen : (ls.set i y).length = ls.length := List.length_set ..
    refine ⟨by rw [flat5_length], .inr ⟨g, c, cs.setIfInBounds (i * 5 + j) uv, by rw [hlen], hg, hz.set_ _ _, by rw [hlen]; exact h1, h2, by rw [Array.size_setIfInBounds]; exact h3, ?_⟩⟩
    rw [hlen, key ls i hi, ← h4, Array.toList_setIfInBounds, List.take_set]
end
section
variable {α : Type} {a b : α} {l : List α} {i : Nat}
theorem sq1 : l.toArray.setIfInBounds i a = (l.set i a).toArray := List.setIfInBounds_toArray ..
theorem sq2 : (a :: l).set 0 b = b :: l := rfl
theorem sq3 : (a :: l).set (i + 1) b = a :: l.set i b := rfl
theorem sq4 {h : i < l.toArray.size} : l.toArray[i] = l[i]'(by simpa using h) := rfl
theorem sq5 {h : 0 < (a :: l).length} : (a :: l)[0] = a := rfl
theorem sq6 {h : i + 1 < (a :: l).length} : (a :: l)[i + 1] = l[i]'(by simpa using h) := rfl
end
section
variable {P : Program} {ops : Array Oper} {Q : Exit → Act → World → Prop} {md : Region.Mode} {S : World → Prop}
/-- An operation that isn't run comes up first. -/
theorem tkF {i : Nat} {oi : Oper} {fuel : Nat} {listed : Array Bool} {a : Act} {w : World} (hi : ops[i]? = some oi) (h : wpAnyH P md ops Q S fuel (listed.setIfInBounds i true) (a.put oi.dst undef) w) (hs : Region.noSelect ops = true := by kernel_rfl) (hf : Region.free md ops listed i = true := by kernel_rfl) (hr : (Region.ready md ops listed).contains i = true := by kernel_rfl) (hQ : ∀ c a w, Q (.panic c) (a.put oi.dst undef) w → Q (.panic c) a w := by exact fun _ _ _ h => h) (hg : Region.wanted oi (yielded ops a.tmps) = false := by rfl) (hS : S w := by assumption) : wpAnyH P md ops Q S (fuel + 1) listed a w :=
  wpAnyH_take hi hs hf hr hQ (Or.inr ⟨hg, rfl⟩) hS h
/-- One that is run and leaves memory as it is. -/
theorem tkN {i : Nat} {oi : Oper} {v : Value} {fuel : Nat} {listed : Array Bool} {a : Act} {w : World} (hi : ops[i]? = some oi) (hy : ∀ w, S w → (execOp a.eval oi).run P w = .ok (.value v) w) (h : wpAnyH P md ops Q S fuel (listed.setIfInBounds i true) (a.put oi.dst v) w) (hs : Region.noSelect ops = true := by kernel_rfl) (hf : Region.free md ops listed i = true := by kernel_rfl) (hr : (Region.ready md ops listed).contains i = true := by kernel_rfl) (hQ : ∀ c a w, Q (.panic c) (a.put oi.dst v) w → Q (.panic c) a w := by exact fun _ _ _ h => h) (hg : Region.wanted oi (yielded ops a.tmps) = true := by rfl) (hS : S w := by assumption) : wpAnyH P md ops Q S (fuel + 1) listed a w :=
  wpAnyH_take hi hs hf hr hQ (Or.inl ⟨hg, hy⟩) hS h
end
end Go.Proofs.Ytahabfjngeicmaa
