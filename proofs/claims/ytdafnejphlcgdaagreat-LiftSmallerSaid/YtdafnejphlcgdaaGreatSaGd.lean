/- Gd: what LfPSmaller leans on. Printed by wip/tools/slim13.py. -/
import Derived.Test.YtdafnejphlcgdaaGreatSaGa
import Derived.Test.YtdafnejphlcgdaaGreatSaZB
import Derived.Maps.AppendAt
import Derived.Test.YtdafnejphlcgdaaGreatSaZA
import Derived.Laws.OwnMore
import Derived.Deep.OwnRows
import Derived.OwnWalk
import Derived.Deep.AppendLies
import Derived.DeepKeys3
import Derived.BigQuiet

namespace Go.Proofs.YtdafnejphlcgdaaGreat
open Go.RowKit

set_option maxRecDepth 100000

def E1.cells (x : E1) : List Value := [.int .i64 (x.s : Int), .int .i64 (x.u : Int), .int .i64 (x.v : Int), .int .i64 (x.l : Int), .bool x.t]
def flat5 : List E1 → List Value
  | [] => []
  | x :: xs => x.cells ++ flat5 xs
theorem flat5_append (xs ys : List E1) : flat5 (xs ++ ys) = flat5 xs ++ flat5 ys := by
  induction xs with
  | nil => rfl
  | cons x xs ih => simp [flat5, ih]
theorem flat5_one (x : E1) : flat5 [x] = x.cells := by simp [flat5]
theorem flat5_length (xs : List E1) : (flat5 xs).length = xs.length * 5 := by
  induction xs with
  | nil => rfl
  | cons x xs ih => simp [flat5, E1.cells, ih]; omega
theorem flat5_get (xs : List E1) {k : Nat} {x : E1} (h : xs[k]? = some x) :
    (flat5 xs)[k * 5]? = some (.int .i64 (x.s : Int)) ∧ (flat5 xs)[k * 5 + 1]? = some (.int .i64 (x.u : Int)) ∧ (flat5 xs)[k * 5 + 2]? = some (.int .i64 (x.v : Int)) ∧ (flat5 xs)[k * 5 + 3]? = some (.int .i64 (x.l : Int)) ∧ (flat5 xs)[k * 5 + 4]? = some (.bool x.t) := by
  induction xs generalizing k with
  | nil => simp at h
  | cons y ys ih =>
    cases k with
    | zero => simp at h; subst h; simp [flat5, E1.cells]
    | succ k =>
      have h' := ih (k := k) (by simpa using h)
      have e : (k + 1) * 5 = k * 5 + 5 := by omega
      rw [e, show k * 5 + 5 + 1 = (k * 5 + 1) + 5 by omega, show k * 5 + 5 + 2 = (k * 5 + 2) + 5 by omega, show k * 5 + 5 + 3 = (k * 5 + 3) + 5 by omega, show k * 5 + 5 + 4 = (k * 5 + 4) + 5 by omega]
      simp only [flat5, E1.cells, List.cons_append, List.nil_append, List.getElem?_cons_succ]
      exact h'
theorem flat5_cell (xs : List E1) : ∀ u ∈ flat5 xs, u.oneCell' = true := by
  induction xs with
  | nil => intro u hu; cases hu
  | cons x xs ih =>
    intro u hu
    simp only [flat5, E1.cells, List.cons_append, List.nil_append, List.mem_cons] at hu
    rcases hu with rfl | rfl | rfl | rfl | rfl | hu
    · rfl
    · rfl
    · rfl
    · rfl
    · rfl
    · exact ih u hu
theorem info_edge13 : (Tryz.prog.info? 56).map (fun i => (i.zero, i.size, i.bytes)) = some (some (.agg #[.int .i64 0, .int .i64 0, .int .i64 0, .int .i64 0, .bool false]), 5, 40) := by kernel_rfl
/-- Edges in a slice of one's own. -/
def EW (w : World) (base : Nat) (v : Value) (l : List E1) : Prop := w.ownsRow base 56 5 v l.length (flat5 l)
section
variable {w w' : World} {base : Nat} {v : Value} {l l2 : List E1}
theorem EW.nil (w : World) (base : Nat) : EW w base (.slice none 0 0) [] := World.ownsRow_nil _ _ _ _
theorem EW.empty (w : World) : EW (w.alloc (.cells #[] 56)) w.heap.size (.slice (some ⟨w.heap.size, 0, none⟩) 0 0) [] :=
  ⟨rfl, .inr ⟨_, 0, #[], rfl, Nat.le_refl _, Blk.new w _ _, Nat.le_refl _, by simp [maxLen], rfl, rfl⟩⟩
theorem EW.lt (h : EW w base v l) : ∀ k, v.ownBlock = some k → base ≤ k ∧ k < w.heap.size := World.ownsRow.lt h
theorem EW.alloc (h : EW w base v l) (o : Obj) : EW (w.alloc o) base v l := World.ownsRow.alloc h o
theorem EW.kept_of (h : EW w base v l) (hb : ∀ i, v.ownBlock = some i → w'.heap[i]? = w.heap[i]?) : EW w' base v l := by
  refine ⟨h.1, ?_⟩
  rcases h.2 with hn | ⟨g, cap, cur, rfl, hg, hgg, rest⟩
  · exact .inl hn
  · exact .inr ⟨g, cap, cur, rfl, hg, (hb g rfl).trans hgg, rest⟩
theorem EW.below (h : EW w base v l) (hb : Below w.heap.size w w') : EW w' base v l := h.kept_of fun i hi => hb.block i (h.lt i hi).2
theorem EW.drew (h : EW w base v l) : EW w.drew base v l := h
theorem EW.less {base' : Nat} (h : EW w base v l) (hb : base' ≤ base) : EW w base' v l := by
  refine ⟨h.1, ?_⟩
  rcases h.2 with hn | ⟨g, cap, cur, rfl, hg, hgg, rest⟩
  · exact .inl hn
  · exact .inr ⟨g, cap, cur, rfl, Nat.le_trans hb hg, hgg, rest⟩
theorem EW.shape (h : EW w base v l) : (v = .slice none 0 0 ∧ l = []) ∨ ∃ g cap cs, v = .slice (some ⟨g, 0, none⟩) l.length cap ∧ base ≤ g ∧ Blk w g 56 cs ∧ l.length ≤ cap ∧ cap ≤ maxLen ∧
    (cs.size = cap * 5 ∧ cs.toList.take (l.length * 5) = flat5 l) ∧
    ∀ k x, l[k]? = some x → cs[k * 5]? = some (.int .i64 (x.s : Int)) ∧ cs[k * 5 + 1]? = some (.int .i64 (x.u : Int)) ∧ cs[k * 5 + 2]? = some (.int .i64 (x.v : Int)) ∧ cs[k * 5 + 3]? = some (.int .i64 (x.l : Int)) ∧ cs[k * 5 + 4]? = some (.bool x.t) := by
  rcases h.2 with ⟨rfl, h0⟩ | ⟨g, cap, cur, rfl, hg, hgg, h1, h2, h3, h4⟩
  · exact .inl ⟨rfl, List.eq_nil_of_length_eq_zero h0⟩
  · refine .inr ⟨g, cap, cur, rfl, hg, hgg, h1, h2, ⟨h3, h4⟩, fun k x hx => ?_⟩
    have hf := flat5_get l hx
    have hk := (List.getElem?_eq_some_iff.1 hx).1
    have he : ∀ j, j < l.length * 5 → cur[j]? = (flat5 l)[j]? := fun j hj => by
      rw [← h4, List.getElem?_take_of_lt hj, Array.getElem?_toList]
    rw [he _ (by omega), he _ (by omega), he _ (by omega), he _ (by omega), he _ (by omega)]
    exact hf
theorem EW.slice (h : EW w base v l) : ∃ a cap, v = .slice a l.length cap := by
  rcases h.shape with ⟨rfl, rfl⟩ | ⟨g, cap, cs, rfl, _⟩
  · exact ⟨none, 0, rfl⟩
  · exact ⟨_, cap, rfl⟩
/-- One of the list. -/
theorem EW.at {k : Nat} {x : E1} (h : EW w base v l) (hk : l[k]? = some x) : ∃ g cap, v = .slice (some ⟨g, 0, none⟩) l.length cap ∧ base ≤ g ∧ g < w.heap.size ∧ (∀ i, w.frozen? ⟨g, i, none⟩ = false) ∧ w.cell? ⟨g, k * 5, none⟩ = some (.int .i64 (x.s : Int)) ∧ w.cell? ⟨g, k * 5 + 1, none⟩ = some (.int .i64 (x.u : Int)) ∧ w.cell? ⟨g, k * 5 + 2, none⟩ = some (.int .i64 (x.v : Int)) ∧ w.cell? ⟨g, k * 5 + 3, none⟩ = some (.int .i64 (x.l : Int)) ∧ w.cell? ⟨g, k * 5 + 4, none⟩ = some (.bool x.t) := by
  rcases h.shape with ⟨rfl, rfl⟩ | ⟨g, cap, cs, rfl, hb, hz, _, _, _, hc⟩
  · simp at hk
  · obtain ⟨a, b, c, d, e⟩ := hc k x hk
    exact ⟨g, cap, rfl, hb, hz.lt, hz.frozen, (hz.cell _).trans a, (hz.cell _).trans b, (hz.cell _).trans c, (hz.cell _).trans d, (hz.cell _).trans e⟩
/-- append of edges onto edges of one's own. -/
theorem run_append_ew (h : EW w base v l) (ad : Addr) (n c : Nat) (hn : n = l2.length) (hc : ∀ (j : Nat) (u : Value), (flat5 l2)[j]? = some u → w.cell? (ad.add j) = some u) (hl : l.length + l2.length ≤ 100000) (hb : base ≤ w.heap.size) (ty : TypeId) :
    ∃ v' w', (Builtin.append_ #[52, 52] ty #[v, .slice (some ad) n c]).run Tryz.prog w = .ok v' w' ∧ EW w' base v' (l ++ l2) ∧ w.grownBy w' v.ownBlock := by
  obtain ⟨i0, hi0, hz0, hz1, hz2⟩ := info_parts info_edge13
  subst hn
  obtain ⟨v', w', hrun, h1, h2, _⟩ := run_append_own_at (P := Tryz.prog) w base 52 ty 56 i0 _ 5 40 Tryz.underlying52 hi0 hz0 hz1 hz2 rfl (by omega) v l.length (flat5 l) h ad l2.length c (flat5 l2) (flat5_length l2) hc (flat5_cell l2) (by simp only [maxLen]; omega) (by omega) hb
  refine ⟨v', w', hrun, ?_, h2⟩
  unfold EW; rw [List.length_append, flat5_append]; exact h1
theorem step_append_ew {ops : Array Oper} {o : Oper} {a : Act} {K : Act → World → Prop} {Q : Exit → Act → World → Prop} {E : Prop} (hgd : o.guard = none) (s x : Operand)
    (ho : o.op = .call { callee := .builtin .append, args := #[s, x], argTypes := #[52, 52] })
    (hs : a.eval s = v) (h : EW w base v l) (ad : Addr) (n c : Nat) (hn : n = l2.length) (hv : a.eval x = .slice (some ad) n c) (hc : ∀ (j : Nat) (u : Value), (flat5 l2)[j]? = some u → w.cell? (ad.add j) = some u) (hl : l.length + l2.length ≤ 100000) (hb : base ≤ w.heap.size)
    (hK : ∀ v' w', EW w' base v' (l ++ l2) → w.grownBy w' v.ownBlock → K (a.put o.dst v') w') :
    if Region.wanted o (yielded ops a.tmps) = true then Oper.wp Tryz.prog o a w K Q else E := by
  have hw : Region.wanted o (yielded ops a.tmps) = true := by simp [Region.wanted, hgd]
  rw [if_pos hw]
  obtain ⟨v', w', hr, h2, h3⟩ := run_append_ew h ad n c hn hc hl hb o.type
  unfold Oper.wp execOp
  simp only [ho, resolve, invoke, builtin, Sem.run_bind, Sem.run_pure, Result.andThen_ok, List.map_toArray, List.map_cons, List.map_nil, hs, hv, hr]
  exact hK v' w' h2 h3
end
theorem news13 (w : World) (x : E1) : ∀ (j : Nat) (u : Value), (flat5 [x])[j]? = some u → (w.alloc (.cells #[.int .i64 (x.s : Int), .int .i64 (x.u : Int), .int .i64 (x.v : Int), .int .i64 (x.l : Int), .bool x.t] 56)).cell? ((⟨w.heap.size, 0, none⟩ : Addr).add j) = some u := by
  intro j u hj
  rw [Addr.add_lit, Nat.zero_add, (Blk.new w _ _).cell]
  rw [flat5_one] at hj
  rw [← hj, ← Array.getElem?_toList]
  rfl
end Go.Proofs.YtdafnejphlcgdaaGreat

namespace Go.Proofs.YtdafnejphlcgdaaGreat
open Go.RowKit

/-- A name: what it is, and up to three numbers. -/
structure Nm where
  k : Int
  a : Int
  b : Int
  c : Int
def Nm.row (m : Nm) : List Value := [.int .i64 m.k, .int .i64 m.a, .int .i64 m.b, .int .i64 m.c]
end Go.Proofs.YtdafnejphlcgdaaGreat

namespace Go.Proofs.YtdafnejphlcgdaaGreat
open Go.RowKit

set_option maxRecDepth 100000

/-- A book's parts. -/
structure BkV where
  V : Int
  S : Int
  T : Int
  gn : Nat
  nn : Nat
  cn : Nat
  cb : Nat
  cl : Nat
  cc : Nat
  wb : Nat
  ga : Nat
  na : Nat
  ca : Nat
end Go.Proofs.YtdafnejphlcgdaaGreat
