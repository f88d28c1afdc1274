/- Words for a trace in memory: its own block, its arena, its row; and what a call of it may have turned. -/
import Derived.Test.YtjnnohajmblfkaaTrA
namespace Go.Proofs.Ytjnnohajmblfkaa
open Go.RowKit

/-- Of what was there, only these three blocks, and a row's, may have turned. -/
structure OnlyT (t p g : Nat) (r : Option Nat) (w w' : World) : Prop where
  os : w'.os = w.os
  tape : w'.tape = w.tape
  output : w'.output = w.output
  size : w.heap.size ≤ w'.heap.size
  block : ∀ i, i < w.heap.size → i ≠ t → i ≠ p → i ≠ g → some i ≠ r → w'.heap[i]? = w.heap[i]?

section
variable {t p g : Nat} {r : Option Nat}
theorem OnlyT.refl (w : World) : OnlyT t p g r w w := ⟨rfl, rfl, rfl, Nat.le_refl _, fun _ _ _ _ _ _ => rfl⟩
theorem OnlyT.trans {a b c : World} (h : OnlyT t p g r a b) (k : OnlyT t p g r b c) : OnlyT t p g r a c :=
  ⟨k.os.trans h.os, k.tape.trans h.tape, k.output.trans h.output, Nat.le_trans h.size k.size, fun i hi h1 h2 h3 h4 => (k.block i (Nat.lt_of_lt_of_le hi h.size) h1 h2 h3 h4).trans (h.block i hi h1 h2 h3 h4)⟩
theorem OnlyT.of_only {w w' : World} (h : Only p g w w') : OnlyT t p g r w w' := ⟨h.os, h.tape, h.output, h.size, fun i hi _ h2 h3 _ => h.block i hi h2 h3⟩
theorem OnlyT.of_grown {w w' : World} (h : w.grownBy w' r) : OnlyT t p g r w w' := ⟨h.os, h.tape, h.output, h.size, fun i hi _ _ _ h4 => h.block i hi h4⟩
theorem OnlyT.set_t {a w : World} (h : OnlyT t p g r a w) {j : Nat} (u : Value) : OnlyT t p g r a (w.setCell ⟨t, j, none⟩ u) :=
  ⟨h.os, h.tape, h.output, by simpa [World.setCell] using h.size, fun i hi h1 h2 h3 h4 => (Below.heap_setCell w ⟨t, j, none⟩ u i h1).trans (h.block i hi h1 h2 h3 h4)⟩
theorem OnlyT.alloc {a w : World} (h : OnlyT t p g r a w) (o : Obj) : OnlyT t p g r a (w.alloc o) :=
  ⟨h.os, h.tape, h.output, Nat.le_trans h.size (by simp), fun i hi h1 h2 h3 h4 => (Below.heap_alloc w o i (Nat.lt_of_lt_of_le hi h.size)).trans (h.block i hi h1 h2 h3 h4)⟩
theorem OnlyT.drew {a w : World} (h : OnlyT t p g r a w) : OnlyT t p g r a w.drew := ⟨h.os, h.tape, h.output, h.size, h.block⟩
theorem OnlyT.below {B : Nat} {a w w' : World} (hb : Below B a w) (h : OnlyT t p g r w w') (hB : B ≤ w.heap.size) (ht : B ≤ t) (hp : B ≤ p) (hg : B ≤ g) (hr : ∀ i, r = some i → B ≤ i) : Below B a w' :=
  ⟨h.os.trans hb.os, h.tape.trans hb.tape, h.output.trans hb.output, Nat.le_trans hb.size h.size, fun i hi => (h.block i (by omega) (by omega) (by omega) (by omega) (fun e => by have := hr i e.symm; omega)).trans (hb.block i hi)⟩
theorem Blk.onlyT {i : Nat} {w w' : World} {ty : TypeId} {cs : Array Value} (h : Blk w i ty cs) (ho : OnlyT t p g r w w') (h1 : i ≠ t) (h2 : i ≠ p) (h3 : i ≠ g) (h4 : some i ≠ r) : Blk w' i ty cs := (ho.block i h.lt h1 h2 h3 h4).trans h
end

/-- A row of accesses that is grown. -/
def RowA (w : World) (base : Nat) (v : Value) (xs : List AccV) : Prop := w.ownsRow base 37 3 v xs.length (flat xs)

section
variable {w w' : World} {base : Nat} {v : Value} {xs : List AccV}
theorem RowA.nil (w : World) (base : Nat) : RowA w base (.slice none 0 0) [] := World.ownsRow_nil _ _ _ _
theorem RowA.kept_of (h : RowA w base v xs) (hb : ∀ i, v.ownBlock = some i → w'.heap[i]? = w.heap[i]?) : RowA w' base v xs := by
  refine ⟨h.1, ?_⟩
  rcases h.2 with hn | ⟨g, cap, cur, rfl, hg, hgg, rest⟩
  · exact .inl hn
  · exact .inr ⟨g, cap, cur, rfl, hg, (hb g rfl).trans hgg, rest⟩
theorem RowA.lt (h : RowA w base v xs) : ∀ k, v.ownBlock = some k → base ≤ k ∧ k < w.heap.size := World.ownsRow.lt h
theorem RowA.drew (h : RowA w base v xs) : RowA w.drew base v xs := h
theorem RowA.alloc (h : RowA w base v xs) (o : Obj) : RowA (w.alloc o) base v xs := World.ownsRow.alloc h o
theorem RowA.shape (h : RowA w base v xs) : (v = .slice none 0 0 ∧ xs = []) ∨ ∃ g cap cs, v = .slice (some ⟨g, 0, none⟩) xs.length cap ∧ base ≤ g ∧ Blk w g 37 cs ∧ xs.length ≤ cap ∧ cap ≤ maxLen ∧
    ∀ k x, xs[k]? = some x → cs[k * 3]? = some (.bool x.s) ∧ cs[k * 3 + 1]? = some (.int .i64 x.c) ∧ cs[k * 3 + 2]? = some (.int .u64 x.v) := by
  rcases h.2 with ⟨rfl, h0⟩ | ⟨g, cap, cur, rfl, hg, hgg, h1, h2, h3, h4⟩
  · exact .inl ⟨rfl, List.eq_nil_of_length_eq_zero h0⟩
  · refine .inr ⟨g, cap, cur, rfl, hg, hgg, h1, h2, fun k x hx => ?_⟩
    have hf := flat_get xs hx
    have hk := (List.getElem?_eq_some_iff.1 hx).1
    have he : ∀ j, j < xs.length * 3 → cur[j]? = (flat xs)[j]? := fun j hj => by
      rw [← h4, List.getElem?_take_of_lt hj, Array.getElem?_toList]
    rw [he _ (by omega), he _ (by omega), he _ (by omega)]
    exact hf
theorem RowA.slice (h : RowA w base v xs) : ∃ a cap, v = .slice a xs.length cap := by
  rcases h.shape with ⟨rfl, rfl⟩ | ⟨g, cap, cs, rfl, _⟩
  · exact ⟨none, 0, rfl⟩
  · exact ⟨_, cap, rfl⟩
end

/-- A trace in memory. -/
structure Tr (w : World) (base t p g n cap : Nat) (c f : Nat → Int) (v : Value) (xs : List AccV) : Prop where
  own : Blk w t 63 #[.pointer (some ⟨p, 0, none⟩), v]
  ar : Ar w p g n cap c f
  row : RowA w base v xs
  pb : base ≤ p
  gb : base ≤ g
  tb : base ≤ t

section
variable {w w' : World} {base t p g n cap : Nat} {c f : Nat → Int} {v : Value} {xs : List AccV}
theorem Tr.t_lt (T : Tr w base t p g n cap c f v xs) : t < w.heap.size := T.own.lt
theorem Tr.c0 (T : Tr w base t p g n cap c f v xs) : w.cell? ⟨t, 0, none⟩ = some (.pointer (some ⟨p, 0, none⟩)) := T.own.cell 0
theorem Tr.c1 (T : Tr w base t p g n cap c f v xs) : w.cell? ⟨t, 1, none⟩ = some v := T.own.cell 1
theorem Tr.fz (T : Tr w base t p g n cap c f v xs) (i : Nat) : w.frozen? ⟨t, i, none⟩ = false := T.own.frozen i
theorem Tr.t_ne_p (T : Tr w base t p g n cap c f v xs) : t ≠ p := T.own.ne_ T.ar.own (by decide)
theorem Tr.t_ne_g (T : Tr w base t p g n cap c f v xs) : t ≠ g := by
  obtain ⟨zs, hz, _⟩ := T.ar.cells
  exact T.own.ne_ hz (by decide)
theorem RowA.ne_blk {i : Nat} {ty : TypeId} {cs : Array Value} (h : RowA w base v xs) (hi : Blk w i ty cs) (hty : ty ≠ 37) : some i ≠ v.ownBlock := by
  rcases h.shape with ⟨rfl, _⟩ | ⟨g, cap, cs, rfl, _, hg, _⟩
  · simp [Value.ownBlock]
  · simp only [Value.ownBlock, ne_eq, Option.some.injEq]
    exact hi.ne_ hg hty
theorem Tr.t_ne_r (T : Tr w base t p g n cap c f v xs) : some t ≠ v.ownBlock := T.row.ne_blk T.own (by decide)
theorem Tr.p_ne_r (T : Tr w base t p g n cap c f v xs) : some p ≠ v.ownBlock := T.row.ne_blk T.ar.own (by decide)
theorem Tr.g_ne_r (T : Tr w base t p g n cap c f v xs) : some g ≠ v.ownBlock := by
  obtain ⟨zs, hz, _⟩ := T.ar.cells
  exact T.row.ne_blk hz (by decide)
theorem Tr.below {B : Nat} (T : Tr w base t p g n cap c f v xs) (hb : Below B w w') (hB : w.heap.size ≤ B) : Tr w' base t p g n cap c f v xs :=
  ⟨T.own.below hb (Nat.lt_of_lt_of_le T.t_lt hB), T.ar.below hb hB, T.row.kept_of fun i hi => hb.block i (Nat.lt_of_lt_of_le (T.row.lt i hi).2 hB), T.pb, T.gb, T.tb⟩
theorem Tr.drew (T : Tr w base t p g n cap c f v xs) : Tr w.drew base t p g n cap c f v xs := ⟨T.own, T.ar.drew, T.row, T.pb, T.gb, T.tb⟩
theorem Tr.drewN (T : Tr w base t p g n cap c f v xs) (k : Nat) : Tr (w.drewN k) base t p g n cap c f v xs := ⟨T.own, T.ar.drewN k, T.row, T.pb, T.gb, T.tb⟩
theorem Tr.alloc (T : Tr w base t p g n cap c f v xs) (o : Obj) : Tr (w.alloc o) base t p g n cap c f v xs := ⟨T.own.alloc o, T.ar.alloc o, T.row.alloc o, T.pb, T.gb, T.tb⟩
/-- An access of another arena. -/
theorem Tr.only {p' g' : Nat} (T : Tr w base t p g n cap c f v xs) {n' cap' : Nat} {c' f' : Nat → Int} (A : Ar w p' g' n' cap' c' f') (ho : Only p' g' w w') (h1 : p ≠ p') (h2 : g ≠ g') : Tr w' base t p g n cap c f v xs := by
  obtain ⟨zs, hz, _⟩ := A.cells
  obtain ⟨zs', hz', _⟩ := T.ar.cells
  have a1 : t ≠ p' := T.own.ne_ A.own (by decide)
  have a2 : t ≠ g' := T.own.ne_ hz (by decide)
  have a3 : p ≠ g' := T.ar.own.ne_ hz (by decide)
  have a4 : g ≠ p' := fun e => (A.own.ne_ hz' (by decide)) e.symm
  refine ⟨T.own.only ho a1 a2, T.ar.only ho h1 a3 a4 h2, T.row.kept_of fun i hi => ho.block i (T.row.lt i hi).2 ?_ ?_, T.pb, T.gb, T.tb⟩
  · rintro rfl; exact (T.row.ne_blk A.own (by decide)) hi.symm
  · rintro rfl; exact (T.row.ne_blk hz (by decide)) hi.symm
/-- An arena beside a trace, behind a call of the trace. -/
theorem Ar.onlyT {t p g n cap : Nat} {c f : Nat → Int} {v : Value} {xs : List AccV} {p' g' n' cap' : Nat} {c' f' : Nat → Int} (A : Ar w p' g' n' cap' c' f') (T : Tr w base t p g n cap c f v xs) (ho : OnlyT t p g v.ownBlock w w') (h1 : p' ≠ p) (h2 : g' ≠ g) : Ar w' p' g' n' cap' c' f' := by
  obtain ⟨zs, hz, he⟩ := A.cells
  obtain ⟨zs', hz', _⟩ := T.ar.cells
  have a1 : p' ≠ t := A.own.ne_ T.own (by decide)
  have a2 : p' ≠ g := A.own.ne_ hz' (by decide)
  have a3 : g' ≠ t := hz.ne_ T.own (by decide)
  have a4 : g' ≠ p := hz.ne_ T.ar.own (by decide)
  exact ⟨A.own.onlyT ho a1 h1 a2 (T.row.ne_blk A.own (by decide)), ⟨zs, hz.onlyT ho a3 a4 h2 (T.row.ne_blk hz (by decide)), he⟩, A.le, A.few, A.fit⟩
/-- A trace beside another one, behind a call of that. -/
theorem Tr.onlyT {base' t' p' g' n' cap' : Nat} {c' f' : Nat → Int} {v' : Value} {xs' : List AccV} (T : Tr w base t p g n cap c f v xs) (T' : Tr w base' t' p' g' n' cap' c' f' v' xs') (ho : OnlyT t' p' g' v'.ownBlock w w')
    (h0 : t ≠ t') (h1 : p ≠ p') (h2 : g ≠ g') (h3 : ∀ i, v.ownBlock = some i → v'.ownBlock ≠ some i) : Tr w' base t p g n cap c f v xs := by
  obtain ⟨zs, hz, _⟩ := T'.ar.cells
  have a1 : t ≠ p' := T.own.ne_ T'.ar.own (by decide)
  have a2 : t ≠ g' := T.own.ne_ hz (by decide)
  refine ⟨T.own.onlyT ho h0 a1 a2 (T'.row.ne_blk T.own (by decide)), T.ar.onlyT T' ho h1 h2, T.row.kept_of fun i hi => ho.block i (T.row.lt i hi).2 ?_ ?_ ?_ (fun e => h3 i hi e.symm), T.pb, T.gb, T.tb⟩
  · rintro rfl; exact (T.row.ne_blk T'.own (by decide)) hi.symm
  · rintro rfl; exact (T.row.ne_blk T'.ar.own (by decide)) hi.symm
  · rintro rfl; exact (T.row.ne_blk hz (by decide)) hi.symm
end
end Go.Proofs.Ytjnnohajmblfkaa
