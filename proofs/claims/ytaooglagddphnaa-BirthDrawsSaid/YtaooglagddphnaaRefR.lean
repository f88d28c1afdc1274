/- Rows of names in memory. -/
import Derived.Test.YtaooglagddphnaaZA
import Derived.Laws.OwnMore
import Derived.Deep.OwnRows
import Derived.Maps.AppendAt
import Derived.OwnWalk
import Derived.Deep.AppendLies
namespace Go.Proofs.Ytaooglagddphnaa
open Go.RowKit

/-- A name: what it is, and up to three numbers. -/
structure Nm where
  k : Int
  a : Int
  b : Int
  c : Int
def Nm.row (m : Nm) : List Value := [.int .i64 m.k, .int .i64 m.a, .int .i64 m.b, .int .i64 m.c]
def flat : List Nm → List Value
  | [] => []
  | m :: r => .int .i64 m.k :: .int .i64 m.a :: .int .i64 m.b :: .int .i64 m.c :: flat r
theorem flatN_len : ∀ l : List Nm, (flat l).length = l.length * 4
  | [] => rfl
  | _ :: r => by simp only [flat, List.length_cons, flatN_len r]; omega
theorem flat_append : ∀ l r : List Nm, flat (l ++ r) = flat l ++ flat r
  | [], _ => rfl
  | m :: l, r => by simp only [flat, List.cons_append, flat_append l r]
theorem flatN_one : ∀ (l : List Nm), ∀ u ∈ flat l, u.oneCell' = true
  | [], _, h => by cases h
  | m :: r, u, h => by
    simp only [flat, List.mem_cons] at h
    rcases h with rfl | rfl | rfl | rfl | h
    · rfl
    · rfl
    · rfl
    · rfl
    · exact flatN_one r u h
theorem flat_at : ∀ (l : List Nm) (k : Nat) (m : Nm), l[k]? = some m → (flat l)[k * 4]? = some (.int .i64 m.k) ∧ (flat l)[k * 4 + 1]? = some (.int .i64 m.a) ∧ (flat l)[k * 4 + 2]? = some (.int .i64 m.b) ∧ (flat l)[k * 4 + 3]? = some (.int .i64 m.c)
  | [], k, m, h => by simp at h
  | x :: r, 0, m, h => by
    simp only [List.getElem?_cons_zero, Option.some.injEq] at h
    subst h
    exact ⟨rfl, rfl, rfl, rfl⟩
  | x :: r, k + 1, m, h => by
    simp only [List.getElem?_cons_succ] at h
    have := flat_at r k m h
    rw [show (k + 1) * 4 = k * 4 + 1 + 1 + 1 + 1 by omega]
    simpa [flat, List.getElem?_cons_succ, show k * 4 + 1 + 1 + 1 + 1 + 1 = (k * 4 + 1) + 1 + 1 + 1 + 1 by omega, show k * 4 + 1 + 1 + 1 + 1 + 2 = (k * 4 + 2) + 1 + 1 + 1 + 1 by omega, show k * 4 + 1 + 1 + 1 + 1 + 3 = (k * 4 + 3) + 1 + 1 + 1 + 1 by omega] using this

/-- A row of names of the call's own. -/
def Row (w : World) (base : Nat) (v : Value) (l : List Nm) : Prop := w.ownsRow base 114 4 v l.length (flat l)
theorem rowN_nil (w : World) (base : Nat) : Row w base (.slice none 0 0) [] := World.ownsRow_nil w base _ _
theorem Row.below {w w' : World} {base : Nat} {v : Value} {l : List Nm} (h : Row w base v l) (hb : Below w.heap.size w w') : Row w' base v l :=
  World.ownsRow.kept (row := none) h ⟨hb.os, hb.tape, hb.output, hb.size, fun i hi _ => hb.block i hi⟩ (by cases e : v.ownBlock with | none => exact .inl rfl | some _ => exact .inr (by simp))
theorem Row.alloc {w : World} {base : Nat} {v : Value} {l : List Nm} (h : Row w base v l) (o : Obj) : Row (w.alloc o) base v l := World.ownsRow.alloc h o
theorem Row.drew {w : World} {base : Nat} {v : Value} {l : List Nm} (h : Row w base v l) : Row w.drew base v l := h

theorem info_name : (Try.prog.info? 114).map (fun i => (i.zero, i.size, i.bytes)) = some (some (.agg #[.int .i64 0, .int .i64 0, .int .i64 0, .int .i64 0]), 4, 32) := by kernel_rfl

theorem wpList_append_names {w : World} {ops : Array Oper} {rest : List Oper} {o : Oper} {ac : Act} {Q : Exit → Act → World → Prop} (hgd : o.guard = none) (s x : Operand)
    (ho : o.op = .call { callee := .builtin .append, args := #[s, x], argTypes := #[74, 74] })
    (base : Nat) (v : Value) (l ns : List Nm) (hs : ac.eval s = v) (hown : Row w base v l) (b m : Nat) (hx : ac.eval x = .slice (some ⟨b, 0, none⟩) m m) (hm : ns.length = m)
    (hb : Blk w b 114 (flat ns).toArray) (few : l.length + m ≤ 100000) (hbase : base ≤ w.heap.size)
    (h : ∀ v' w', Row w' base v' (l ++ ns) → Below base w w' → wpList Try.prog ops Q rest (ac.put o.dst v') w') :
    wpList Try.prog ops Q (o :: rest) ac w := by
  obtain ⟨i0, hi0, hz0, hz1, hz2⟩ := info_parts info_name
  refine wpList_append_own_at w hgd s x 74 ho base 114 i0 _ 4 32 Try.underlying74 hi0 hz0 hz1 hz2 rfl (by omega) v l.length (flat l) hs hown ⟨b, 0, none⟩ m m (flat ns) hx (by rw [flatN_len, hm]) ?_ (flatN_one ns) (by simp only [maxLen]; omega) (by omega) hbase ?_
  · intro j u hj
    rw [Addr.add_lit, Nat.zero_add, hb.cell j, List.getElem?_toArray]
    exact hj
  · intro v' w' h2 h3 _ _
    refine h v' w' ?_ ((Below.refl base w).grown h3 hbase (fun k hk => (hown.lt k hk).1))
    unfold Row
    rw [List.length_append, flat_append, hm]
    exact h2

/-- One name in memory, as the k-th of a row. -/
def NmAt (W : World) (g k : Nat) (m : Nm) : Prop := W.cell? ⟨g, k * 4, none⟩ = some (.int .i64 m.k) ∧ W.cell? ⟨g, k * 4 + 1, none⟩ = some (.int .i64 m.a) ∧ W.cell? ⟨g, k * 4 + 2, none⟩ = some (.int .i64 m.b) ∧ W.cell? ⟨g, k * 4 + 3, none⟩ = some (.int .i64 m.c)
theorem NmAt.below {W W' : World} {B g k : Nat} {m : Nm} (h : NmAt W g k m) (hb : Below B W W') (hg : g < B) : NmAt W' g k m :=
  ⟨(hb.cell (p := ⟨g, k * 4, none⟩) hg).trans h.1, (hb.cell (p := ⟨g, k * 4 + 1, none⟩) hg).trans h.2.1, (hb.cell (p := ⟨g, k * 4 + 2, none⟩) hg).trans h.2.2.1, (hb.cell (p := ⟨g, k * 4 + 3, none⟩) hg).trans h.2.2.2⟩

/-- All names of a list are as they should be. -/
def Out (P : Nm → Nat → Prop) (l : List Nm) : Prop := ∀ k m, l[k]? = some m → P m k
theorem out_nil (P : Nm → Nat → Prop) : Out P [] := fun k m h => by simp at h
theorem Out.snoc {P : Nm → Nat → Prop} {l : List Nm} (h : Out P l) {m : Nm} (hm : P m l.length) : Out P (l ++ [m]) := by
  intro k x hk
  rcases Nat.lt_trichotomy k l.length with c | c | c
  · rw [List.getElem?_append_left c] at hk; exact h k x hk
  · subst c; simp at hk; subst hk; exact hm
  · rw [List.getElem?_append_right (by omega), List.getElem?_eq_none (by simp; omega)] at hk; cases hk
theorem Out.two {P : Nm → Nat → Prop} {l : List Nm} (h : Out P l) {m m' : Nm} (hm : P m l.length) (hm' : P m' (l.length + 1)) : Out P (l ++ [m, m']) := by
  have := (h.snoc hm).snoc (m := m') (by simpa using hm')
  simpa using this

/-- What a call tells that makes a row of n names. -/
def Named (P : Nm → Nat → Prop) (n : Nat) (w : World) (e : Ending) (w' : World) : Prop :=
  ∃ (g cap : Nat) (f : Nat → Nm), e = .returned (.slice (some ⟨g, 0, none⟩) n cap) ∧ n ≤ cap ∧ w.heap.size ≤ g ∧ g < w'.heap.size ∧ (∀ k, k < n → NmAt w' g k (f k) ∧ P (f k) k) ∧ Below w.heap.size w w'
theorem named_of {P : Nm → Nat → Prop} {w w' : World} {base : Nat} {v : Value} {l : List Nm} (h : Row w' base v l) (hb : w.heap.size ≤ base) (hn : 0 < l.length) (ho : Out P l) (hw : Below w.heap.size w w') : Named P l.length w (.returned v) w' := by
  obtain ⟨_, ⟨_, h0⟩ | ⟨g, cap, cur, rfl, hg, hh, hc, _, hcs, htake⟩⟩ := h
  · omega
  · have hgl : g < w'.heap.size := Blk.lt (w := w') (t := 114) (cs := cur) hh
    refine ⟨g, cap, fun k => (l[k]?).getD ⟨0, 0, 0, 0⟩, rfl, hc, by omega, hgl, fun k hk => ?_, hw⟩
    have e : l[k]? = some l[k] := List.getElem?_eq_getElem hk
    have e2 : (fun k => (l[k]?).getD ⟨0, 0, 0, 0⟩) k = l[k] := by simp only [e, Option.getD_some]
    have cell : ∀ j u, j < l.length * 4 → (flat l)[j]? = some u → w'.cell? ⟨g, j, none⟩ = some u := by
      intro j u hj hu
      rw [Blk.cell (w := w') (t := 114) (cs := cur) hh, ← Array.getElem?_toList, ← List.getElem?_take_of_lt hj, htake]
      exact hu
    have q := flat_at l k _ e
    rw [e2]
    exact ⟨⟨cell _ _ (by omega) q.1, cell _ _ (by omega) q.2.1, cell _ _ (by omega) q.2.2.1, cell _ _ (by omega) q.2.2.2⟩, ho k _ e⟩
end Go.Proofs.Ytaooglagddphnaa
