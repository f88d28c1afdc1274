/- A set of integers as a map of the call's own; two rows compared. -/
import Derived.Test.YtjnnohajmblfkaaTrP
import Derived.Maps.OwnSet
namespace Go.Proofs.Ytjnnohajmblfkaa
open Go.RowKit

theorem mapLaw : Go.Maps.Keyed Try.prog 3 := Go.Maps.int_keyed Try.underlying3
theorem zeroB (w : World) : (zeroValue 4).run Try.prog w = .ok (.bool false) w := by kernel_rfl

/-- Block b is a map of at most m entries: true at just these integers. -/
def Sets (w : World) (b m : Nat) (zs : List Int) : Prop :=
  ∃ D : DataW Unit, w.ownsMap Try.prog 3 (plainElem Try.prog 4) b m D ∧ (∀ i, D.atKey (.int .i64 i) (.lit (.bool false)) = .lit (.bool (decide (i ∈ zs)))) ∧ (∀ i, Go.Maps.has D (.int .i64 i) = decide (i ∈ zs)) ∧ Go.Maps.size D = (risen zs).length

theorem risen_nodup (zs : List Int) : (risen zs).Nodup := (risen_rises zs).imp (fun h => Int.ne_of_lt h)

theorem risen_add (zs : List Int) (i : Int) : (risen (zs ++ [i])).length = if decide (i ∈ zs) = true then (risen zs).length else (risen zs).length + 1 := by
  have n1 := risen_nodup (zs ++ [i])
  have n2 := risen_nodup zs
  by_cases h : i ∈ zs
  · rw [if_pos (by simpa using h)]
    refine List.Perm.length_eq ((List.perm_ext_iff_of_nodup n1 n2).2 fun a => ?_)
    rw [mem_risen, mem_risen, List.mem_append, List.mem_singleton]
    constructor
    · rintro (ha | rfl)
      · exact ha
      · exact h
    · exact .inl
  · rw [if_neg (by simpa using h)]
    have n3 : (i :: risen zs).Nodup := List.nodup_cons.2 ⟨fun hm => h ((mem_risen zs i).1 hm), n2⟩
    have := List.Perm.length_eq ((List.perm_ext_iff_of_nodup n1 n3).2 fun a => by
      rw [mem_risen, List.mem_cons, mem_risen, List.mem_append, List.mem_singleton]
      exact Or.comm)
    simpa using this

section
variable {w w' : World} {b m : Nat} {zs : List Int}
theorem Sets.made (w : World) : Sets (w.alloc (.map #[] 0)) w.heap.size 0 [] := by
  refine ⟨.map [], World.ownsMap_made w _ _ _, fun i => ?_, fun i => ?_, ?_⟩
  · rw [Go.Maps.atKey_of_not_has rfl _]; simp
  · simp [Go.Maps.has_eq]
  · have := risen_length []
    simp only [List.length_nil] at this
    rw [Go.Maps.size_eq]
    simp only [List.length_nil]
    omega
theorem Sets.lt (h : Sets w b m zs) : b < w.heap.size := by
  obtain ⟨D, h, _⟩ := h
  exact h.lt
theorem Sets.kept_of (h : Sets w b m zs) (hb : w'.heap[b]? = w.heap[b]?) : Sets w' b m zs := by
  obtain ⟨D, ⟨es, clock, h1, r⟩, rest⟩ := h
  exact ⟨D, ⟨es, clock, hb.trans h1, r⟩, rest⟩
theorem Sets.ne_blk (h : Sets w b m zs) {i : Nat} {ty : TypeId} {cs : Array Value} (hi : Blk w i ty cs) : b ≠ i := by
  rintro rfl
  obtain ⟨D, ⟨es, clock, h1, _⟩, _⟩ := h
  unfold Blk at hi
  rw [hi] at h1
  cases h1
theorem Sets.ne_row (h : Sets w b m zs) {base : Nat} {v : Value} {xs : List AccV} (hr : RowA w base v xs) : some b ≠ v.ownBlock := by
  rcases hr.shape with ⟨rfl, _⟩ | ⟨g, cap, cs, rfl, _, hg, _⟩
  · simp [Value.ownBlock]
  · simp only [Value.ownBlock, ne_eq, Option.some.injEq]
    exact h.ne_blk hg
theorem Sets.more {m' : Nat} (h : Sets w b m zs) (hm : m ≤ m') : Sets w b m' zs := by
  obtain ⟨D, h1, r⟩ := h
  exact ⟨D, h1.mono hm, r⟩
theorem Sets.look (h : Sets w b m zs) {i : Int} (hi : -9223372036854775808 ≤ i ∧ i ≤ 9223372036854775807) : (Instr.lookup 31 (.map (some b)) (.int .i64 i) false).run Try.prog w = .ok (.bool (decide (i ∈ zs))) w := by
  obtain ⟨D, h1, h2, _⟩ := h
  obtain ⟨v, ps, hrun, hv⟩ := h1.lookup mapLaw Try.underlying31 (zeroB w) (plainElem_bool Try.underlying4 false) (Go.Maps.keyOf_int_mk (k := 3) (q := .i64) Try.underlying3 (WalkArith.wf_i64 hi))
  rw [h2 i] at hv
  have e : v = .bool (decide (i ∈ zs)) := by
    unfold plainElem at hv
    rw [Try.underlying4] at hv
    cases v <;> simp at hv
    rw [hv.1]
  rw [← e]
  exact hrun
theorem Sets.len (h : Sets w b m zs) (ty : TypeId) : (Builtin.len_ #[31] ty #[.map (some b)]).run Try.prog w = .ok (.int .i64 ((risen zs).length : Nat)) w := by
  obtain ⟨D, h1, _, _, h4⟩ := h
  rw [h1.len Try.underlying31 ty, h4]
end

theorem keyI {i : Int} : Go.WideAt.IsKeyLit (.int .i64 i) := by simp [Go.WideAt.IsKeyLit]

/-- A store into the map, at the operation. -/
theorem wpList_sets (w : World) {ops : Array Oper} {rest : List Oper} {o : Oper} {a : Act} {Q : Exit → Act → World → Prop} (hg : o.guard = none) (m x v : Operand) (hop : o.op = Op.mapUpdate 31 m x v)
    (b n : Nat) (zs : List Int) (hm : a.eval m = .map (some b)) (hs : Sets w b n zs) (hn : n < maxLen) (i : Int) (hi : -9223372036854775808 ≤ i ∧ i ≤ 9223372036854775807) (hx : a.eval x = .int .i64 i) (hv : a.eval v = .bool true)
    (hK : ∀ w', Sets w' b (n + 1) (zs ++ [i]) → w.grownBy w' (some b) → wpList Try.prog ops Q rest (a.put o.dst undef) w') : wpList Try.prog ops Q (o :: rest) a w := by
  obtain ⟨D, h1, h2, h3, h4⟩ := hs
  refine wpList_mapUpdate_own w hg m x v 31 hop 3 4 mapLaw Try.underlying31 _ b n D hm h1 hn _ _ (.int .i64 i) hx hv (Go.Maps.keyOf_int_mk (k := 3) (q := .i64) Try.underlying3 (WalkArith.wf_i64 hi)) _ [] (plainElem_bool Try.underlying4 true) ?_
  intro w' hown hgrow
  refine hK w' ⟨_, hown, fun j => ?_, fun j => ?_, ?_⟩ hgrow
  · by_cases e : j = i
    · subst e
      rw [Go.Maps.atKey_put_same h1.isMap keyI]
      simp
    · rw [Go.Maps.atKey_put_other (fun h => e (by cases h; rfl)), h2 j]
      simp [e]
  · by_cases e : j = i
    · subst e
      rw [Go.Maps.has_put_same h1.isMap keyI]
      simp
    · rw [Go.Maps.has_put_other (fun h => e (by cases h; rfl)), h3 j]
      simp [e]
  · rw [Go.Maps.size_put (h1.tidy mapLaw), h3 i, h4, risen_add]

/-- Two slices lie apart. -/
def RA (v u : Value) : Prop := ∀ i, v.ownBlock = some i → u.ownBlock ≠ some i
theorem RA.nil (u : Value) : RA (.slice none 0 0) u := fun i hi => by cases hi
theorem RA.symm {v u : Value} (h : RA v u) : RA u v := fun i hi hv => h i hv hi
theorem RA.step {v u v1 : Value} {sz : Nat} (h : RA v u) (hs : v1.ownBlock = v.ownBlock ∨ ∃ i, v1.ownBlock = some i ∧ sz ≤ i) (hu : ∀ i, u.ownBlock = some i → i < sz) : RA v1 u := by
  intro i hi hui
  rcases hs with hs | ⟨j, hj, hz⟩
  · exact h i (hs ▸ hi) hui
  · rw [hj] at hi
    cases hi
    have := hu _ hui
    omega

theorem isAcc_rowA {w : World} {base : Nat} {a : Option Addr} {cap : Nat} {xs : List AccV} (R : RowA w base (.slice a xs.length cap) xs) : IsAcc w a xs := by
  intro hne
  rcases R.shape with ⟨_, h⟩ | ⟨r, cap', cs, hv, _, hb, _, _, hcs⟩
  · exact absurd h hne
  · cases hv
    refine ⟨r, 0, rfl, fun k x hx => ?_⟩
    have := hcs k x hx
    rw [hb.cell, hb.cell, hb.cell]
    simpa using this
end Go.Proofs.Ytjnnohajmblfkaa
