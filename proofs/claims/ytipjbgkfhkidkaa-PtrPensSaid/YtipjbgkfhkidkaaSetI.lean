/- A map[int]bool of the call's own, as a set of integers. -/
import Derived.Test.YtipjbgkfhkidkaaTrB
import Derived.Maps.OwnSet
namespace Go.Proofs.Ytipjbgkfhkidkaa
open Go.RowKit

set_option maxRecDepth 100000

theorem mapLawI : Go.Maps.Keyed Try.prog 3 := Go.Maps.int_keyed Try.underlying3
theorem zeroBI (w : World) : (zeroValue 4).run Try.prog w = .ok (.bool false) w := by kernel_rfl
theorem keyII {i : Int} : Go.WideAt.IsKeyLit (.int .i64 i) := by simp [Go.WideAt.IsKeyLit]

/-- Block b is a map of at most m entries: true at just these numbers. -/
def SetI (w : World) (b m : Nat) (l : List Int) : Prop :=
  ∃ D : DataW Unit, w.ownsMap Try.prog 3 (plainElem Try.prog 4) b m D ∧ (∀ i : Int, D.atKey (.int .i64 i) (.lit (.bool false)) = .lit (.bool (decide (i ∈ l))))

section
variable {w w' : World} {b m : Nat} {l : List Int}
theorem SetI.made (w : World) : SetI (w.alloc (.map #[] 0)) w.heap.size 0 [] := by
  refine ⟨.map [], World.ownsMap_made w _ _ _, fun i => ?_⟩
  rw [Go.Maps.atKey_of_not_has rfl _]; simp
theorem SetI.lt (h : SetI w b m l) : b < w.heap.size := by
  obtain ⟨D, h, _⟩ := h
  exact h.lt
theorem SetI.keep (h : SetI w b m l) (hb : w'.heap[b]? = w.heap[b]?) : SetI w' b m l := by
  obtain ⟨D, ⟨es, clock, h1, r⟩, rest⟩ := h
  exact ⟨D, ⟨es, clock, hb.trans h1, r⟩, rest⟩
theorem SetI.below (h : SetI w b m l) (hb : Below w.heap.size w w') : SetI w' b m l := h.keep (hb.block b h.lt)
theorem SetI.ne_blk (h : SetI w b m l) {i : Nat} {ty : TypeId} {cs : Array Value} (hi : Blk w i ty cs) : i ≠ b := by
  rintro rfl
  obtain ⟨D, ⟨es, clock, h1, _⟩, _⟩ := h
  unfold Blk at hi
  rw [hi] at h1
  cases h1
theorem SetI.only {p g n cap : Nat} {c f : Nat → Int} (h : SetI w b m l) (A : Ar w p g n cap c f) (ho : Only p g w w') : SetI w' b m l := by
  obtain ⟨zs, hz, _⟩ := A.cells
  exact h.keep (ho.block b h.lt (fun e => h.ne_blk A.own e.symm) (fun e => h.ne_blk hz e.symm))
theorem SetI.look (h : SetI w b m l) {i : Int} (h0 : -9223372036854775808 ≤ i) (h1' : i ≤ 9223372036854775807) {d : Bool} (hd : decide (i ∈ l) = d) : (Instr.lookup 80 (.map (some b)) (.int .i64 i) false).run Try.prog w = .ok (.bool d) w := by
  obtain ⟨D, h1, h2⟩ := h
  obtain ⟨v, ps, hrun, hv⟩ := h1.lookup mapLawI Try.underlying80 (zeroBI w) (plainElem_bool Try.underlying4 false) (Go.Maps.keyOf_int_mk (k := 3) (q := .i64) Try.underlying3 (WalkArith.wf_i64 ⟨h0, h1'⟩))
  rw [h2 i, hd] at hv
  have e : v = .bool d := by
    unfold plainElem at hv
    rw [Try.underlying4] at hv
    cases v <;> simp at hv
    rw [hv.1]
  rw [← e]
  exact hrun
end

/-- A store into the map, at the operation. -/
theorem wpList_seti (w : World) {ops : Array Oper} {rest : List Oper} {o : Oper} {a : Act} {Q : Exit → Act → World → Prop} (hg : o.guard = none) (m x v : Operand) (hop : o.op = Op.mapUpdate 80 m x v)
    (b n : Nat) (l : List Int) (hm : a.eval m = .map (some b)) (hs : SetI w b n l) (hn : n < maxLen) (i : Int) (h0 : -9223372036854775808 ≤ i) (h1 : i ≤ 9223372036854775807) (hx : a.eval x = .int .i64 i) (hv : a.eval v = .bool true)
    (hK : ∀ w', SetI w' b (n + 1) (l ++ [i]) → w.grownBy w' (some b) → wpList Try.prog ops Q rest (a.put o.dst undef) w') : wpList Try.prog ops Q (o :: rest) a w := by
  obtain ⟨D, g1, g2⟩ := hs
  refine wpList_mapUpdate_own w hg m x v 80 hop 3 4 mapLawI Try.underlying80 _ b n D hm g1 hn _ _ (.int .i64 i) hx hv (Go.Maps.keyOf_int_mk (k := 3) (q := .i64) Try.underlying3 (WalkArith.wf_i64 ⟨h0, h1⟩)) _ [] (plainElem_bool Try.underlying4 true) ?_
  intro w' hown hgrow
  refine hK w' ⟨_, hown, fun j => ?_⟩ hgrow
  by_cases e : j = i
  · subst e
    rw [Go.Maps.atKey_put_same g1.isMap keyII]
    simp
  · rw [Go.Maps.atKey_put_other (fun h => e (by cases h; rfl)), g2 j]
    have : (j ∈ l ++ [i]) ↔ (j ∈ l) := by
      rw [List.mem_append]
      constructor
      · rintro (h | h)
        · exact h
        · exact absurd (by simpa using h) e
      · exact .inl
    rw [decide_eq_decide.2 this]
end Go.Proofs.Ytipjbgkfhkidkaa
