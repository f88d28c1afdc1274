/- A set of integers as a map of the call's own, beside a play in memory. -/
import Derived.Test.YtgjlilcljefbfaaSlotY
import Derived.Maps.OwnSet
namespace Go.Proofs.Ytgjlilcljefbfaa
open Go.RowKit

set_option maxRecDepth 100000

theorem mapLawZ : Go.Maps.Keyed Try.prog 3 := Go.Maps.int_keyed Try.underlying3
theorem zeroBZ (w : World) : (zeroValue 4).run Try.prog w = .ok (.bool false) w := by kernel_rfl

/-- Block b is a map of at most m entries: true at just these numbers. -/
def SetN (w : World) (b m : Nat) (l : List Nat) : Prop :=
  ∃ D : DataW Unit, w.ownsMap Try.prog 3 (plainElem Try.prog 4) b m D ∧ (∀ i : Int, D.atKey (.int .i64 i) (.lit (.bool false)) = .lit (.bool (decide (∃ x ∈ l, (x : Int) = i))))

section
variable {w w' : World} {b m : Nat} {l : List Nat}
theorem SetN.made (w : World) : SetN (w.alloc (.map #[] 0)) w.heap.size 0 [] := by
  refine ⟨.map [], World.ownsMap_made w _ _ _, fun i => ?_⟩
  rw [Go.Maps.atKey_of_not_has rfl _]; simp
theorem SetN.lt (h : SetN w b m l) : b < w.heap.size := by
  obtain ⟨D, h, _⟩ := h
  exact h.lt
theorem SetN.keep (h : SetN w b m l) (hb : w'.heap[b]? = w.heap[b]?) : SetN w' b m l := by
  obtain ⟨D, ⟨es, clock, h1, r⟩, rest⟩ := h
  exact ⟨D, ⟨es, clock, hb.trans h1, r⟩, rest⟩
theorem SetN.below (h : SetN w b m l) (hb : Below w.heap.size w w') : SetN w' b m l := h.keep (hb.block b h.lt)
theorem SetN.ne_blk (h : SetN w b m l) {i : Nat} {ty : TypeId} {cs : Array Value} (hi : Blk w i ty cs) : i ≠ b := by
  rintro rfl
  obtain ⟨D, ⟨es, clock, h1, _⟩, _⟩ := h
  unfold Blk at hi
  rw [hi] at h1
  cases h1
theorem SetN.only {p g n cap : Nat} {c f : Nat → Int} (h : SetN w b m l) (A : Ar w p g n cap c f) (ho : Only p g w w') : SetN w' b m l := by
  obtain ⟨zs, hz, _⟩ := A.cells
  exact h.keep (ho.block b h.lt (fun e => h.ne_blk A.own e.symm) (fun e => h.ne_blk hz e.symm))
theorem SetN.look (h : SetN w b m l) {i : Nat} (hi : i ≤ 1000000) {d : Bool} (hd : decide (i ∈ l) = d) : (Instr.lookup 56 (.map (some b)) (.int .i64 (i : Int)) false).run Try.prog w = .ok (.bool d) w := by
  have hib : -9223372036854775808 ≤ (i : Int) ∧ (i : Int) ≤ 9223372036854775807 := ⟨by omega, by omega⟩
  obtain ⟨D, h1, h2⟩ := h
  obtain ⟨v, ps, hrun, hv⟩ := h1.lookup mapLawZ Try.underlying56 (zeroBZ w) (plainElem_bool Try.underlying4 false) (Go.Maps.keyOf_int_mk (k := 3) (q := .i64) Try.underlying3 (WalkArith.wf_i64 hib))
  rw [h2 i] at hv
  have ed : decide (∃ x ∈ l, (x : Int) = (i : Int)) = d := by
    rw [← hd, decide_eq_decide]
    constructor
    · rintro ⟨x, hx, e⟩
      have : x = i := by omega
      rwa [this] at hx
    · exact fun h => ⟨i, h, rfl⟩
  rw [ed] at hv
  have e : v = .bool d := by
    unfold plainElem at hv
    rw [Try.underlying4] at hv
    cases v <;> simp at hv
    rw [hv.1]
  rw [← e]
  exact hrun
end

theorem keyIZ {i : Int} : Go.WideAt.IsKeyLit (.int .i64 i) := by simp [Go.WideAt.IsKeyLit]

/-- A store into the map, at the operation. -/
theorem wpList_setn (w : World) {ops : Array Oper} {rest : List Oper} {o : Oper} {a : Act} {Q : Exit → Act → World → Prop} (hg : o.guard = none) (m x v : Operand) (hop : o.op = Op.mapUpdate 56 m x v)
    (b n : Nat) (l : List Nat) (hm : a.eval m = .map (some b)) (hs : SetN w b n l) (hn : n < maxLen) (i : Nat) (hi : i ≤ 1000000) (hx : a.eval x = .int .i64 (i : Int)) (hv : a.eval v = .bool true)
    (hK : ∀ w', SetN w' b (n + 1) (l ++ [i]) → w.grownBy w' (some b) → wpList Try.prog ops Q rest (a.put o.dst undef) w') : wpList Try.prog ops Q (o :: rest) a w := by
  have hib : -9223372036854775808 ≤ (i : Int) ∧ (i : Int) ≤ 9223372036854775807 := ⟨by omega, by omega⟩
  obtain ⟨D, h1, h2⟩ := hs
  refine wpList_mapUpdate_own w hg m x v 56 hop 3 4 mapLawZ Try.underlying56 _ b n D hm h1 hn _ _ (.int .i64 (i : Int)) hx hv (Go.Maps.keyOf_int_mk (k := 3) (q := .i64) Try.underlying3 (WalkArith.wf_i64 hib)) _ [] (plainElem_bool Try.underlying4 true) ?_
  intro w' hown hgrow
  refine hK w' ⟨_, hown, fun j => ?_⟩ hgrow
  by_cases e : j = i
  · subst e
    rw [Go.Maps.atKey_put_same h1.isMap keyIZ]
    simp
  · rw [Go.Maps.atKey_put_other (fun h => e (by cases h; rfl)), h2 j]
    have : (∃ x ∈ l ++ [i], (x : Int) = j) ↔ (∃ x ∈ l, (x : Int) = j) := by
      constructor
      · rintro ⟨x, hx, e'⟩
        rcases List.mem_append.1 hx with hx | hx
        · exact ⟨x, hx, e'⟩
        · have : x = i := by simpa using hx
          subst this
          exact absurd e'.symm e
      · rintro ⟨x, hx, e'⟩
        exact ⟨x, List.mem_append.2 (.inl hx), e'⟩
    rw [decide_eq_decide.2 this]

section
variable {w w' : World} {pb p g n cap S m M W0 nW mb : Nat} {av : Value} {wb qb : Nat → Nat} {hv : Nat → Value} {c f : Nat → Int} {y : Sm}
theorem WkM.foot_blk {b q S : Nat} {hv : Value} {k : Wk} {hs : List Nat} (h : WkM w b q S hv k hs) {i : Nat} (hf : Foot b q hv k i) : ∃ ty cs, Blk w i ty cs := by
  rcases hf with rfl | ⟨hk, rfl⟩ | e
  · exact ⟨_, _, h.own⟩
  · obtain ⟨_, _, _, _, P⟩ := h.pg.some hk
    exact ⟨_, _, P.2⟩
  · obtain ⟨a, cap, rfl, h1, h2, h3, h4⟩ := h.has
    rcases Nat.eq_zero_or_pos cap with rfl | hc
    · rw [bk_zero] at e; cases e
    · obtain ⟨b', off, zs, rfl, hz, _⟩ := h4 hc
      rw [bk_some hc] at e
      cases e
      exact ⟨_, _, hz⟩
/-- A play beside a map that is stored into. -/
theorem PM.map {l : List Nat} {k : Nat} (h : PM w pb p g n cap S m M W0 nW av wb qb hv c f y) (hs : SetN w mb k l) (hg : w.grownBy w' (some mb)) : PM w' pb p g n cap S m M W0 nW av wb qb hv c f y := by
  have hne : ∀ {i ty cs}, Blk w i ty cs → some mb ≠ some i := fun hi e => by injection e with e; exact hs.ne_blk hi e.symm
  obtain ⟨zs, hz, _⟩ := h.sa.1.cells
  refine ⟨⟨h.sa.1.grown hg (hne h.sa.1.own) (hne hz), h.sa.2⟩, Blk.grown h.pl hg (hne h.pl), fun i hi => (h.wk i hi).keep fun x hx => hg.block x ((h.wk i hi).foot_lt hx) (fun e => ?_), h.fit, h.dis, h.new, h.c2, h.c3⟩
  obtain ⟨ty, cs, hb⟩ := (h.wk i hi).foot_blk hx
  exact hne hb e.symm
theorem RowW.map {l : List Nat} {k W0 : Nat} (h : RowW w W0 av nW wb) (hs : SetN w mb k l) (hg : w.grownBy w' (some mb)) : RowW w' W0 av nW wb :=
  h.keep fun i hi => by
    obtain ⟨cs, hb⟩ := h.blk i hi
    exact hg.block i hb.lt (fun e => by injection e with e; exact hs.ne_blk hb e)
theorem LI.map {v : Value} {l L : List Nat} {k : Nat} (h : LI w v L) (hs : SetN w mb k l) (hg : w.grownBy w' (some mb)) : LI w' v L :=
  h.keep fun i hi => hg.block i (h.lt i hi) (fun e => by
    injection e with e
    subst e
    obtain ⟨a, cap, rfl, h1, h2, h3, h4⟩ := h
    rcases Nat.eq_zero_or_pos cap with rfl | hc
    · rw [bk_zero] at hi; cases hi
    · obtain ⟨b', off, zs, rfl, hz, _⟩ := h4 hc
      rw [bk_some hc] at hi
      cases hi
      exact hs.ne_blk hz rfl)
end
end Go.Proofs.Ytgjlilcljefbfaa
