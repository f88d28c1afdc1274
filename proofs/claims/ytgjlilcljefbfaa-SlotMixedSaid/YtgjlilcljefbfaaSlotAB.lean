/- Words for the end of SlotMixed: who is alone ends; slots are counted. -/
import Derived.Test.YtgjlilcljefbfaaSlotAA
namespace Go.Proofs.Ytgjlilcljefbfaa
open Go.RowKit

set_option maxRecDepth 100000

theorem access_other (y : Sm) (i j : Nat) (h : j ≠ i) : (access y i).x.ws j = y.x.ws j := by
  unfold access
  split
  · rfl
  · split <;> exact put_other _ _ h
  · exact put_other _ _ h
  · split <;> exact put_other _ _ h
  · exact put_other _ _ h
  · exact put_other _ _ h
  · split <;> exact put_other _ _ h
theorem begin_self (y : Sm) (i : Nat) (h : (y.x.ws i).k ≠ .idle) : begin1 y i false = y := by
  have : beginW false (y.x.ws i) = y.x.ws i := by
    rcases hw : y.x.ws i with ⟨k, hs⟩
    rw [hw] at h
    cases k <;> first | exact absurd rfl h | rfl
  unfold begin1
  rw [this, put_self]

theorem pm_step_end {w : World} {pb p g n cap S m M W0 nW : Nat} {av : Value} {wb qb : Nat → Nat} {hv : Nat → Value} {c f : Nat → Int} {y : Sm} {L : List Nat} {i : Nat} (hS : S ≤ 48) (hn : 1 < n) (hn2 : ∀ s, s < S → 1 + 1 + s * 7 < n) (h : PM w pb p g n cap S m M W0 nW av wb qb hv c f y) (hok : SlOk S nW y.x L) (hi : i < nW) (hki : (y.x.ws i).k ≠ .idle) (hW : W0 ≤ w.heap.size) (hM : M ≤ 10000) (hm2 : m ≤ 100000) :
    Calls Try.prog 19 #[.pointer (some ⟨pb, 0, none⟩), .pointer (some ⟨wb i, 0, none⟩), .bool false] w fun e w' =>
      e = .returned (.bool true) ∧ ∃ qb' hv' c' f' y' L', PM w' pb p g n cap S (m + 1) (M + 1) W0 nW av wb qb' hv' c' f' y' ∧ SlOk S nW y'.x L' ∧ (y'.x.ws i).k.left y'.x.hd < (y.x.ws i).k.left y.x.hd ∧ (∀ j, j ≠ i → y'.x.ws j = y.x.ws j) ∧ OnlyF (PF p g nW wb qb hv y.x.ws) w w' := by
  refine (pm_step false hS hn hn2 h hok hi hW hM hm2).mono ?_
  rintro e w' ⟨rfl, qb', hv', c', f', P', O'⟩
  rw [begin_self y i hki] at P'
  obtain ⟨L', hok'⟩ := access_ok hok hi
  exact ⟨rfl, qb', hv', c', f', _, L', P', hok', access_left y i hki, fun j hj => access_other y i j hj, O'⟩

/-- Where all are idle, what is held is what they have. -/
theorem seenL_count {ws : Nat → Wr} {s : Nat} : ∀ {n : Nat}, (∀ j, j < n → (ws j).k = .idle) → (seenL ws n).count s = heldBy ws s n
  | 0, _ => rfl
  | n + 1, h => by
    rw [seenL_succ, List.count_append, heldBy, seenL_count (fun j hj => h j (by omega))]
    have : (ws n).held = (ws n).has := by unfold Wr.held; rw [h n (by omega)]; simp [Wk.giving]
    rw [this]

/-- Counts of slots in a block. -/
def CntN (w : World) (sb S : Nat) (F : Nat → Nat) : Prop := ∃ zs, Blk w sb 3 zs ∧ ∀ k, k < S → zs[k]? = some (.int .i64 (F k : Int))
section
variable {w w' : World} {sb S : Nat} {F : Nat → Nat}
theorem CntN.lt (h : CntN w sb S F) : sb < w.heap.size := by obtain ⟨zs, hz, _⟩ := h; exact hz.lt
theorem CntN.cell (h : CntN w sb S F) {k : Nat} (hk : k < S) : w.cell? ⟨sb, k, none⟩ = some (.int .i64 (F k : Int)) := by obtain ⟨zs, hz, he⟩ := h; exact (hz.cell k).trans (he k hk)
theorem CntN.fz (h : CntN w sb S F) (k : Nat) : w.frozen? ⟨sb, k, none⟩ = false := by obtain ⟨zs, hz, _⟩ := h; exact hz.frozen k
theorem CntN.below (h : CntN w sb S F) (hb : Below w.heap.size w w') : CntN w' sb S F := by obtain ⟨zs, hz, he⟩ := h; exact ⟨zs, hz.below hb hz.lt, he⟩
theorem CntN.only {p g n cap : Nat} {c f : Nat → Int} (h : CntN w sb S F) (A : Ar w p g n cap c f) (ho : Only p g w w') : CntN w' sb S F := by
  obtain ⟨zs, hz, he⟩ := h
  obtain ⟨zs2, hz2, _⟩ := A.cells
  exact ⟨zs, hz.only ho (hz.ne_ A.own (by decide)) (hz.ne_ hz2 (by decide)), he⟩
theorem CntN.set_ (h : CntN w sb S F) {k : Nat} (hk : k < S) : CntN (w.setCell ⟨sb, k, none⟩ (.int .i64 ((F k : Int) + 1))) sb S (put F k (F k + 1)) := by
  obtain ⟨zs, hz, he⟩ := h
  refine ⟨_, hz.set_ k _, fun i hi => ?_⟩
  have hs : i < zs.size := by
    have := he i hi
    rcases Nat.lt_or_ge i zs.size with hlt | hge
    · exact hlt
    · rw [Array.getElem?_eq_none hge] at this; cases this
  by_cases e : i = k
  · subst e
    rw [put_same, Array.getElem?_setIfInBounds_self_of_lt hs]
    simp
  · rw [put_other _ _ e, Array.getElem?_setIfInBounds_ne (fun h => e h.symm)]
    exact he i hi
theorem CntN.made (w : World) (S : Nat) : CntN (w.alloc (.cells (madeCells #[Value.int .i64 0] S) 3)) w.heap.size S (fun _ => 0) :=
  ⟨_, Blk.new w _ _, fun k hk => by
    have h := toList_madeCells_one (.int .i64 0) S
    rw [← Array.getElem?_toList, h]
    simp [hk]⟩
/-- One counted more. -/
theorem put_count (l : List Nat) (x : Nat) (F : Nat → Nat) (h : ∀ s, F s = l.count s) : ∀ s, put F x (F x + 1) s = (l ++ [x]).count s := by
  intro s
  rw [List.count_append]
  by_cases e : s = x
  · subst e; rw [put_same, h s]; simp
  · rw [put_other _ _ e, h s]
    have : (x == s) = false := beq_eq_false_iff_ne.2 (fun e' => e e'.symm)
    simp [List.count_cons, this]
end
end Go.Proofs.Ytgjlilcljefbfaa
