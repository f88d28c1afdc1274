/- A pile of free slots, plainly; slices that came in. -/
import Derived.Test.YtgjlilcljefbfaaSlotO
namespace Go.Proofs.Ytgjlilcljefbfaa
open Go.RowKit

/-- What the walk is told of a slice of integers that came in. -/
def IsRow (k : IntKind) (w : World) (a : Option Addr) (len cap : Nat) (zs : List Int) : Prop :=
  (a = none ∧ len = 0 ∧ cap = 0 ∧ zs = []) ∨
  ∃ x, a = some x ∧ len ≤ cap ∧ cap ≤ maxLen ∧ zs.length = cap ∧ (∀ i, i < zs.length → w.cell? (x.add i) = some (.int k (zs.getD i 0))) ∧ ∀ n ∈ zs, (Lit.int k n).wf = true

theorem isRow_ati {w : World} {a : Option Addr} {len cap : Nat} {zs : List Int} (h : IsRow .i64 w a len cap zs) {k : Nat} (hk : k < len) :
    ∃ (b off : Nat) (z : Int), a = some ⟨b, off, none⟩ ∧ w.cell? ⟨b, off + k, none⟩ = some (.int .i64 z) ∧ -9223372036854775808 ≤ z ∧ z ≤ 9223372036854775807 := by
  rcases h with ⟨_, h0, _⟩ | ⟨x, rfl, hl, _, hz, hcell, hwz⟩
  · omega
  · obtain ⟨b, off, spot⟩ := x
    have hc := hcell k (by omega)
    have hc0 := hcell 0 (by omega)
    have hspot : spot = none := by simpa [Addr.add] using World.cell?_spot hc0
    subst hspot
    have hm : zs.getD k 0 ∈ zs := by
      have hlt : k < zs.length := by omega
      rw [List.getD_eq_getElem?_getD, List.getElem?_eq_getElem hlt]
      exact List.getElem_mem hlt
    have r := hwz _ hm
    have r2 := _root_.Go.bounds_i64 r
    rw [Addr.add_lit] at hc
    exact ⟨b, off, zs.getD k 0, rfl, hc, r2.1, r2.2⟩

theorem wo_count (l : List Nat) (x y : Nat) : (wo l x).count y = if y = x then 0 else l.count y := by
  induction l with
  | nil => simp [wo]
  | cons z l ih =>
    unfold wo at ih ⊢
    by_cases h : z = x
    · subst h
      simp only [List.filter_cons, bne_self_eq_false, Bool.false_eq_true, if_false, ih]
      split
      · rfl
      · rename_i hy
        rw [List.count_cons]
        have : (z == y) = false := beq_eq_false_iff_ne.2 (fun e => hy e.symm)
        simp [this]
    · have hz : (z != x) = true := by simp [h]
      simp only [List.filter_cons, hz, if_true, List.count_cons, ih]
      split
      · rename_i hy
        subst hy
        have : (z == y) = false := beq_eq_false_iff_ne.2 h
        simp [this]
      · rfl
theorem wo_length (l : List Nat) (x : Nat) : (wo l x).length + l.count x = l.length := by
  induction l with
  | nil => simp [wo]
  | cons z l ih =>
    unfold wo at ih ⊢
    by_cases h : z = x
    · subst h
      simp only [List.filter_cons, bne_self_eq_false, Bool.false_eq_true, if_false, List.count_cons, BEq.rfl, if_true, List.length_cons]
      omega
    · have hz : (z != x) = true := by simp [h]
      have hz2 : (z == x) = false := beq_eq_false_iff_ne.2 h
      simp only [List.filter_cons, hz, if_true, List.count_cons, hz2, Bool.false_eq_true, if_false, List.length_cons]
      omega
theorem wo_mem {l : List Nat} {x y : Nat} (h : y ∈ wo l x) : y ∈ l := (List.mem_filter.1 h).1

/-- The free slots are a pile, and none of them is taken. -/
structure Pile (S : Nat) (hd : Nat × Nat) (nx : Nat → Nat) (L K : List Nat) : Prop where
  chain : Chain nx hd.2 L
  once : ∀ s, L.count s + K.count s ≤ 1
  lt : ∀ s ∈ L, s < S
  ltK : ∀ s ∈ K, s < S
  len : L.length + K.length = S

section
variable {S s x : Nat} {hd : Nat × Nat} {nx : Nat → Nat} {L K : List Nat}
theorem Pile.start (S : Nat) : Pile S (first S).hd (first S).nx (List.range S) [] :=
  ⟨(first_ok S 0).chain, fun s => by have := List.nodup_iff_count.1 (List.nodup_range (n := S)) s; simpa using this, fun s h => List.mem_range.1 h, (fun s h => by cases h), by simp⟩
theorem Pile.give (h : Pile S hd nx L K) (hs : s ∈ K) : Pile S (hd.1 + 1, s + 1) (put nx s hd.2) (s :: L) (wo K s) := by
  have hc := List.count_pos_iff.2 hs
  have hL : L.count s = 0 := by have := h.once s; omega
  have hnL : s ∉ L := fun hm => by have := List.count_pos_iff.2 hm; omega
  refine ⟨⟨rfl, ?_⟩, fun y => ?_, fun y hy => ?_, fun y hy => h.ltK y (wo_mem hy), ?_⟩
  · rw [put_same]
    exact h.chain.congr fun y hy => put_other _ _ (fun e => hnL (e ▸ hy))
  · have := h.once y
    rw [wo_count, List.count_cons]
    by_cases e : y = s
    · subst e; simp [hL]
    · have : (s == y) = false := beq_eq_false_iff_ne.2 (fun e' => e e'.symm)
      simp [this, e]
      omega
  · rcases List.mem_cons.1 hy with rfl | hy
    · exact h.ltK _ hs
    · exact h.lt y hy
  · have h1 := wo_length K s
    have h2 := h.len
    have h3 := h.once s
    simp only [List.length_cons]
    omega
theorem Pile.take (h : Pile S hd nx (x :: L) K) : hd.2 = x + 1 ∧ Pile S (hd.1 + 1, nx x) nx L (K ++ [x]) := by
  obtain ⟨h1, h2⟩ := h.chain
  refine ⟨h1, ⟨h2, fun y => ?_, fun y hy => h.lt y (List.mem_cons_of_mem _ hy), fun y hy => ?_, ?_⟩⟩
  · have := h.once y
    simp only [List.count_cons, List.count_append, List.count_nil] at this ⊢
    omega
  · rcases List.mem_append.1 hy with hy | hy
    · exact h.ltK y hy
    · have : y = x := by simpa using hy
      subst this
      exact h.lt y (List.mem_cons_self ..)
  · have := h.len
    simp only [List.length_cons, List.length_append, List.length_nil] at this ⊢
    omega
theorem Pile.none (h : Pile S hd nx [] K) : hd.2 = 0 := h.chain
theorem Pile.len_le (h : Pile S hd nx L K) : L.length ≤ S := by have := h.len; omega
theorem Pile.lenK_le (h : Pile S hd nx L K) : K.length ≤ S := by have := h.len; omega
end
end Go.Proofs.Ytgjlilcljefbfaa
