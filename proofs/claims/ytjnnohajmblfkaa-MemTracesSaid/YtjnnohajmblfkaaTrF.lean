/- Which cells were stored, plainly: a row sorted, and compacted. -/
import Derived.Test.YtjnnohajmblfkaaTrE
import Derived.Test.YtjnnohajmblfkaaShelf
import Derived.Sort.OwnSortedInts
namespace Go.Proofs.Ytjnnohajmblfkaa
open Go.RowKit

/-- The cells of the stores of a row, in order. -/
def storedOf (xs : List AccV) : List Int := xs.filterMap fun x => if x.s then some x.c else none
/-- Rising, each once. -/
def risen (zs : List Int) : List Int := Lib.compact (zs.mergeSort fun x y => decide (x ≤ y))

theorem storedOf_take (xs : List AccV) {k : Nat} {x : AccV} (h : xs[k]? = some x) : storedOf (xs.take (k + 1)) = storedOf (xs.take k) ++ (if x.s then [x.c] else []) := by
  rw [List.take_add_one, h]
  unfold storedOf
  rw [List.filterMap_append]
  congr 1
  cases hs : x.s <;> simp [hs]

theorem storedOf_length (xs : List AccV) : (storedOf xs).length ≤ xs.length := List.length_filterMap_le _ _

theorem sorted_get {zs : List Int} (h : zs.Pairwise (· ≤ ·)) {i j : Nat} (hij : i ≤ j) (hj : j < zs.length) : zs.toArray[i]! ≤ zs.toArray[j]! := by
  rw [getElem!_pos _ _ (by simpa using Nat.lt_of_le_of_lt hij hj), getElem!_pos _ _ (by simpa using hj)]
  simp only [List.getElem_toArray]
  rcases Nat.lt_or_ge i j with h1 | h1
  · exact List.pairwise_iff_getElem.1 h i j _ hj h1
  · have e : i = j := by omega
    subst e
    exact Int.le_refl _

theorem sortB (zs : List Int) : (zs.mergeSort fun x y => decide (x ≤ y)).Pairwise (· ≤ ·) := by
  have h := List.pairwise_mergeSort (le := fun x y : Int => decide (x ≤ y)) (by intro a b c; simp; omega) (by intro a b; simp; omega) zs
  exact h.imp (by intro a b h; simpa using h)

theorem risen_rises (zs : List Int) : (risen zs).Pairwise (· < ·) := by
  unfold risen Lib.compact Lib.compactUpTo
  generalize hz : (zs.mergeSort fun x y => decide (x ≤ y)) = ys
  have hs : ys.Pairwise (· ≤ ·) := hz ▸ sortB zs
  rw [List.pairwise_map, List.pairwise_filter, List.pairwise_iff_getElem]
  intro i j hi hj hij _ h2
  have hj' : j < ys.length := by simpa using hj
  simp only [List.getElem_range] at *
  simp only [Lib.keeps, decide_eq_true_eq] at h2
  rcases h2 with h2 | h2
  · omega
  · have a := sorted_get hs (i := i) (j := j - 1) (by omega) (by omega)
    have b := sorted_get hs (i := j - 1) (j := j) (by omega) (by omega)
    omega

theorem mem_risen (zs : List Int) (x : Int) : x ∈ risen zs ↔ x ∈ zs := by
  have hm : x ∈ (zs.mergeSort fun x y => decide (x ≤ y)) ↔ x ∈ zs := (List.mergeSort_perm zs _).mem_iff
  rw [← hm]
  unfold risen Lib.compact Lib.compactUpTo
  generalize (zs.mergeSort fun x y => decide (x ≤ y)) = ys
  simp only [List.mem_map, List.mem_filter, List.mem_range]
  constructor
  · rintro ⟨j, ⟨hj, _⟩, rfl⟩
    rw [getElem!_pos _ _ (by simpa using hj)]
    simp
  · intro hx
    obtain ⟨j, hj, rfl⟩ := List.mem_iff_getElem.1 hx
    have main : ∀ j (hj : j < ys.length), ∃ a, (a < ys.length ∧ Lib.keeps ys.toArray a = true) ∧ ys.toArray[a]! = ys[j] := by
      intro j
      induction j with
      | zero => intro hj; exact ⟨0, ⟨hj, by simp [Lib.keeps]⟩, by rw [getElem!_pos _ _ (by simpa using hj)]; simp⟩
      | succ j ih =>
        intro hj
        by_cases hk : Lib.keeps ys.toArray (j + 1) = true
        · exact ⟨j + 1, ⟨hj, hk⟩, by rw [getElem!_pos _ _ (by simpa using hj)]; simp⟩
        · obtain ⟨a, ha, e⟩ := ih (by omega)
          refine ⟨a, ha, e.trans ?_⟩
          simp only [Lib.keeps, decide_eq_true_eq, not_or, Decidable.not_not] at hk
          have h2 := hk.2
          rw [getElem!_pos _ _ (by simpa using hj), getElem!_pos _ _ (by simp; omega)] at h2
          simpa using h2.symm
    exact main j hj

theorem compact_length (zs : List Int) : (Lib.compact zs).length ≤ zs.length := by
  unfold Lib.compact Lib.compactUpTo
  rw [List.length_map]
  exact Nat.le_trans (List.length_filter_le _ _) (by simp)
theorem risen_length (zs : List Int) : (risen zs).length ≤ zs.length := by
  have := compact_length (zs.mergeSort fun x y => decide (x ≤ y))
  unfold risen
  simpa using this

/-- A row of integers that is grown. -/
def RowI (w : World) (base : Nat) (v : Value) (zs : List Int) : Prop := w.ownsRow base 3 1 v zs.length (zs.map (Value.int .i64))

section
variable {w w' : World} {base : Nat} {v : Value} {zs : List Int}
theorem RowI.nil (w : World) (base : Nat) : RowI w base (.slice none 0 0) [] := World.ownsRow_nil _ _ _ _
theorem RowI.alloc (h : RowI w base v zs) (o : Obj) : RowI (w.alloc o) base v zs := World.ownsRow.alloc h o
theorem RowI.lt (h : RowI w base v zs) : ∀ k, v.ownBlock = some k → base ≤ k ∧ k < w.heap.size := World.ownsRow.lt h
theorem RowI.shape (h : RowI w base v zs) : (v = .slice none 0 0 ∧ zs = []) ∨ ∃ g cap cs, v = .slice (some ⟨g, 0, none⟩) zs.length cap ∧ base ≤ g ∧ Blk w g 3 cs ∧ zs.length ≤ cap ∧ cap ≤ maxLen ∧ cs.size = cap * 1 ∧ cs.toList.take zs.length = zs.map (Value.int .i64) := by
  rcases h.2 with ⟨rfl, h0⟩ | ⟨g, cap, cur, rfl, hg, hgg, h1, h2, h3, h4⟩
  · exact .inl ⟨rfl, List.eq_nil_of_length_eq_zero h0⟩
  · exact .inr ⟨g, cap, cur, rfl, hg, hgg, h1, h2, h3, by simpa using h4⟩
end
end Go.Proofs.Ytjnnohajmblfkaa
