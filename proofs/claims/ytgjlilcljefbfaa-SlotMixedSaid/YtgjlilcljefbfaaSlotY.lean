/- All workers of a play: their row, and how they are made. -/
import Derived.Test.YtgjlilcljefbfaaSlotX
namespace Go.Proofs.Ytgjlilcljefbfaa
open Go.RowKit

set_option maxRecDepth 100000

theorem LyB.alloc {w : World} {b S : Nat} {V T : Int} (h : LyB w b V S T) (o : Obj) : LyB (w.alloc o) b V S T := Blk.alloc h o
theorem info_w : (Try.prog.info? 48).map (fun i => (i.zero, i.size, i.bytes)) = some (some (.pointer none), 1, 8) := by kernel_rfl

/-- The row of all workers. -/
def ptrs (wb : Nat → Nat) (k : Nat) : List Value := (List.range k).map fun j => .pointer (some ⟨wb j, 0, none⟩)
def RowW (w : World) (W0 : Nat) (av : Value) (k : Nat) (wb : Nat → Nat) : Prop := w.ownsRow W0 48 1 av k (ptrs wb k)
theorem ptrs_len (wb : Nat → Nat) (k : Nat) : (ptrs wb k).length = k := by simp [ptrs]
theorem ptrs_succ (wb : Nat → Nat) (k u : Nat) : ptrs (put wb k u) (k + 1) = ptrs wb k ++ [.pointer (some ⟨u, 0, none⟩)] := by
  unfold ptrs
  rw [List.range_succ, List.map_append, List.map_cons, List.map_nil, put_same]
  congr 1
  refine List.map_congr_left fun j hj => ?_
  rw [put_other _ _ (by have := List.mem_range.1 hj; omega)]
section
variable {w w' w0 : World} {W0 k nW : Nat} {av : Value} {wb : Nat → Nat}
theorem RowW.keep (h : RowW w W0 av k wb) (hb : ∀ i, av.ownBlock = some i → w'.heap[i]? = w.heap[i]?) : RowW w' W0 av k wb := by
  refine ⟨h.1, ?_⟩
  rcases h.2 with hn | ⟨g, cap, cur, rfl, hg, hh, rest⟩
  · exact .inl hn
  · exact .inr ⟨g, cap, cur, rfl, hg, (hb g rfl).trans hh, rest⟩
theorem RowW.lt (h : RowW w W0 av k wb) : ∀ i, av.ownBlock = some i → W0 ≤ i ∧ i < w.heap.size := World.ownsRow.lt h
theorem RowW.below (h : RowW w W0 av k wb) (hb : Below w.heap.size w w') : RowW w' W0 av k wb := h.keep fun i hi => hb.block i (h.lt i hi).2
theorem RowW.blk (h : RowW w W0 av k wb) : ∀ i, av.ownBlock = some i → ∃ cs, Blk w i 48 cs := by
  intro i hi
  rcases h.2 with ⟨rfl, _⟩ | ⟨g, cap, cur, rfl, hg, hh, rest⟩
  · simp [Value.ownBlock] at hi
  · have : g = i := by simpa [Value.ownBlock] using hi
    subst this
    exact ⟨cur, hh⟩
theorem RowW.open_ (h : RowW w W0 av nW wb) (hn : 0 < nW) : ∃ ab acap, av = .slice (some ⟨ab, 0, none⟩) nW acap ∧ nW ≤ acap ∧ ∀ j, j < nW → w.cell? ⟨ab, j, none⟩ = some (.pointer (some ⟨wb j, 0, none⟩)) := by
  rcases h.2 with ⟨_, h0⟩ | ⟨g, cap, cur, rfl, hg, hh, hnc, rest⟩
  · omega
  · refine ⟨g, cap, rfl, hnc, fun j hj => ?_⟩
    have := World.ownsRow.cells h (g := g) rfl j (.pointer (some ⟨wb j, 0, none⟩)) (by unfold ptrs; simp [hj])
    rwa [Addr.add_lit, Nat.zero_add] at this
theorem RowW.onlyF {F : Nat → Prop} (h : RowW w W0 av k wb) (ho : OnlyF F w w') (hF : ∀ i cs, Blk w i 48 cs → ¬ F i) : RowW w' W0 av k wb :=
  h.keep fun i hi => by
    obtain ⟨cs, hb⟩ := h.blk i hi
    exact ho.block i hb.lt (hF i cs hb)
end

/-- How many workers there are so far. -/
def AlRel (b pb p g n cap S nW : Nat) (w0 : World) (c f : Nat → Int) (i : Value) (w : World) : Prop :=
  ∃ (k : Nat) (av : Value) (wb : Nat → Nat), k ≤ nW ∧ i = .int .i64 (k : Int) ∧ PlB w pb p S av ∧ SA w p g n cap 1 S 0 (S + 1) c f (first S).hd (first S).nx ∧ RowW w w0.heap.size av k wb ∧
    (∀ j, j < k → WB w (wb j) (.pointer none) (.pointer none) (.slice none 0 0) ∧ w0.heap.size ≤ wb j) ∧ (∀ i j, i < k → j < k → i ≠ j → wb i ≠ wb j) ∧ LyB w b 1 S 1 ∧ Below w0.heap.size w0 w

section
variable {w w2 w0 : World} {b pb p g n cap S nW k : Nat} {av v' : Value} {wb : Nat → Nat} {c f : Nat → Int}
/-- One worker more. -/
theorem AlRel.more (hk : k < nW) (hpb : w0.heap.size ≤ pb) (P : PlB w pb p S av) (A : SA w p g n cap 1 S 0 (S + 1) c f (first S).hd (first S).nx) (R : RowW w w0.heap.size av k wb)
    (hw : ∀ j, j < k → WB w (wb j) (.pointer none) (.pointer none) (.slice none 0 0) ∧ w0.heap.size ≤ wb j) (hd : ∀ i j, i < k → j < k → i ≠ j → wb i ≠ wb j) (L : LyB w b 1 S 1) (B : Below w0.heap.size w0 w)
    (hown : w2.ownsRow w0.heap.size 48 1 v' (k + 1) (ptrs wb k ++ [.pointer (some ⟨w.heap.size, 0, none⟩)]))
    (hg : ((w.alloc (.cells #[.pointer none, .pointer none, .slice none 0 0] 50)).alloc (.cells #[.pointer (some ⟨w.heap.size, 0, none⟩)] 48)).grownBy w2 av.ownBlock) :
    AlRel b pb p g n cap S nW w0 c f (.int .i64 ((k : Int) + 1)) (w2.setCell ⟨pb, 4, none⟩ v') := by
  have hB2 : Below w.heap.size w ((w.alloc (.cells #[.pointer none, .pointer none, .slice none 0 0] 50)).alloc (.cells #[.pointer (some ⟨w.heap.size, 0, none⟩)] 48)) :=
    ((Below.refl _ _).alloc (Nat.le_refl _) _).alloc (by simp) _
  have hW : WB (w.alloc (.cells #[.pointer none, .pointer none, .slice none 0 0] 50)) w.heap.size (.pointer none) (.pointer none) (.slice none 0 0) := Blk.new _ _ _
  have hW2 : WB ((w.alloc (.cells #[.pointer none, .pointer none, .slice none 0 0] 50)).alloc (.cells #[.pointer (some ⟨w.heap.size, 0, none⟩)] 48)) w.heap.size (.pointer none) (.pointer none) (.slice none 0 0) := Blk.alloc hW _
  have hR2 := R.below hB2
  have hsz : w0.heap.size ≤ w.heap.size := B.size
  have gne : ∀ {i : Nat} {ty : TypeId} {cs : Array Value}, Blk ((w.alloc (.cells #[.pointer none, .pointer none, .slice none 0 0] 50)).alloc (.cells #[.pointer (some ⟨w.heap.size, 0, none⟩)] 48)) i ty cs → 48 ≠ ty → av.ownBlock ≠ some i := by
    intro i ty cs hi hne e
    obtain ⟨cs', hb⟩ := hR2.blk i e
    exact hb.ne_ hi hne rfl
  have P2 : PlB w2 pb p S av := Blk.grown (Blk.below P hB2 (Blk.lt P)) hg (gne (Blk.below P hB2 (Blk.lt P)) (by decide))
  have A2 : SA w2 p g n cap 1 S 0 (S + 1) c f (first S).hd (first S).nx := by
    have A1 := A.below hB2
    obtain ⟨zs, hz, _⟩ := A1.1.cells
    exact ⟨A1.1.grown hg (gne A1.1.own (by decide)) (gne hz (by decide)), A.2⟩
  have hset : ∀ {i : Nat}, i ≠ pb → (w2.setCell ⟨pb, 4, none⟩ v').heap[i]? = w2.heap[i]? := fun {i} h => Below.heap_setCell w2 ⟨pb, 4, none⟩ v' i h
  refine ⟨k + 1, v', put wb k w.heap.size, by omega, by go_num, Blk.set_ P2 4 v', ?_, ?_, ?_, ?_, ?_, ?_⟩
  · obtain ⟨zs, hz, _⟩ := A2.1.cells
    exact ⟨A2.1.q_far (Blk.ne_ P2 A2.1.own (by decide)) (Blk.ne_ P2 hz (by decide)) _, A2.2⟩
  · have hR3 : RowW w2 w0.heap.size v' (k + 1) (put wb k w.heap.size) := by
      unfold RowW
      rw [ptrs_succ]
      exact hown
    refine hR3.keep fun i hi => hset ?_
    rintro rfl
    obtain ⟨cs, hb⟩ := hR3.blk i hi
    exact hb.ne_ P2 (by decide) rfl
  · intro j hj
    by_cases e : j = k
    · subst e
      rw [put_same]
      have h1 : WB w2 w.heap.size (.pointer none) (.pointer none) (.slice none 0 0) := Blk.grown hW2 hg (gne hW2 (by decide))
      exact ⟨(hset (Blk.ne_ h1 P2 (by decide))).trans h1, hsz⟩
    · rw [put_other _ _ e]
      obtain ⟨h0, h3⟩ := hw j (by omega)
      have h0' := Blk.below h0 hB2 (Blk.lt h0)
      have h1 : WB w2 (wb j) (.pointer none) (.pointer none) (.slice none 0 0) := Blk.grown h0' hg (gne h0' (by decide))
      exact ⟨(hset (Blk.ne_ h1 P2 (by decide))).trans h1, h3⟩
  · intro i j hi hj hne
    have hlt : ∀ j, j < k → wb j < w.heap.size := fun j hj => Blk.lt (hw j hj).1
    by_cases e1 : i = k
    · subst e1
      rw [put_same, put_other _ _ (fun e => hne e.symm)]
      have := hlt j (by omega)
      omega
    · by_cases e2 : j = k
      · subst e2
        rw [put_same, put_other _ _ e1]
        have := hlt i (by omega)
        omega
      · rw [put_other _ _ e1, put_other _ _ e2]
        exact hd i j (by omega) (by omega) hne
  · have L2 : LyB w2 b 1 S 1 := Blk.grown (L.below hB2) hg (gne (L.below hB2) (by decide))
    exact (hset (Blk.ne_ L2 P2 (by decide))).trans L2
  · exact (((B.trans (hB2.mono hsz)).grown hg (by simp; omega) (fun i hi => (R.lt i hi).1))).setCell hpb _

/-- All workers are there, and idle. -/
theorem AlRel.whole (hS : c 2 = 0) (h3 : c 3 = 0) (P : PlB w pb p S av) (A : SA w p g n cap 1 S 0 (S + 1) c f (first S).hd (first S).nx)
    (hw : ∀ j, j < nW → WB w (wb j) (.pointer none) (.pointer none) (.slice none 0 0) ∧ w0.heap.size ≤ wb j) (hd : ∀ i j, i < nW → j < nW → i ≠ j → wb i ≠ wb j) :
    PM w pb p g n cap S (S + 1) 0 w0.heap.size nW av wb (fun _ => 0) (fun _ => .slice none 0 0) c f ⟨first S, 0, 0⟩ := by
  have hf : ∀ {i x : Nat}, Foot (wb i) 0 (.slice none 0 0) .idle x → x = wb i := by
    rintro i x (h | ⟨h, _⟩ | h)
    · exact h
    · exact absurd rfl h
    · simp [bk] at h
  refine ⟨A, P, fun i hi => ⟨(hw i hi).1, LI.nil _, ⟨fun h => (by cases h), fun h => (by cases h)⟩⟩, fun i hi => trivial, fun i j hi hj hne x h1 h2 => ?_, fun i hi x h1 => ?_, by simpa using hS, by simpa using h3⟩
  · exact hd i j hi hj hne ((hf h1).symm.trans (hf h2))
  · rw [hf h1]; exact (hw i hi).2
end
end Go.Proofs.Ytgjlilcljefbfaa
