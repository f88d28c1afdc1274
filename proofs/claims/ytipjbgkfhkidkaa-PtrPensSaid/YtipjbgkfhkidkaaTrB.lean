/- Words for a trace in memory: its own block, its arena, its row; and what a call of it may have turned. -/
import Derived.Test.YtipjbgkfhkidkaaTrA
namespace Go.Proofs.Ytipjbgkfhkidkaa
open Go.RowKit

/-- Of what was there, only these three blocks, and a row's, may have turned. -/
structure OnlyT (t p g : Nat) (r : Option Nat) (w w' : World) : Prop where
  os : w'.os = w.os
  tape : w'.tape = w.tape
  output : w'.output = w.output
  size : w.heap.size ≤ w'.heap.size
  block : ∀ i, i < w.heap.size → i ≠ t → i ≠ p → i ≠ g → some i ≠ r → w'.heap[i]? = w.heap[i]?

section
variable {t p g : Nat} {r : Option Nat}
theorem OnlyT.refl (w : World) : OnlyT t p g r w w := ⟨rfl, rfl, rfl, Nat.le_refl _, fun _ _ _ _ _ _ => rfl⟩
theorem OnlyT.trans {a b c : World} (h : OnlyT t p g r a b) (k : OnlyT t p g r b c) : OnlyT t p g r a c :=
  ⟨k.os.trans h.os, k.tape.trans h.tape, k.output.trans h.output, Nat.le_trans h.size k.size, fun i hi h1 h2 h3 h4 => (k.block i (Nat.lt_of_lt_of_le hi h.size) h1 h2 h3 h4).trans (h.block i hi h1 h2 h3 h4)⟩
theorem OnlyT.of_only {w w' : World} (h : Only p g w w') : OnlyT t p g r w w' := ⟨h.os, h.tape, h.output, h.size, fun i hi _ h2 h3 _ => h.block i hi h2 h3⟩
theorem OnlyT.of_grown {w w' : World} (h : w.grownBy w' r) : OnlyT t p g r w w' := ⟨h.os, h.tape, h.output, h.size, fun i hi _ _ _ h4 => h.block i hi h4⟩
theorem OnlyT.set_t {a w : World} (h : OnlyT t p g r a w) {j : Nat} (u : Value) : OnlyT t p g r a (w.setCell ⟨t, j, none⟩ u) :=
  ⟨h.os, h.tape, h.output, by simpa [World.setCell] using h.size, fun i hi h1 h2 h3 h4 => (Below.heap_setCell w ⟨t, j, none⟩ u i h1).trans (h.block i hi h1 h2 h3 h4)⟩
theorem OnlyT.alloc {a w : World} (h : OnlyT t p g r a w) (o : Obj) : OnlyT t p g r a (w.alloc o) :=
  ⟨h.os, h.tape, h.output, Nat.le_trans h.size (by simp), fun i hi h1 h2 h3 h4 => (Below.heap_alloc w o i (Nat.lt_of_lt_of_le hi h.size)).trans (h.block i hi h1 h2 h3 h4)⟩
theorem OnlyT.drew {a w : World} (h : OnlyT t p g r a w) : OnlyT t p g r a w.drew := ⟨h.os, h.tape, h.output, h.size, h.block⟩
theorem OnlyT.below {B : Nat} {a w w' : World} (hb : Below B a w) (h : OnlyT t p g r w w') (hB : B ≤ w.heap.size) (ht : B ≤ t) (hp : B ≤ p) (hg : B ≤ g) (hr : ∀ i, r = some i → B ≤ i) : Below B a w' :=
  ⟨h.os.trans hb.os, h.tape.trans hb.tape, h.output.trans hb.output, Nat.le_trans hb.size h.size, fun i hi => (h.block i (by omega) (by omega) (by omega) (by omega) (fun e => by have := hr i e.symm; omega)).trans (hb.block i hi)⟩
theorem Blk.onlyT {i : Nat} {w w' : World} {ty : TypeId} {cs : Array Value} (h : Blk w i ty cs) (ho : OnlyT t p g r w w') (h1 : i ≠ t) (h2 : i ≠ p) (h3 : i ≠ g) (h4 : some i ≠ r) : Blk w' i ty cs := (ho.block i h.lt h1 h2 h3 h4).trans h
end

section
variable {w w' : World} {base : Nat} {v : Value} {xs : List AccV}
end

section
variable {w w' : World} {base t p g n cap : Nat} {c f : Nat → Int} {v : Value} {xs : List AccV}
end
end Go.Proofs.Ytipjbgkfhkidkaa
