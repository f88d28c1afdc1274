/- What may have turned, told by any blocks. -/
import Derived.Test.YtipjbgkfhkidkaaTrB
namespace Go.Proofs.Ytipjbgkfhkidkaa
open Go.RowKit

set_option maxRecDepth 100000

/-- Of what was there, only these blocks may have turned. -/
structure OnlyF (F : Nat → Prop) (w w' : World) : Prop where
  os : w'.os = w.os
  tape : w'.tape = w.tape
  output : w'.output = w.output
  size : w.heap.size ≤ w'.heap.size
  block : ∀ i, i < w.heap.size → ¬ F i → w'.heap[i]? = w.heap[i]?

section
variable {F G : Nat → Prop} {w0 w w' : World} {p g q : Nat}
theorem OnlyF.refl (w : World) : OnlyF F w w := ⟨rfl, rfl, rfl, Nat.le_refl _, fun _ _ _ => rfl⟩
/-- One more step, of blocks that may turn, or that are new. -/
theorem OnlyF.then_ (h : OnlyF F w0 w) (k : OnlyF G w w') (hG : ∀ i, G i → F i ∨ w0.heap.size ≤ i) : OnlyF F w0 w' :=
  ⟨k.os.trans h.os, k.tape.trans h.tape, k.output.trans h.output, Nat.le_trans h.size k.size, fun i hi hn => (k.block i (Nat.lt_of_lt_of_le hi h.size) (fun hg => by rcases hG i hg with e | e; exact hn e; omega)).trans (h.block i hi hn)⟩
theorem OnlyF.trans (h : OnlyF F w0 w) (k : OnlyF F w w') : OnlyF F w0 w' := h.then_ k fun _ h => .inl h
theorem OnlyF.below (h : OnlyF F w0 w) (hb : Below w.heap.size w w') : OnlyF F w0 w' :=
  h.then_ (G := fun _ => False) ⟨hb.os, hb.tape, hb.output, hb.size, fun i hi _ => hb.block i hi⟩ (fun _ h => h.elim)
theorem OnlyF.drew (h : OnlyF F w0 w) : OnlyF F w0 w.drew := ⟨h.os, h.tape, h.output, h.size, h.block⟩
theorem OnlyF.alloc (h : OnlyF F w0 w) (o : Obj) : OnlyF F w0 (w.alloc o) := h.below ((Below.refl _ _).alloc (Nat.le_refl _) o)
theorem OnlyF.only (h : OnlyF F w0 w) (k : Only p g w w') (hp : F p) (hg : F g) : OnlyF F w0 w' :=
  h.then_ (G := fun i => i = p ∨ i = g) ⟨k.os, k.tape, k.output, k.size, fun i hi hn => k.block i hi (fun e => hn (.inl e)) (fun e => hn (.inr e))⟩ (fun i hi => .inl (by rcases hi with rfl | rfl <;> assumption))
theorem OnlyF.onlyT (h : OnlyF F w0 w) (k : OnlyT q p g none w w') (hq : F q ∨ w0.heap.size ≤ q) (hp : F p) (hg : F g) : OnlyF F w0 w' :=
  h.then_ (G := fun i => i = q ∨ i = p ∨ i = g) ⟨k.os, k.tape, k.output, k.size, fun i hi hn => k.block i hi (fun e => hn (.inl e)) (fun e => hn (.inr (.inl e))) (fun e => hn (.inr (.inr e))) (by simp)⟩
    (fun i hi => by rcases hi with rfl | rfl | rfl; exact hq; exact .inl hp; exact .inl hg)
theorem OnlyF.set_ (h : OnlyF F w0 w) {b j : Nat} (u : Value) (hb : F b ∨ w0.heap.size ≤ b) : OnlyF F w0 (w.setCell ⟨b, j, none⟩ u) :=
  h.then_ (G := fun i => i = b) ⟨rfl, rfl, rfl, by simp [World.setCell], fun i _ hn => Below.heap_setCell w ⟨b, j, none⟩ u i hn⟩ (fun i hi => by rw [hi]; exact hb)
theorem OnlyF.grown {r : Option Nat} (h : OnlyF F w0 w) (hg : w.grownBy w' r) (hr : ∀ i, r = some i → F i ∨ w0.heap.size ≤ i) : OnlyF F w0 w' :=
  h.then_ (G := fun i => r = some i) ⟨hg.os, hg.tape, hg.output, hg.size, fun i hi hn => hg.block i hi (fun e => hn e.symm)⟩ hr
theorem Blk.onlyF {i : Nat} {ty : TypeId} {cs : Array Value} (h : Blk w i ty cs) (ho : OnlyF F w w') (hn : ¬ F i) : Blk w' i ty cs := (ho.block i h.lt hn).trans h
theorem OnlyF.toBelow {B : Nat} (hb : Below B w0 w) (h : OnlyF F w w') (hB : B ≤ w.heap.size) (hF : ∀ i, F i → B ≤ i) : Below B w0 w' :=
  ⟨h.os.trans hb.os, h.tape.trans hb.tape, h.output.trans hb.output, Nat.le_trans hb.size h.size, fun i hi => (h.block i (by omega) (fun hf => by have := hF i hf; omega)).trans (hb.block i hi)⟩
end

end Go.Proofs.Ytipjbgkfhkidkaa
