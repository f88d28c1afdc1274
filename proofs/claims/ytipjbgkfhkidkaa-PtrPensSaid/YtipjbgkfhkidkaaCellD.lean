/- Contracts of Copy and Equal. -/
import Derived.Test.YtipjbgkfhkidkaaCellC
namespace Go.Proofs.Ytipjbgkfhkidkaa
open Go.RowKit

/-- What a copy leaves: another arena, the same; nothing old has turned. -/
def Copied (n : Nat) (c f : Nat → Int) (w : World) (e : Ending) (w' : World) : Prop :=
  ∃ p g cap, e = .returned (.pointer (some ⟨p, 0, none⟩)) ∧ w.heap.size ≤ p ∧ w.heap.size ≤ g ∧ Ar w' p g n cap c f ∧ Below w.heap.size w w'

theorem keepB {w0 W w1 : World} (h : Below w0.heap.size w0 W) (hb : Below W.heap.size W w1) : Below w0.heap.size w0 w1 := h.trans (hb.mono h.size)

theorem bcell {W w1 : World} (hb : Below W.heap.size W w1) : (∀ b o, b < W.heap.size → w1.cell? ⟨b, o, none⟩ = W.cell? ⟨b, o, none⟩) ∧ (∀ b o, b < W.heap.size → w1.frozen? ⟨b, o, none⟩ = W.frozen? ⟨b, o, none⟩) :=
  ⟨fun b o h => hb.cell (p := ⟨b, o, none⟩) h, fun b o h => hb.frozen (p := ⟨b, o, none⟩) h⟩

theorem cell_later {W w1 : World} {a : Addr} {v : Value} (hb : Below W.heap.size W w1) (h : W.cell? a = some v) : w1.cell? a = some v := by
  have hl : a.block < W.heap.size := World.block_lt_of_cell? _ _ h
  exact (hb.cell hl).trans h

section
variable {p g n cap : Nat} {c f : Nat → Int} {w : World}
end
end Go.Proofs.Ytipjbgkfhkidkaa
