/- What stands in memory while the statements go on: an arena, a list of blocks that nobody turns. -/
import Derived.Test.YtipjbgkfhkidkaaPtrI
namespace Go.Proofs.Ytipjbgkfhkidkaa
open Go.RowKit

set_option maxRecDepth 100000

/-- A block that neither an access of an arena nor a step of a look turns. -/
structure Kp (x : Nat × TypeId × Array Value) (W : World) : Prop where
  b : Blk W x.1 x.2.1 x.2.2
  t1 : x.2.1 ≠ 88
  t2 : x.2.1 ≠ 37
  t3 : x.2.1 ≠ 100
def KeptL : List (Nat × TypeId × Array Value) → World → Prop
  | [], _ => True
  | x :: L, W => Kp x W ∧ KeptL L W

section
variable {w0 W W' : World} {p g m m' q k : Nat} {c f c' f' : Nat → Int} {L : List (Nat × TypeId × Array Value)}
theorem KeptL.map (h : KeptL L W) (hb : ∀ x, Kp x W → Kp x W') : KeptL L W' := by
  induction L with
  | nil => trivial
  | cons x L ih => exact ⟨hb x h.1, ih h.2⟩
theorem KeptL.hd {x : Nat × TypeId × Array Value} (h : KeptL (x :: L) W) : Kp x W := h.1
theorem KeptL.tl {x : Nat × TypeId × Array Value} (h : KeptL (x :: L) W) : KeptL L W := h.2
theorem Kp.later {x : Nat × TypeId × Array Value} (h : Kp x W) (hb : Below W.heap.size W W') : Kp x W' := ⟨h.b.later hb, h.t1, h.t2, h.t3⟩
theorem Kp.arena {n cap : Nat} {x : Nat × TypeId × Array Value} (h : Kp x W) (A : Ar W p g n cap c f) (ho : Only p g W W') : Kp x W' := ⟨h.b.arena A ho h.t1 h.t2, h.t1, h.t2, h.t3⟩
theorem Kp.look {n cap : Nat} {x : Nat × TypeId × Array Value} {cs : Array Value} (h : Kp x W) (A : Ar W p g n cap c f) (hL : Blk W q 100 cs) (ho : OnlyT q p g none W W') : Kp x W' :=
  ⟨h.b.onlyT ho (h.b.ne_ hL h.t3) (h.b.ne_p A h.t1) (h.b.ne_g A h.t2) (by simp), h.t1, h.t2, h.t3⟩

/-- The blocks that nobody turns, and all that was there ahead. -/
structure KS (w0 : World) (L : List (Nat × TypeId × Array Value)) (W : World) : Prop where
  k : KeptL L W
  be : Below w0.heap.size w0 W
theorem KS.below (h : KS w0 L W) (hb : Below W.heap.size W W') : KS w0 L W' := ⟨h.k.map fun _ hx => hx.later hb, keepL h.be hb h.be.size⟩
theorem KS.add {b : Nat} {ty : TypeId} {cs : Array Value} (h : KS w0 L W) (hb : Blk W b ty cs) (h1 : ty ≠ 88) (h2 : ty ≠ 37) (h3 : ty ≠ 100) : KS w0 ((b, ty, cs) :: L) W := ⟨⟨⟨hb, h1, h2, h3⟩, h.k⟩, h.be⟩

/-- What stands in memory. -/
structure PK (w0 : World) (p g m : Nat) (L : List (Nat × TypeId × Array Value)) (c f : Nat → Int) (W : World) : Prop where
  ar : Ar W p g 42 42 c f
  cb : CB c m
  ks : KS w0 L W
  np : w0.heap.size ≤ p
  ng : w0.heap.size ≤ g
theorem PK.below (h : PK w0 p g m L c f W) (hb : Below W.heap.size W W') : PK w0 p g m L c f W' := ⟨h.ar.below hb (Nat.le_refl _), h.cb, h.ks.below hb, h.np, h.ng⟩
theorem PK.drew (h : PK w0 p g m L c f W) : PK w0 p g m L c f W.drew := h.below (Below.refl _ _).drew
theorem PK.alloc (h : PK w0 p g m L c f W) (o : Obj) : PK w0 p g m L c f (W.alloc o) := h.below ((Below.refl _ _).alloc (Nat.le_refl _) o)
theorem PK.arena (h : PK w0 p g m L c f W) (A : Ar W' p g 42 42 c' f') (hc : CB c' m') (ho : Only p g W W') : PK w0 p g m' L c' f' W' :=
  ⟨A, hc, ⟨h.ks.k.map fun _ hx => hx.arena h.ar ho, Only.below h.ks.be ho h.ks.be.size h.np h.ng⟩, h.np, h.ng⟩
theorem PK.look {V : Int} {S : Nat} {T a o x th tg y : Int} (h : PK w0 p g m L c f W) (hL : Lk W q V S T k a o x th tg y) (hq : w0.heap.size ≤ q) (A : Ar W' p g 42 42 c' f') (hc : CB c' m') (ho : OnlyT q p g none W W') : PK w0 p g m' L c' f' W' :=
  ⟨A, hc, ⟨h.ks.k.map fun _ hx => hx.look h.ar hL ho, OnlyT.below h.ks.be ho h.ks.be.size hq h.np h.ng (by simp)⟩, h.np, h.ng⟩
theorem PK.add {b : Nat} {ty : TypeId} {cs : Array Value} (h : PK w0 p g m L c f W) (hb : Blk W b ty cs) (h1 : ty ≠ 88) (h2 : ty ≠ 37) (h3 : ty ≠ 100) : PK w0 p g m ((b, ty, cs) :: L) c f W := ⟨h.ar, h.cb, h.ks.add hb h1 h2 h3, h.np, h.ng⟩
/-- A variable of its own, that is laid. -/
theorem PK.var {ty : TypeId} {cs : Array Value} (h : PK w0 p g m L c f W) (h1 : ty ≠ 88) (h2 : ty ≠ 37) (h3 : ty ≠ 100) : PK w0 p g m ((W.heap.size, ty, cs) :: L) c f (W.alloc (.cells cs ty)) := (h.alloc _).add (Blk.new W ty cs) h1 h2 h3
theorem PK.be (h : PK w0 p g m L c f W) : Below w0.heap.size w0 W := h.ks.be
/-- An arena at first. -/
theorem PK.first (A : Ar W p g 42 42 c f) (hc : CB c m) (hb : Below w0.heap.size w0 W) (np : w0.heap.size ≤ p) (ng : w0.heap.size ≤ g) : PK w0 p g m [] c f W := ⟨A, hc, ⟨trivial, hb⟩, np, ng⟩

theorem Kp.cells1 {b : Nat} {ty : TypeId} {v : Value} (h : Kp (b, ty, #[v]) W) : W.cell? ⟨b, 0, none⟩ = some v ∧ b < W.heap.size := ⟨h.b.cell 0, h.b.lt⟩
theorem Kp.cells3 {b : Nat} {ty : TypeId} {v0 v1 v2 : Value} (h : Kp (b, ty, #[v0, v1, v2]) W) : W.cell? ⟨b, 0, none⟩ = some v0 ∧ W.cell? ⟨b, 1, none⟩ = some v1 ∧ W.cell? ⟨b, 2, none⟩ = some v2 ∧ b < W.heap.size := ⟨h.b.cell 0, h.b.cell 1, h.b.cell 2, h.b.lt⟩
theorem Kp.cells4 {b : Nat} {ty : TypeId} {v0 v1 v2 v3 : Value} (h : Kp (b, ty, #[v0, v1, v2, v3]) W) : W.cell? ⟨b, 0, none⟩ = some v0 ∧ W.cell? ⟨b, 1, none⟩ = some v1 ∧ W.cell? ⟨b, 2, none⟩ = some v2 ∧ W.cell? ⟨b, 3, none⟩ = some v3 ∧ b < W.heap.size := ⟨h.b.cell 0, h.b.cell 1, h.b.cell 2, h.b.cell 3, h.b.lt⟩
theorem Kp.cells5 {b : Nat} {ty : TypeId} {v0 v1 v2 v3 v4 : Value} (h : Kp (b, ty, #[v0, v1, v2, v3, v4]) W) : W.cell? ⟨b, 0, none⟩ = some v0 ∧ W.cell? ⟨b, 1, none⟩ = some v1 ∧ W.cell? ⟨b, 2, none⟩ = some v2 ∧ W.cell? ⟨b, 3, none⟩ = some v3 ∧ W.cell? ⟨b, 4, none⟩ = some v4 ∧ b < W.heap.size := ⟨h.b.cell 0, h.b.cell 1, h.b.cell 2, h.b.cell 3, h.b.cell 4, h.b.lt⟩
end
end Go.Proofs.Ytipjbgkfhkidkaa
