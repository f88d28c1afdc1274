/- PtrSeen: what stands in memory; what its closure does, plainly. -/
import Derived.Test.YtipjbgkfhkidkaaPtrO
namespace Go.Proofs.Ytipjbgkfhkidkaa
open Go.RowKit

set_option maxRecDepth 100000

/-- What one call makes of the pens: in PtrSeen. -/
def doS (x : Sx) (o : Op4) : Sx :=
  if o.k = 1 then (if x.s (lowB o.p) = false ∧ 0 ≤ o.x ∧ o.x ≤ 65535 then x.write (2 * lowB o.p + lowB o.i) o.x else x)
  else if o.k = 2 then x.commit (lowB o.p)
  else if o.k = 3 ∧ x.s (lowB o.p) = true then ((x.clean (2 * lowB o.p)).clean (2 * lowB o.p + 1)).end_ (lowB o.p)
  else x

/-- The statement's memory: an arena, variables that nobody turns, tags, who has committed, what was written. -/
structure SM (w0 : World) (p g m : Nat) (L : List (Nat × TypeId × Array Value)) (tb sb wb : Nat) (x y : Sx) (W : World) : Prop where
  ma : MA W p g m x
  ks : KS w0 L W
  bt : Blk W tb 76 #[.int .i64 (y.g 0 : Int), .int .i64 (y.g 1 : Int)]
  bs : Blk W sb 77 #[.bool (y.s 0), .bool (y.s 1)]
  bw : Blk W wb 78 #[.bool (y.wr 0), .bool (y.wr 1), .bool (y.wr 2), .bool (y.wr 3)]
  kt : ∀ z ∈ L, z.2.1 ≠ 76 ∧ z.2.1 ≠ 77 ∧ z.2.1 ≠ 78
  np : w0.heap.size ≤ p
  ng : w0.heap.size ≤ g
  nt : w0.heap.size ≤ tb
  ns : w0.heap.size ≤ sb
  nw : w0.heap.size ≤ wb

/-- What the closure may turn. -/
def SF (p g tb sb wb i : Nat) : Prop := i = p ∨ i = g ∨ i = tb ∨ i = sb ∨ i = wb

section
variable {w0 W W' : World} {p g m m' tb sb wb : Nat} {L : List (Nat × TypeId × Array Value)} {x x' y y' : Sx}
theorem KeptL.mem (h : KeptL L W) : ∀ z ∈ L, Kp z W := by
  induction L with
  | nil => intro z hz; cases hz
  | cons a L ih =>
    intro z hz
    rcases List.mem_cons.1 hz with rfl | hz
    · exact h.1
    · exact ih h.2 z hz
theorem KeptL.of_mem (h : ∀ z ∈ L, Kp z W) : KeptL L W := by
  induction L with
  | nil => trivial
  | cons a L ih => exact ⟨h a (List.mem_cons_self ..), ih fun z hz => h z (List.mem_cons_of_mem _ hz)⟩
theorem SM.below (h : SM w0 p g m L tb sb wb x y W) (hb : Below W.heap.size W W') : SM w0 p g m L tb sb wb x y W' :=
  ⟨h.ma.below hb, h.ks.below hb, h.bt.later hb, h.bs.later hb, h.bw.later hb, h.kt, h.np, h.ng, h.nt, h.ns, h.nw⟩
theorem SM.drew (h : SM w0 p g m L tb sb wb x y W) : SM w0 p g m L tb sb wb x y W.drew := h.below (Below.refl _ _).drew
theorem SM.alloc (h : SM w0 p g m L tb sb wb x y W) (o : Obj) : SM w0 p g m L tb sb wb x y (W.alloc o) := h.below ((Below.refl _ _).alloc (Nat.le_refl _) o)
theorem SM.arena (h : SM w0 p g m L tb sb wb x y W) (hm : MA W' p g m' x') (ho : Only p g W W') : SM w0 p g m' L tb sb wb x' y W' := by
  obtain ⟨c, f, A, C, R⟩ := h.ma
  exact ⟨hm, ⟨h.ks.k.map fun _ hx => hx.arena A ho, Only.below h.ks.be ho h.ks.be.size h.np h.ng⟩, h.bt.arena A ho (by decide) (by decide), h.bs.arena A ho (by decide) (by decide), h.bw.arena A ho (by decide) (by decide), h.kt, h.np, h.ng, h.nt, h.ns, h.nw⟩
theorem SM.add (h : SM w0 p g m L tb sb wb x y W) {b : Nat} {ty : TypeId} {cs : Array Value} (hb : Blk W b ty cs) (h1 : ty ≠ 88) (h2 : ty ≠ 37) (h3 : ty ≠ 100)
    (h4 : ty ≠ 76) (h5 : ty ≠ 77) (h6 : ty ≠ 78) : SM w0 p g m ((b, ty, cs) :: L) tb sb wb x y W :=
  ⟨h.ma, h.ks.add hb h1 h2 h3, h.bt, h.bs, h.bw, fun z hz => by rcases List.mem_cons.1 hz with rfl | hz; exact ⟨h4, h5, h6⟩; exact h.kt z hz, h.np, h.ng, h.nt, h.ns, h.nw⟩
theorem SM.var (h : SM w0 p g m L tb sb wb x y W) {ty : TypeId} {cs : Array Value} (h1 : ty ≠ 88) (h2 : ty ≠ 37) (h3 : ty ≠ 100)
    (h4 : ty ≠ 76) (h5 : ty ≠ 77) (h6 : ty ≠ 78) : SM w0 p g m ((W.heap.size, ty, cs) :: L) tb sb wb x y (W.alloc (.cells cs ty)) :=
  (h.alloc _).add (Blk.new W ty cs) h1 h2 h3 h4 h5 h6
theorem SM.tl {z : Nat × TypeId × Array Value} (h : SM w0 p g m (z :: L) tb sb wb x y W) : SM w0 p g m L tb sb wb x y W :=
  ⟨h.ma, ⟨h.ks.k.tl, h.ks.be⟩, h.bt, h.bs, h.bw, fun z hz => h.kt z (List.mem_cons_of_mem _ hz), h.np, h.ng, h.nt, h.ns, h.nw⟩
/-- A store into another block of the statement's. -/
theorem SM.set_ (h : SM w0 p g m L tb sb wb x y W) {b j : Nat} {u : Value} (hb : w0.heap.size ≤ b) (hp : b ≠ p) (hg : b ≠ g) (hL : ∀ z ∈ L, z.1 ≠ b)
    (ht : Blk (W.setCell ⟨b, j, none⟩ u) tb 76 #[.int .i64 (y'.g 0 : Int), .int .i64 (y'.g 1 : Int)]) (hs : Blk (W.setCell ⟨b, j, none⟩ u) sb 77 #[.bool (y'.s 0), .bool (y'.s 1)])
    (hw : Blk (W.setCell ⟨b, j, none⟩ u) wb 78 #[.bool (y'.wr 0), .bool (y'.wr 1), .bool (y'.wr 2), .bool (y'.wr 3)]) : SM w0 p g m L tb sb wb x y' (W.setCell ⟨b, j, none⟩ u) := by
  obtain ⟨c, f, A, C, R⟩ := h.ma
  exact ⟨⟨c, f, A.q_far hp hg u, C, R⟩, ⟨KeptL.of_mem fun z hz => have k := h.ks.k.mem z hz; ⟨k.b.far (hL z hz) u, k.t1, k.t2, k.t3⟩, h.ks.be.setCell hb u⟩, ht, hs, hw, h.kt, h.np, h.ng, h.nt, h.ns, h.nw⟩
theorem SM.t_ne (h : SM w0 p g m L tb sb wb x y W) : tb ≠ p ∧ tb ≠ g ∧ sb ≠ p ∧ sb ≠ g ∧ wb ≠ p ∧ wb ≠ g ∧ tb ≠ sb ∧ tb ≠ wb ∧ sb ≠ wb := by
  obtain ⟨c, f, A, C, R⟩ := h.ma
  exact ⟨h.bt.ne_p A (by decide), h.bt.ne_g A (by decide), h.bs.ne_p A (by decide), h.bs.ne_g A (by decide), h.bw.ne_p A (by decide), h.bw.ne_g A (by decide), h.bt.ne_ h.bs (by decide), h.bt.ne_ h.bw (by decide), h.bs.ne_ h.bw (by decide)⟩
theorem four_set {a0 a1 a2 a3 : Bool} {j : Nat} (hj : j < 4) (b : Bool) : (#[Value.bool a0, .bool a1, .bool a2, .bool a3]).setIfInBounds j (.bool b) = #[.bool (if 0 = j then b else a0), .bool (if 1 = j then b else a1), .bool (if 2 = j then b else a2), .bool (if 3 = j then b else a3)] := by
  have : j = 0 ∨ j = 1 ∨ j = 2 ∨ j = 3 := by omega
  rcases this with rfl | rfl | rfl | rfl <;> rfl
theorem two_set {a0 a1 : Bool} {j : Nat} (hj : j < 2) (b : Bool) : (#[Value.bool a0, .bool a1]).setIfInBounds j (.bool b) = #[.bool (if 0 = j then b else a0), .bool (if 1 = j then b else a1)] := by
  have : j = 0 ∨ j = 1 := by omega
  rcases this with rfl | rfl <;> rfl
theorem two_seti {a0 a1 : Nat} {j : Nat} (hj : j < 2) (b : Nat) : (#[Value.int .i64 (a0 : Int), .int .i64 (a1 : Int)]).setIfInBounds j (.int .i64 (b : Int)) = #[.int .i64 ((if 0 = j then b else a0 : Nat) : Int), .int .i64 ((if 1 = j then b else a1 : Nat) : Int)] := by
  have : j = 0 ∨ j = 1 := by omega
  rcases this with rfl | rfl <;> rfl
/-- wrote[j] is b now. -/
theorem SM.setW (h : SM w0 p g m L tb sb wb x y W) {j : Nat} (hj : j < 4) (b : Bool) : SM w0 p g m L tb sb wb x ⟨y.g, y.s, fun i => if i = j then b else y.wr i, y.o, y.n⟩ (W.setCell ⟨wb, j, none⟩ (.bool b)) := by
  obtain ⟨n1, n2, n3, n4, n5, n6, n7, n8, n9⟩ := h.t_ne
  refine h.set_ h.nw n5 n6 (fun z hz => (h.ks.k.mem z hz).b.ne_ h.bw (h.kt z hz).2.2) (h.bt.far n8 _) (h.bs.far n9 _) ?_
  have := h.bw.set_ j (.bool b)
  rw [four_set hj] at this
  exact this
/-- seen[j] is b now. -/
theorem SM.setS (h : SM w0 p g m L tb sb wb x y W) {j : Nat} (hj : j < 2) (b : Bool) : SM w0 p g m L tb sb wb x ⟨y.g, fun i => if i = j then b else y.s i, y.wr, y.o, y.n⟩ (W.setCell ⟨sb, j, none⟩ (.bool b)) := by
  obtain ⟨n1, n2, n3, n4, n5, n6, n7, n8, n9⟩ := h.t_ne
  refine h.set_ h.ns n3 n4 (fun z hz => (h.ks.k.mem z hz).b.ne_ h.bs (h.kt z hz).2.1) (h.bt.far n7 _) ?_ (h.bw.far n9.symm _)
  have := h.bs.set_ j (.bool b)
  rw [two_set hj] at this
  exact this
/-- tags[j] is b now. -/
theorem SM.setT (h : SM w0 p g m L tb sb wb x y W) {j : Nat} (hj : j < 2) (b : Nat) : SM w0 p g m L tb sb wb x ⟨fun i => if i = j then b else y.g i, y.s, y.wr, y.o, y.n⟩ (W.setCell ⟨tb, j, none⟩ (.int .i64 (b : Int))) := by
  obtain ⟨n1, n2, n3, n4, n5, n6, n7, n8, n9⟩ := h.t_ne
  refine h.set_ h.nt n1 n2 (fun z hz => (h.ks.k.mem z hz).b.ne_ h.bt (h.kt z hz).1) ?_ (h.bs.far n7.symm _) (h.bw.far n8.symm _)
  have := h.bt.set_ j (.int .i64 (b : Int))
  rw [two_seti hj] at this
  exact this
theorem SM.cells (h : SM w0 p g m L tb sb wb x y W) {q : Nat} (hq : q < 2) : W.cell? ⟨tb, q, none⟩ = some (.int .i64 (y.g q : Int)) ∧ W.cell? ⟨sb, q, none⟩ = some (.bool (y.s q)) ∧ W.frozen? ⟨tb, q, none⟩ = false ∧ W.frozen? ⟨sb, q, none⟩ = false ∧ tb < W.heap.size ∧ sb < W.heap.size ∧ wb < W.heap.size := by
  have : q = 0 ∨ q = 1 := by omega
  rcases this with rfl | rfl
  · exact ⟨h.bt.cell 0, h.bs.cell 0, h.bt.frozen _, h.bs.frozen _, h.bt.lt, h.bs.lt, h.bw.lt⟩
  · exact ⟨h.bt.cell 1, h.bs.cell 1, h.bt.frozen _, h.bs.frozen _, h.bt.lt, h.bs.lt, h.bw.lt⟩
theorem SM.cellw (h : SM w0 p g m L tb sb wb x y W) {j : Nat} (hj : j < 4) : W.cell? ⟨wb, j, none⟩ = some (.bool (y.wr j)) ∧ W.frozen? ⟨wb, j, none⟩ = false := by
  have : j = 0 ∨ j = 1 ∨ j = 2 ∨ j = 3 := by omega
  rcases this with rfl | rfl | rfl | rfl
  · exact ⟨h.bw.cell 0, h.bw.frozen _⟩
  · exact ⟨h.bw.cell 1, h.bw.frozen _⟩
  · exact ⟨h.bw.cell 2, h.bw.frozen _⟩
  · exact ⟨h.bw.cell 3, h.bw.frozen _⟩
theorem SM.eqY (h : SM w0 p g m L tb sb wb x y W) (hg : ∀ i, i < 2 → y.g i = y'.g i) (hs : ∀ i, i < 2 → y.s i = y'.s i) (hw : ∀ i, i < 4 → y.wr i = y'.wr i) : SM w0 p g m L tb sb wb x y' W := by
  refine ⟨h.ma, h.ks, ?_, ?_, ?_, h.kt, h.np, h.ng, h.nt, h.ns, h.nw⟩
  · rw [← hg 0 (by omega), ← hg 1 (by omega)]; exact h.bt
  · rw [← hs 0 (by omega), ← hs 1 (by omega)]; exact h.bs
  · rw [← hw 0 (by omega), ← hw 1 (by omega), ← hw 2 (by omega), ← hw 3 (by omega)]; exact h.bw
theorem SM.more (h : SM w0 p g m L tb sb wb x y W) (hm : m ≤ m') : SM w0 p g m' L tb sb wb x y W := ⟨h.ma.more hm, h.ks, h.bt, h.bs, h.bw, h.kt, h.np, h.ng, h.nt, h.ns, h.nw⟩
end

/-- What the closure leaves. -/
def Done4 (w0 : World) (p g m : Nat) (L : List (Nat × TypeId × Array Value)) (tb sb wb : Nat) (x : Sx) (w : World) (e : Ending) (w' : World) : Prop :=
  e = .returned (.tuple #[]) ∧ SM w0 p g (m + 10) L tb sb wb x x w' ∧ OnlyF (SF p g tb sb wb) w w'
end Go.Proofs.Ytipjbgkfhkidkaa
