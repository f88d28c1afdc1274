/- What MemTraces keeps in memory: an arena, its copy, a trace, a list, a row and a set; and what each step turns. -/
import Derived.Test.YtjnnohajmblfkaaTrM
namespace Go.Proofs.Ytjnnohajmblfkaa
open Go.RowKit

theorem grown_drew (w : World) (r : Option Nat) : w.grownBy w.drew r := ⟨rfl, rfl, rfl, Nat.le_refl _, fun _ _ _ => rfl⟩
theorem grown_set (w : World) (g j : Nat) (u : Value) : w.grownBy (w.setCell ⟨g, j, none⟩ u) (some g) :=
  ⟨rfl, rfl, rfl, by simp [World.setCell], fun i _ h => Below.heap_setCell w ⟨g, j, none⟩ u i (fun e => h (by rw [e]))⟩

section
variable {w w' : World} {r : Option Nat}
theorem Blk.grownK {i : Nat} {ty : TypeId} {cs : Array Value} (h : Blk w i ty cs) (hg : w.grownBy w' r) (hi : some i ≠ r) : Blk w' i ty cs := (hg.block i h.lt hi).trans h
theorem Ar.grownK {p g n cap : Nat} {c f : Nat → Int} (A : Ar w p g n cap c f) (hg : w.grownBy w' r) (h1 : some p ≠ r) (h2 : some g ≠ r) : Ar w' p g n cap c f := by
  obtain ⟨zs, hz, he⟩ := A.cells
  exact ⟨A.own.grownK hg h1, ⟨zs, hz.grownK hg h2, he⟩, A.le, A.few, A.fit⟩
theorem RowA.grownK {base : Nat} {v : Value} {xs : List AccV} (h : RowA w base v xs) (hg : w.grownBy w' r) (hr : ∀ i, v.ownBlock = some i → some i ≠ r) : RowA w' base v xs :=
  h.kept_of fun i hi => hg.block i (h.lt i hi).2 (hr i hi)
theorem Tr.grownK {base t p g n cap : Nat} {c f : Nat → Int} {v : Value} {xs : List AccV} (T : Tr w base t p g n cap c f v xs) (hg : w.grownBy w' r) (h1 : some t ≠ r) (h2 : some p ≠ r) (h3 : some g ≠ r) (hr : ∀ i, v.ownBlock = some i → some i ≠ r) : Tr w' base t p g n cap c f v xs :=
  ⟨T.own.grownK hg h1, T.ar.grownK hg h2 h3, T.row.grownK hg hr, T.pb, T.gb, T.tb⟩
theorem Rw.grownK {g n : Nat} {f : Nat → Int} (h : Rw w g n f) (hg : w.grownBy w' r) (h1 : some g ≠ r) : Rw w' g n f := by
  obtain ⟨zs, hz, he⟩ := h
  exact ⟨zs, hz.grownK hg h1, he⟩
theorem Sets.grownK {b m : Nat} {zs : List Int} (h : Sets w b m zs) (hg : w.grownBy w' r) (h1 : some b ≠ r) : Sets w' b m zs := h.kept_of (hg.block b h.lt h1)
end

/-- The blocks. -/
structure Dm where
  z2 : Nat
  p : Nat
  g : Nat
  cp : Nat
  pw : Nat
  gw : Nat
  cw : Nat
  t : Nat
  pt : Nat
  gt : Nat
  ct : Nat
  gl : Nat
  b : Nat
  n : Nat
structure Dm.ok (D : Dm) (z : Nat) : Prop where
  zz : z ≤ D.z2
  a : z ≤ D.p ∧ z ≤ D.g ∧ z ≤ D.pw ∧ z ≤ D.gw ∧ z ≤ D.gl ∧ z ≤ D.b
  a2 : D.p < D.z2 ∧ D.g < D.z2 ∧ D.pw < D.z2 ∧ D.gw < D.z2
  t1 : D.z2 ≤ D.t ∧ D.z2 ≤ D.pt ∧ D.z2 ≤ D.gt
  l : D.gl ≠ D.g ∧ D.gl ≠ D.gw ∧ D.gl ≠ D.gt

/-- All that is in memory. -/
structure TS (D : Dm) (w wr : World) (c f c3 F1 : Nat → Int) (v : Value) (xs1 : List AccV) (F2 : Nat → Int) (u : Value) (xs2 : List AccV) (m : Nat) (zs : List Int) : Prop where
  A : Ar wr D.p D.g D.n D.cp c f
  W : Ar wr D.pw D.gw D.n D.cw c f
  T : Tr wr D.z2 D.t D.pt D.gt D.n D.ct c3 F1 v xs1
  L : Rw wr D.gl D.n F2
  R : RowA wr w.heap.size u xs2
  M : Sets wr D.b m zs
  ra : RA v u
  B : Below w.heap.size w wr

theorem Rw.blk {w : World} {g n : Nat} {f : Nat → Int} (h : Rw w g n f) : ∃ cs, Blk w g 32 cs := by
  obtain ⟨zs, hz, _⟩ := h
  exact ⟨zs, hz⟩
theorem Ar.blk {w : World} {p g n cap : Nat} {c f : Nat → Int} (A : Ar w p g n cap c f) : ∃ cs, Blk w g 32 cs := by
  obtain ⟨zs, hz, _⟩ := A.cells
  exact ⟨zs, hz⟩
theorem sne {a b : Nat} (h : a ≠ b) : some a ≠ some b := fun e => h (Option.some.inj e)

section
variable {D : Dm} {w wr w' : World} {c f c3 c3' F1 F1' F2 F2' : Nat → Int} {v v' u u' : Value} {xs1 xs1' xs2 xs2' : List AccV} {m : Nat} {zs zs' : List Int}
theorem TS.rest (H : TS D w wr c f c3 F1 v xs1 F2 u xs2 m zs) (hg : wr.grownBy w' none) : TS D w w' c f c3 F1 v xs1 F2 u xs2 m zs := by
  have nn : ∀ i : Nat, some i ≠ none := fun i e => by cases e
  exact ⟨H.A.grownK hg (nn _) (nn _), H.W.grownK hg (nn _) (nn _), H.T.grownK hg (nn _) (nn _) (nn _) fun _ _ => nn _, H.L.grownK hg (nn _), H.R.grownK hg fun _ _ => nn _, H.M.grownK hg (nn _), H.ra, H.B.grown hg H.B.size (fun i hi => by cases hi)⟩
theorem TS.alloc (H : TS D w wr c f c3 F1 v xs1 F2 u xs2 m zs) (o : Obj) : TS D w (wr.alloc o) c f c3 F1 v xs1 F2 u xs2 m zs := H.rest (World.grownBy_alloc wr o none)
theorem TS.drew (H : TS D w wr c f c3 F1 v xs1 F2 u xs2 m zs) : TS D w wr.drew c f c3 F1 v xs1 F2 u xs2 m zs := H.rest (grown_drew wr none)

/-- The list is stored. -/
theorem TS.stepL (H : TS D w wr c f c3 F1 v xs1 F2 u xs2 m zs) (ok : D.ok w.heap.size) (hg : wr.grownBy w' (some D.gl)) (hL : Rw w' D.gl D.n F2') : TS D w w' c f c3 F1 v xs1 F2' u xs2 m zs := by
  obtain ⟨_, hl⟩ := H.L.blk
  have l := ok.l
  exact ⟨H.A.grownK hg (sne (H.A.own.ne_ hl (by decide))) (sne l.1.symm), H.W.grownK hg (sne (H.W.own.ne_ hl (by decide))) (sne l.2.1.symm),
    H.T.grownK hg (sne (H.T.own.ne_ hl (by decide))) (sne (H.T.ar.own.ne_ hl (by decide))) (sne l.2.2.symm) (fun i hi e => H.T.row.ne_blk hl (by decide) (e.symm.trans hi.symm)), hL,
    H.R.grownK hg (fun i hi e => H.R.ne_blk hl (by decide) (e.symm.trans hi.symm)), H.M.grownK hg (sne (H.M.ne_blk hl)), H.ra, H.B.grown hg H.B.size (fun i hi => by cases hi; exact ok.a.2.2.2.2.1)⟩

/-- The map is stored. -/
theorem TS.stepM {m' : Nat} (H : TS D w wr c f c3 F1 v xs1 F2 u xs2 m zs) (ok : D.ok w.heap.size) (hg : wr.grownBy w' (some D.b)) (hM : Sets w' D.b m' zs') : TS D w w' c f c3 F1 v xs1 F2 u xs2 m' zs' := by
  obtain ⟨_, h1⟩ := H.A.blk
  obtain ⟨_, h2⟩ := H.W.blk
  obtain ⟨_, h3⟩ := H.T.ar.blk
  obtain ⟨_, h4⟩ := H.L.blk
  have q : ∀ {i : Nat} {ty : TypeId} {cs : Array Value}, Blk wr i ty cs → some i ≠ some D.b := fun hi => sne (fun e => H.M.ne_blk hi e.symm)
  exact ⟨H.A.grownK hg (q H.A.own) (q h1), H.W.grownK hg (q H.W.own) (q h2), H.T.grownK hg (q H.T.own) (q H.T.ar.own) (q h3) (fun i hi e => H.M.ne_row H.T.row (e.symm.trans hi.symm)), H.L.grownK hg (q h4),
    H.R.grownK hg (fun i hi e => H.M.ne_row H.R (e.symm.trans hi.symm)), hM, H.ra, H.B.grown hg H.B.size (fun i hi => by cases hi; exact ok.a.2.2.2.2.2)⟩

/-- The row is grown. -/
theorem TS.stepR (H : TS D w wr c f c3 F1 v xs1 F2 u xs2 m zs) (hg : wr.grownBy w' u.ownBlock) (hR : RowA w' w.heap.size u' xs2') (hu : u'.ownBlock = u.ownBlock ∨ ∃ i, u'.ownBlock = some i ∧ wr.heap.size ≤ i) : TS D w w' c f c3 F1 v xs1 F2 u' xs2' m zs := by
  obtain ⟨_, h1⟩ := H.A.blk
  obtain ⟨_, h2⟩ := H.W.blk
  obtain ⟨_, h3⟩ := H.T.ar.blk
  obtain ⟨_, h4⟩ := H.L.blk
  exact ⟨H.A.grownK hg (H.R.ne_blk H.A.own (by decide)) (H.R.ne_blk h1 (by decide)), H.W.grownK hg (H.R.ne_blk H.W.own (by decide)) (H.R.ne_blk h2 (by decide)),
    H.T.grownK hg (H.R.ne_blk H.T.own (by decide)) (H.R.ne_blk H.T.ar.own (by decide)) (H.R.ne_blk h3 (by decide)) (fun i hi e => H.ra i hi e.symm), H.L.grownK hg (H.R.ne_blk h4 (by decide)), hR,
    H.M.grownK hg (H.M.ne_row H.R), (H.ra.symm.step hu fun i hi => (H.T.row.lt i hi).2).symm, H.B.grown hg H.B.size (fun i hi => (H.R.lt i hi).1)⟩

/-- The trace is called. -/
theorem TS.stepT (H : TS D w wr c f c3 F1 v xs1 F2 u xs2 m zs) (ok : D.ok w.heap.size) (hT : Tr w' D.z2 D.t D.pt D.gt D.n D.ct c3' F1' v' xs1') (O : OnlyT D.t D.pt D.gt v.ownBlock wr w') (hv : v'.ownBlock = v.ownBlock ∨ ∃ i, v'.ownBlock = some i ∧ wr.heap.size ≤ i) :
    TS D w w' c f c3' F1' v' xs1' F2 u xs2 m zs := by
  obtain ⟨_, h3⟩ := H.T.ar.blk
  obtain ⟨zs4, h4, e4⟩ := H.L
  obtain ⟨o1, o2, o3, o4, o5⟩ := ok
  have l4 : Blk w' D.gl 32 zs4 := h4.onlyT O (h4.ne_ H.T.own (by decide)) (h4.ne_ H.T.ar.own (by decide)) o5.2.2 (H.T.row.ne_blk h4 (by decide))
  refine ⟨H.A.onlyT H.T O (by omega) (by omega), H.W.onlyT H.T O (by omega) (by omega), hT, ⟨zs4, l4, e4⟩, H.R.kept_of fun i hi => O.block i (H.R.lt i hi).2 ?_ ?_ ?_ (fun e => H.ra i e.symm hi),
    H.M.kept_of (O.block D.b H.M.lt (H.M.ne_blk H.T.own) (H.M.ne_blk H.T.ar.own) (H.M.ne_blk h3) (H.M.ne_row H.T.row)), H.ra.step hv fun i hi => (H.R.lt i hi).2,
    O.below H.B H.B.size (by omega) (by omega) (by omega) fun i hi => by have := (H.T.row.lt i hi).1; omega⟩
  · rintro rfl; exact H.R.ne_blk H.T.own (by decide) hi.symm
  · rintro rfl; exact H.R.ne_blk H.T.ar.own (by decide) hi.symm
  · rintro rfl; exact H.R.ne_blk h3 (by decide) hi.symm
end

/-- A block of another type stays, whatever a trace does. -/
theorem Blk.byT {D : Dm} {w wr w' : World} {c f c3 F1 F2 : Nat → Int} {v u : Value} {xs1 xs2 : List AccV} {m : Nat} {zs : List Int} {h : Nat} {cs : Array Value} (X : Blk wr h 34 cs) (H : TS D w wr c f c3 F1 v xs1 F2 u xs2 m zs) (O : OnlyT D.t D.pt D.gt v.ownBlock wr w') : Blk w' h 34 cs := by
  obtain ⟨_, h3⟩ := H.T.ar.blk
  exact X.onlyT O (X.ne_ H.T.own (by decide)) (X.ne_ H.T.ar.own (by decide)) (X.ne_ h3 (by decide)) (H.T.row.ne_blk X (by decide))
end Go.Proofs.Ytjnnohajmblfkaa
