/- The contract of a play's step. Printed by wip/tools/slots.py. -/
import Derived.Test.YtgjlilcljefbfaaSlotR
namespace Go.Proofs.Ytgjlilcljefbfaa
open Go.RowKit

set_option maxRecDepth 100000

/-- What a play's step leaves. -/
def Played (pb p g n cap S M m b q : Nat) (av hv : Value) (c : Nat → Int) (k : Wk) (o : Out) (w : World) (e : Ending) (w' : World) : Prop :=
  ∃ f' q' hv', e = .returned (.bool true) ∧ SA w' p g n cap 1 S (M + 1) (m + 1) (upd c o.j (c o.j + 1)) f' o.hd o.nx ∧ WkM w' b q' S hv' o.k o.hs ∧ PlB w' pb p S av ∧
    OnlyF (fun i => i = p ∨ i = g ∨ Foot b q hv k i) w w' ∧ (∀ i, Foot b q' hv' o.k i → Foot b q hv k i ∨ w.heap.size ≤ i)

section
variable {w w' : World} {pb p g n cap S b q : Nat} {av tv gv hv : Value} {c f : Nat → Int}
theorem PlB.cells (h : PlB w pb p S av) : w.cell? ⟨pb, 0, none⟩ = some (.int .i64 1) ∧ w.cell? ⟨pb, 1, none⟩ = some (.int .i64 S) ∧ w.cell? ⟨pb, 2, none⟩ = some (.int .i64 1) ∧ w.cell? ⟨pb, 3, none⟩ = some (.pointer (some ⟨p, 0, none⟩)) ∧ w.cell? ⟨pb, 4, none⟩ = some av := ⟨Blk.cell h 0, Blk.cell h 1, Blk.cell h 2, Blk.cell h 3, Blk.cell h 4⟩
/-- A worker's own block. -/
def WB (w : World) (b : Nat) (tv gv hv : Value) : Prop := Blk w b 50 #[tv, gv, hv]
theorem WB.cells (h : WB w b tv gv hv) : w.cell? ⟨b, 0, none⟩ = some tv ∧ w.cell? ⟨b, 1, none⟩ = some gv ∧ w.cell? ⟨b, 2, none⟩ = some hv := ⟨Blk.cell h 0, Blk.cell h 1, Blk.cell h 2⟩
theorem WB.fz (h : WB w b tv gv hv) (i : Nat) : w.frozen? ⟨b, i, none⟩ = false := Blk.frozen h i
theorem WB.set0 (h : WB w b tv gv hv) (u : Value) : WB (w.setCell ⟨b, 0, none⟩ u) b u gv hv := Blk.set_ h 0 u
theorem WB.set1 (h : WB w b tv gv hv) (u : Value) : WB (w.setCell ⟨b, 1, none⟩ u) b tv u hv := Blk.set_ h 1 u
theorem WB.set2 (h : WB w b tv gv hv) (u : Value) : WB (w.setCell ⟨b, 2, none⟩ u) b tv gv u := Blk.set_ h 2 u
theorem WB.ne_p (h : WB w b tv gv hv) (A : Ar w p g n cap c f) : b ≠ p := Blk.ne_ h A.own (by decide)
theorem WB.ne_g (h : WB w b tv gv hv) (A : Ar w p g n cap c f) : b ≠ g := by
  obtain ⟨zs, hz, _⟩ := A.cells
  exact Blk.ne_ h hz (by decide)
theorem WB.onlyT (h : WB w b tv gv hv) (A : Ar w p g n cap c f) {ty : TypeId} {V T a hh : Int} {x : Value} (P : Pg w q ty V S T a hh x) (O : OnlyT q p g none w w') : WB w' b tv gv hv :=
  Blk.onlyT h O (Blk.ne_ h P.2 (by rcases P.1 with e | e <;> rw [e] <;> decide)) (h.ne_p A) (h.ne_g A) (by simp)
theorem PlB.onlyT (h : PlB w pb p S av) (A : Ar w p g n cap c f) {ty : TypeId} {V T a hh : Int} {x : Value} (P : Pg w q ty V S T a hh x) (O : OnlyT q p g none w w') : PlB w' pb p S av := by
  obtain ⟨zs, hz, _⟩ := A.cells
  exact Blk.onlyT h O (Blk.ne_ h P.2 (by rcases P.1 with e | e <;> rw [e] <;> decide)) (Blk.ne_ h A.own (by decide)) (Blk.ne_ h hz (by decide)) (by simp)
theorem PlB.far (h : PlB w pb p S av) (W : WB w b tv gv hv) (j : Nat) (u : Value) : PlB (w.setCell ⟨b, j, none⟩ u) pb p S av := Blk.far (p := ⟨b, j, none⟩) h (show pb ≠ b from Blk.ne_ h W (by decide)) u
theorem SA.far {t M m : Nat} {hd : Nat × Nat} {nx : Nat → Nat} (h : SA w p g n cap t S M m c f hd nx) (W : WB w b tv gv hv) (j : Nat) (u : Value) : SA (w.setCell ⟨b, j, none⟩ u) p g n cap t S M m c f hd nx :=
  ⟨h.1.q_far (W.ne_p h.1) (W.ne_g h.1) u, h.2⟩
theorem LI.far {v : Value} {l : List Nat} (h : LI w v l) (W : WB w b tv gv hv) (j : Nat) (u : Value) : LI (w.setCell ⟨b, j, none⟩ u) v l :=
  h.keep fun i hi => Below.heap_setCell w ⟨b, j, none⟩ u i (by rintro rfl; exact h.ne_blk W (by decide) hi)
theorem Pg.far_ {ty : TypeId} {V T a hh : Int} {x : Value} (P : Pg w q ty V S T a hh x) (W : WB w b tv gv hv) (j : Nat) (u : Value) : Pg (w.setCell ⟨b, j, none⟩ u) q ty V S T a hh x :=
  ⟨P.1, Blk.far (p := ⟨b, j, none⟩) P.2 (show q ≠ b from P.2.ne_ W (by rcases P.1 with e | e <;> rw [e] <;> decide)) u⟩
theorem WB.grown {r : Option Nat} {v : Value} {l : List Nat} (h : WB w b tv gv hv) (L : LI w v l) (hg : w.grownBy w' r) (hr : r = bk v) : WB w' b tv gv hv := Blk.grown h hg (by rw [hr]; exact L.ne_blk h (by decide))
theorem PlB.grown {r : Option Nat} {v : Value} {l : List Nat} (h : PlB w pb p S av) (L : LI w v l) (hg : w.grownBy w' r) (hr : r = bk v) : PlB w' pb p S av := Blk.grown h hg (by rw [hr]; exact L.ne_blk h (by decide))
theorem SA.grown {t M m : Nat} {hd : Nat × Nat} {nx : Nat → Nat} {r : Option Nat} {v : Value} {l : List Nat} (h : SA w p g n cap t S M m c f hd nx) (L : LI w v l) (hg : w.grownBy w' r) (hr : r = bk v) : SA w' p g n cap t S M m c f hd nx := by
  obtain ⟨zs, hz, _⟩ := h.1.cells
  exact ⟨h.1.grown hg (by rw [hr]; exact L.ne_blk h.1.own (by decide)) (by rw [hr]; exact L.ne_blk hz (by decide)), h.2⟩
end

/-- The midst of a step: a worker has a program. -/
structure MidT (F : Nat → Prop) (w0 : World) (pb p g n cap S M m b q : Nat) (av hv : Value) (c f : Nat → Int) (hd : Nat × Nat) (nx : Nat → Nat) (k : Wk) (g0 : Nat × Nat) (hs : List Nat) (w : World) : Prop where
  sa : SA w p g n cap 1 S M m c f hd nx
  wb : WB w b (.pointer (some ⟨q, 0, none⟩)) (.pointer none) hv
  li : LI w hv hs
  pg : PgT w q 1 S 1 g0 k
  pl : PlB w pb p S av
  fr : OnlyF F w0 w
structure MidG (F : Nat → Prop) (w0 : World) (pb p g n cap S M m b q s : Nat) (av hv : Value) (c f : Nat → Int) (hd : Nat × Nat) (nx : Nat → Nat) (k : Wk) (hs : List Nat) (w : World) : Prop where
  sa : SA w p g n cap 1 S M m c f hd nx
  wb : WB w b (.pointer none) (.pointer (some ⟨q, 0, none⟩)) hv
  li : LI w hv hs
  pg : PgG w q 1 S 1 s k
  pl : PlB w pb p S av
  fr : OnlyF F w0 w
section
variable {F : Nat → Prop} {w0 w w' : World} {pb p g n cap S M m b q s : Nat} {av hv : Value} {c f : Nat → Int} {hd g0 : Nat × Nat} {nx : Nat → Nat} {k : Wk} {hs : List Nat}
theorem MidT.below (h : MidT F w0 pb p g n cap S M m b q av hv c f hd nx k g0 hs w) (hb : Below w.heap.size w w') : MidT F w0 pb p g n cap S M m b q av hv c f hd nx k g0 hs w' :=
  ⟨h.sa.below hb, Blk.below h.wb hb (Blk.lt h.wb), h.li.below hb, h.pg.below hb, Blk.below h.pl hb (Blk.lt h.pl), h.fr.below hb⟩
theorem MidT.alloc (h : MidT F w0 pb p g n cap S M m b q av hv c f hd nx k g0 hs w) (o : Obj) : MidT F w0 pb p g n cap S M m b q av hv c f hd nx k g0 hs (w.alloc o) := h.below ((Below.refl _ _).alloc (Nat.le_refl _) o)
theorem MidT.drew (h : MidT F w0 pb p g n cap S M m b q av hv c f hd nx k g0 hs w) : MidT F w0 pb p g n cap S M m b q av hv c f hd nx k g0 hs w.drew := h.below (Below.refl _ _).drew
theorem MidG.below (h : MidG F w0 pb p g n cap S M m b q s av hv c f hd nx k hs w) (hb : Below w.heap.size w w') : MidG F w0 pb p g n cap S M m b q s av hv c f hd nx k hs w' :=
  ⟨h.sa.below hb, Blk.below h.wb hb (Blk.lt h.wb), h.li.below hb, h.pg.below hb, Blk.below h.pl hb (Blk.lt h.pl), h.fr.below hb⟩
theorem MidG.alloc (h : MidG F w0 pb p g n cap S M m b q s av hv c f hd nx k hs w) (o : Obj) : MidG F w0 pb p g n cap S M m b q s av hv c f hd nx k hs (w.alloc o) := h.below ((Below.refl _ _).alloc (Nat.le_refl _) o)
theorem MidG.drew (h : MidG F w0 pb p g n cap S M m b q s av hv c f hd nx k hs w) : MidG F w0 pb p g n cap S M m b q s av hv c f hd nx k hs w.drew := h.below (Below.refl _ _).drew
theorem MidT.onlyT {c' f' : Nat → Int} {hd' g1 : Nat × Nat} {k' : Wk} (h : MidT F w0 pb p g n cap S M m b q av hv c f hd nx k g0 hs w) (A : SA w' p g n cap 1 S (M + 1) (m + 1) c' f' hd' nx) (P : PgT w' q 1 S 1 g1 k') (O : OnlyT q p g none w w') (hq : F q ∨ w0.heap.size ≤ q) (hp : F p) (hg : F g) :
    MidT F w0 pb p g n cap S (M + 1) (m + 1) b q av hv c' f' hd' nx k' g1 hs w' := by
  obtain ⟨_, _, _, PP⟩ := h.pg.some
  exact ⟨A, h.wb.onlyT h.sa.1 PP O, h.li.onlyT h.sa.1 PP O, P, h.pl.onlyT h.sa.1 PP O, h.fr.onlyT O hq hp hg⟩
theorem MidG.onlyT {c' f' : Nat → Int} {hd' : Nat × Nat} {nx' : Nat → Nat} {k' : Wk} (h : MidG F w0 pb p g n cap S M m b q s av hv c f hd nx k hs w) (A : SA w' p g n cap 1 S (M + 1) (m + 1) c' f' hd' nx') (P : PgG w' q 1 S 1 s k') (O : OnlyT q p g none w w') (hq : F q ∨ w0.heap.size ≤ q) (hp : F p) (hg : F g) :
    MidG F w0 pb p g n cap S (M + 1) (m + 1) b q s av hv c' f' hd' nx' k' hs w' := by
  obtain ⟨_, _, _, PP⟩ := h.pg.some
  exact ⟨A, h.wb.onlyT h.sa.1 PP O, h.li.onlyT h.sa.1 PP O, P, h.pl.onlyT h.sa.1 PP O, h.fr.onlyT O hq hp hg⟩
end

/-- Counts as a block. -/
theorem cnt_blk (w : World) (c : Nat → Int) : Blk (w.alloc (.cells #[.int .i64 (c 0), .int .i64 (c 1), .int .i64 (c 2), .int .i64 (c 3), .int .i64 (c 4)] 54)) w.heap.size 54 #[.int .i64 (c 0), .int .i64 (c 1), .int .i64 (c 2), .int .i64 (c 3), .int .i64 (c 4)] := Blk.new _ _ _
end Go.Proofs.Ytgjlilcljefbfaa
