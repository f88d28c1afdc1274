/- PtrPens: what stands in memory: two authors, what each wrote, what each cell should mean. -/
import Derived.Test.YtipjbgkfhkidkaaPtrP
import Derived.Maps.RangeWalk
namespace Go.Proofs.Ytipjbgkfhkidkaa
open Go.RowKit

set_option maxRecDepth 100000

theorem zeroII (w : World) : (zeroValue 3).run Try.prog w = .ok (.int .i64 0) w := by kernel_rfl
theorem keyOI {i : Int} (h : i64B i) : keyOf Try.prog 3 (.int .i64 i) = some (.int .i64 i) := Go.Maps.keyOf_int_mk (k := 3) (q := .i64) Try.underlying3 (WalkArith.wf_i64 h)

/-- Block b is a map that holds just what the pen q wrote. -/
def WM (W : World) (b q kk : Nat) (y : Sx) : Prop :=
  ∃ (D : DataW Unit), W.ownsMap Try.prog 3 (plainElem Try.prog 3) b kk D ∧ (∀ j : Int, Maps.has D (.int .i64 j) = decide (∃ i : Nat, i < 4 ∧ i / 2 = q ∧ y.wr i = true ∧ j = (i : Int))) ∧
    ∀ i : Nat, i < 4 → i / 2 = q → y.wr i = true → ∀ zd, D.atKey (.int .i64 (i : Int)) zd = .lit (.int .i64 (y.n i))

section
variable {W W' : World} {b q kk i : Nat} {y y' : Sx} {X : Int}
theorem WM.made (W : World) (q : Nat) (y : Sx) (hy : ∀ i, i < 4 → i / 2 = q → y.wr i = false) : WM (W.alloc (.map #[] 0)) W.heap.size q 0 y := by
  refine ⟨.map [], World.ownsMap_made W _ _ _, fun j => ?_, fun i hi hq hw => by rw [hy i hi hq] at hw; cases hw⟩
  have : ¬ ∃ i : Nat, i < 4 ∧ i / 2 = q ∧ y.wr i = true ∧ j = (i : Int) := by rintro ⟨i, hi, hq, hw, _⟩; rw [hy i hi hq] at hw; cases hw
  rw [decide_eq_false this]; rfl
theorem WM.lt (h : WM W b q kk y) : b < W.heap.size := by obtain ⟨D, h, _⟩ := h; exact h.lt
theorem WM.keep (h : WM W b q kk y) (hb : W'.heap[b]? = W.heap[b]?) : WM W' b q kk y := by
  obtain ⟨D, ⟨es, clock, h1, r⟩, rest⟩ := h
  exact ⟨D, ⟨es, clock, hb.trans h1, r⟩, rest⟩
theorem WM.more (h : WM W b q kk y) {kk' : Nat} (hk : kk ≤ kk') : WM W b q kk' y := by
  obtain ⟨D, h1, h2⟩ := h
  exact ⟨D, h1.mono hk, h2⟩
theorem WM.ne_blk (h : WM W b q kk y) {i : Nat} {ty : TypeId} {cs : Array Value} (hi : Blk W i ty cs) : i ≠ b := by
  rintro rfl
  obtain ⟨D, ⟨es, clock, h1, _⟩, _⟩ := h
  unfold Blk at hi
  rw [hi] at h1
  cases h1
theorem WM.eqY (h : WM W b q kk y) (hw : ∀ i, i < 4 → i / 2 = q → y.wr i = y'.wr i) (hn : ∀ i, i < 4 → i / 2 = q → y.wr i = true → y.n i = y'.n i) : WM W b q kk y' := by
  obtain ⟨D, h1, h2, h3⟩ := h
  refine ⟨D, h1, fun j => ?_, fun i hi hq hwi zd => by rw [← hw i hi hq] at hwi; rw [h3 i hi hq hwi zd, hn i hi hq hwi]⟩
  rw [h2 j, decide_eq_decide]
  constructor
  · rintro ⟨i, hi, hq, hwi, e⟩; exact ⟨i, hi, hq, by rw [← hw i hi hq]; exact hwi, e⟩
  · rintro ⟨i, hi, hq, hwi, e⟩; exact ⟨i, hi, hq, by rw [hw i hi hq]; exact hwi, e⟩
theorem WM.store (h : WM W b q kk y) (hk : kk ≤ 100000) (hi : i < 4) (hq : i / 2 = q) (h0 : 0 ≤ X) (h1 : X ≤ 65535) :
    ∃ W', (Instr.mapUpdate 42 (.map (some b)) (.int .i64 (i : Int)) (.int .i64 X)).run Try.prog W = .ok () W' ∧ WM W' b q (kk + 1) (y.write i X) ∧ W.grownBy W' (some b) := by
  obtain ⟨D, g1, g2, g3⟩ := h
  obtain ⟨W', hrun, hown, hgrow⟩ := g1.update mapLawI Try.underlying42 (by simp only [maxLen]; omega) (keyOI (i := (i : Int)) ⟨by omega, by omega⟩) (plainElem_int (a := X) Try.underlying3 (WalkArith.wf_i64 ⟨by omega, by omega⟩))
  refine ⟨W', hrun, ⟨_, hown, fun j => ?_, fun k hk4 hkq hwk zd => ?_⟩, hgrow⟩
  · by_cases e : j = (i : Int)
    · subst e
      rw [Go.Maps.has_put_same g1.isMap keyII]
      exact (decide_eq_true ⟨i, hi, hq, by simp [Sx.write], rfl⟩).symm
    · rw [Go.Maps.has_put_other (fun h => e (by cases h; rfl)), g2 j, decide_eq_decide]
      constructor
      · rintro ⟨k, a1, a2, a3, a4⟩; exact ⟨k, a1, a2, by simp [Sx.write, a3], a4⟩
      · rintro ⟨k, a1, a2, a3, a4⟩
        have : k ≠ i := fun e' => e (by rw [a4, e'])
        exact ⟨k, a1, a2, by simpa [Sx.write, this] using a3, a4⟩
  · by_cases e : k = i
    · subst e
      rw [Go.Maps.atKey_put_same g1.isMap keyII]; simp [Sx.write]
    · rw [Go.Maps.atKey_put_other (fun h => e (by cases h; rfl))]
      rw [g3 k hk4 hkq (by simpa [Sx.write, e] using hwk) zd]; simp [Sx.write, e]
theorem WM.look (h : WM W b q kk y) (hi : i < 4) : ∃ c : Int, (Instr.lookup 42 (.map (some b)) (.int .i64 (i : Int)) true).run Try.prog W = .ok (.tuple #[.int .i64 c, .bool (decide (i / 2 = q) && y.wr i)]) W ∧ i64B c ∧ (i / 2 = q → y.wr i = true → c = y.n i) := by
  obtain ⟨D, g1, g2, g3⟩ := h
  obtain ⟨v, ps, hrun, hv⟩ := g1.look_ok mapLawI Try.underlying42 (zeroII W) (plainElem_int Try.underlying3 (by decide)) (keyOI (i := (i : Int)) ⟨by omega, by omega⟩)
  obtain ⟨c, rfl, hc, hwc⟩ := plainElem_int_inv Try.underlying3 hv
  have e : Maps.has D (.int .i64 (i : Int)) = (decide (i / 2 = q) && y.wr i) := by
    rw [g2]
    cases hw : y.wr i
    · rw [Bool.and_false]
      refine decide_eq_false ?_
      rintro ⟨k, _, _, a3, a4⟩
      have : k = i := by omega
      rw [this, hw] at a3; cases a3
    · rw [Bool.and_true, decide_eq_decide]
      constructor
      · rintro ⟨k, _, a2, _, a4⟩; have : k = i := by omega
        rw [← this]; exact a2
      · intro a; exact ⟨i, hi, a, hw, rfl⟩
  rw [e] at hrun
  refine ⟨c, hrun, _root_.Go.bounds_i64 hwc, fun a1 a2 => ?_⟩
  have k := g3 i hi a1 a2 (.lit (.int .i64 0))
  have hc' : D.atKey (.int .i64 (i : Int)) (.lit (.int .i64 0)) = .lit (.int .i64 c) := congrArg Prod.fst hc
  rw [hc'] at k
  cases k; rfl
end

/-- An author in memory. -/
def AuB (W : World) (b q : Nat) (tag : Nat) (mp : Nat) (s : Bool) : Prop := Blk W b 44 #[.int .i64 ((q : Int) + 1), .int .i64 (tag : Int), .map (some mp), .bool s]

/-- PtrPens' memory; the map of the pen z left out. -/
structure PW (w0 : World) (p g m kk z : Nat) (L : List (Nat × TypeId × Array Value)) (nb : Nat) (bb mp : Nat → Nat) (x : Sx) (mn : Nat → Int) (y : Sx) (W : World) : Prop where
  ma : MA W p g m x
  ks : KS w0 L W
  nbk : Blk W nb 33 #[.int .i64 (mn 0), .int .i64 (mn 1), .int .i64 (mn 2), .int .i64 (mn 3)]
  au : ∀ q, q < 2 → AuB W (bb q) q (y.g q) (mp q) (y.s q)
  mm : ∀ q, q < 2 → q ≠ z → WM W (mp q) q kk y
  kt : ∀ u ∈ L, u.2.1 ≠ 33 ∧ u.2.1 ≠ 44
  nbb : bb 0 ≠ bb 1
  nmp : mp 0 ≠ mp 1
  np : w0.heap.size ≤ p
  ng : w0.heap.size ≤ g
  nn : w0.heap.size ≤ nb
  na : ∀ q, q < 2 → w0.heap.size ≤ bb q
  nm : ∀ q, q < 2 → w0.heap.size ≤ mp q

section
variable {w0 W W' : World} {p g m m' kk kk' z nb q r j : Nat} {L : List (Nat × TypeId × Array Value)} {bb mp : Nat → Nat} {x x' y y' : Sx} {mn mn' : Nat → Int} {X : Int}
/-- What stands there isn't in these blocks. -/
def PWoff (p g z nb : Nat) (L : List (Nat × TypeId × Array Value)) (bb mp : Nat → Nat) (i : Nat) : Prop := i ≠ p ∧ i ≠ g ∧ i ≠ nb ∧ (∀ q, q < 2 → i ≠ bb q) ∧ (∀ q, q < 2 → q ≠ z → i ≠ mp q) ∧ ∀ u ∈ L, u.1 ≠ i
theorem PW.only {G : Nat → Prop} (h : PW w0 p g m kk z L nb bb mp x mn y W) (ho : OnlyF G W W') (hG : ∀ i, G i → w0.heap.size ≤ i ∧ PWoff p g z nb L bb mp i) : PW w0 p g m kk z L nb bb mp x mn y W' := by
  obtain ⟨c, f, A, C, R⟩ := h.ma
  obtain ⟨zs, hz, he⟩ := A.cells
  refine ⟨⟨c, f, ⟨A.own.onlyF ho (fun hi => (hG _ hi).2.1 rfl), ⟨zs, hz.onlyF ho (fun hi => (hG _ hi).2.2.1 rfl), he⟩, A.le, A.few, A.fit⟩, C, R⟩, ⟨KeptL.of_mem fun u hu => have k := h.ks.k.mem u hu; ⟨k.b.onlyF ho (fun hi => (hG _ hi).2.2.2.2.2.2 u hu rfl), k.t1, k.t2, k.t3⟩, h.ks.be.trans ?_⟩,
    h.nbk.onlyF ho (fun hi => (hG _ hi).2.2.2.1 rfl), fun q hq => Blk.onlyF (h.au q hq) ho (fun hi => (hG _ hi).2.2.2.2.1 q hq rfl), fun q hq hqz => (h.mm q hq hqz).keep (ho.block _ (h.mm q hq hqz).lt (fun hi => (hG _ hi).2.2.2.2.2.1 q hq hqz rfl)), h.kt, h.nbb, h.nmp, h.np, h.ng, h.nn, h.na, h.nm⟩
  exact ⟨ho.os, ho.tape, ho.output, ho.size, fun i hi => ho.block i (Nat.lt_of_lt_of_le hi h.ks.be.size) (fun hg => by have := (hG i hg).1; omega)⟩
theorem PW.below (h : PW w0 p g m kk z L nb bb mp x mn y W) (hb : Below W.heap.size W W') : PW w0 p g m kk z L nb bb mp x mn y W' :=
  h.only (G := fun _ => False) ((OnlyF.refl W).below hb) (fun _ hi => hi.elim)
theorem PW.drew (h : PW w0 p g m kk z L nb bb mp x mn y W) : PW w0 p g m kk z L nb bb mp x mn y W.drew := h.below (Below.refl _ _).drew
theorem PW.alloc (h : PW w0 p g m kk z L nb bb mp x mn y W) (o : Obj) : PW w0 p g m kk z L nb bb mp x mn y (W.alloc o) := h.below ((Below.refl _ _).alloc (Nat.le_refl _) o)
theorem PW.more (h : PW w0 p g m kk z L nb bb mp x mn y W) (hm : m ≤ m') (hk : kk ≤ kk') : PW w0 p g m' kk' z L nb bb mp x mn y W := { h with ma := h.ma.more hm, mm := fun q hq hqz => (h.mm q hq hqz).more hk }
theorem PW.arena (h : PW w0 p g m kk z L nb bb mp x mn y W) (hm : MA W' p g m' x') (ho : Only p g W W') : PW w0 p g m' kk z L nb bb mp x' mn y W' := by
  obtain ⟨c, f, A, C, R⟩ := h.ma
  obtain ⟨zs, hz, he⟩ := A.cells
  exact ⟨hm, ⟨h.ks.k.map fun _ hx => hx.arena A ho, Only.below h.ks.be ho h.ks.be.size h.np h.ng⟩, h.nbk.arena A ho (by decide) (by decide), fun q hq => Blk.arena (h.au q hq) A ho (by decide) (by decide),
    fun q hq hqz => (h.mm q hq hqz).keep (ho.block _ (h.mm q hq hqz).lt (fun e => (h.mm q hq hqz).ne_blk A.own e.symm) (fun e => (h.mm q hq hqz).ne_blk hz e.symm)), h.kt, h.nbb, h.nmp, h.np, h.ng, h.nn, h.na, h.nm⟩
theorem PW.off_map (h : PW w0 p g m kk z L nb bb mp x mn y W) {i : Nat} (hi : ∀ {j ty cs}, Blk W j ty cs → j ≠ i) (hm : ∀ q, q < 2 → q ≠ z → i ≠ mp q) : PWoff p g z nb L bb mp i := by
  obtain ⟨c, f, A, C, R⟩ := h.ma
  obtain ⟨zs, hz, he⟩ := A.cells
  exact ⟨fun e => hi A.own e.symm, fun e => hi hz e.symm, fun e => hi h.nbk e.symm, fun q hq e => hi (h.au q hq) e.symm, hm, fun u hu => hi (h.ks.k.mem u hu).b⟩
/-- A store into what each cell should mean. -/
theorem PW.setN (h : PW w0 p g m kk z L nb bb mp x mn y W) (hj : j < 4) (v : Int) : PW w0 p g m kk z L nb bb mp x (upd mn j v) y (W.setCell ⟨nb, j, none⟩ (.int .i64 v)) := by
  obtain ⟨c, f, A, C, R⟩ := h.ma
  refine ⟨⟨c, f, A.q_far (h.nbk.ne_p A (by decide)) (h.nbk.ne_g A (by decide)) _, C, R⟩, ⟨KeptL.of_mem fun u hu => have k := h.ks.k.mem u hu; ⟨k.b.far (k.b.ne_ h.nbk (h.kt u hu).1) _, k.t1, k.t2, k.t3⟩, h.ks.be.setCell h.nn _⟩, ?_, fun q hq => Blk.far (h.au q hq) (Blk.ne_ (h.au q hq) h.nbk (by decide)) _,
    fun q hq hqz => (h.mm q hq hqz).keep (Below.heap_setCell W ⟨nb, j, none⟩ _ _ (fun e => (h.mm q hq hqz).ne_blk h.nbk e.symm)), h.kt, h.nbb, h.nmp, h.np, h.ng, h.nn, h.na, h.nm⟩
  have k := h.nbk.set_ j (.int .i64 v)
  have e : (#[Value.int .i64 (mn 0), .int .i64 (mn 1), .int .i64 (mn 2), .int .i64 (mn 3)]).setIfInBounds j (.int .i64 v) = #[.int .i64 (upd mn j v 0), .int .i64 (upd mn j v 1), .int .i64 (upd mn j v 2), .int .i64 (upd mn j v 3)] := by
    have : j = 0 ∨ j = 1 ∨ j = 2 ∨ j = 3 := by omega
    rcases this with rfl | rfl | rfl | rfl <;> rfl
  rw [e] at k
  exact k
theorem PW.cellN (h : PW w0 p g m kk z L nb bb mp x mn y W) (hj : j < 4) : W.cell? ⟨nb, j, none⟩ = some (.int .i64 (mn j)) ∧ W.frozen? ⟨nb, j, none⟩ = false ∧ nb < W.heap.size := by
  have : j = 0 ∨ j = 1 ∨ j = 2 ∨ j = 3 := by omega
  rcases this with rfl | rfl | rfl | rfl
  · exact ⟨h.nbk.cell 0, h.nbk.frozen _, h.nbk.lt⟩
  · exact ⟨h.nbk.cell 1, h.nbk.frozen _, h.nbk.lt⟩
  · exact ⟨h.nbk.cell 2, h.nbk.frozen _, h.nbk.lt⟩
  · exact ⟨h.nbk.cell 3, h.nbk.frozen _, h.nbk.lt⟩
theorem PW.cellA (h : PW w0 p g m kk z L nb bb mp x mn y W) (hq : q < 2) : W.cell? ⟨bb q, 0, none⟩ = some (.int .i64 ((q : Int) + 1)) ∧ W.cell? ⟨bb q, 1, none⟩ = some (.int .i64 (y.g q : Int)) ∧ W.cell? ⟨bb q, 2, none⟩ = some (.map (some (mp q))) ∧ W.cell? ⟨bb q, 3, none⟩ = some (.bool (y.s q)) ∧ bb q < W.heap.size ∧
    W.frozen? ⟨bb q, 1, none⟩ = false ∧ W.frozen? ⟨bb q, 2, none⟩ = false ∧ W.frozen? ⟨bb q, 3, none⟩ = false :=
  ⟨Blk.cell (h.au q hq) 0, Blk.cell (h.au q hq) 1, Blk.cell (h.au q hq) 2, Blk.cell (h.au q hq) 3, Blk.lt (h.au q hq), Blk.frozen (h.au q hq) _, Blk.frozen (h.au q hq) _, Blk.frozen (h.au q hq) _⟩
theorem two_cases (hq : q < 2) {i : Nat} (hi : i < 2) (hne : bb 0 ≠ bb 1) : i ≠ q → bb i ≠ bb q := by
  intro e
  have : (q = 0 ∧ i = 1) ∨ (q = 1 ∧ i = 0) := by omega
  rcases this with ⟨rfl, rfl⟩ | ⟨rfl, rfl⟩
  · exact hne.symm
  · exact hne
/-- A store into an author: its map's cell or another one; the maps stay. -/
theorem PW.setA (h : PW w0 p g m kk z L nb bb mp x mn y W) (hq : q < 2) {k : Nat} {u : Value} {mp' : Nat → Nat} (hA : AuB (W.setCell ⟨bb q, k, none⟩ u) (bb q) q (y'.g q) (mp' q) (y'.s q)) (ho : ∀ i, i < 2 → i ≠ q → y'.g i = y.g i ∧ y'.s i = y.s i ∧ mp' i = mp i)
    (hM : ∀ i, i < 2 → i ≠ z → WM (W.setCell ⟨bb q, k, none⟩ u) (mp' i) i kk y') (hn1 : mp' 0 ≠ mp' 1) (hn2 : ∀ i, i < 2 → w0.heap.size ≤ mp' i) : PW w0 p g m kk z L nb bb mp' x mn y' (W.setCell ⟨bb q, k, none⟩ u) := by
  obtain ⟨c, f, A, C, R⟩ := h.ma
  have hb : Blk W (bb q) 44 _ := h.au q hq
  refine ⟨⟨c, f, A.q_far (Blk.ne_p hb A (by decide)) (Blk.ne_g hb A (by decide)) _, C, R⟩, ⟨KeptL.of_mem fun u hu => have k := h.ks.k.mem u hu; ⟨k.b.far (k.b.ne_ hb (h.kt u hu).2) _, k.t1, k.t2, k.t3⟩, h.ks.be.setCell (h.na q hq) _⟩, h.nbk.far (h.nbk.ne_ hb (by decide)) _, fun i hi => ?_, hM, h.kt, h.nbb, hn1, h.np, h.ng, h.nn, h.na, hn2⟩
  by_cases e : i = q
  · subst e; exact hA
  · obtain ⟨e1, e2, e3⟩ := ho i hi e
    rw [e1, e2, e3]
    exact Blk.far (h.au i hi) (two_cases hq hi h.nbb e) _
theorem WM.setA {k : Nat} {u : Value} {b : Nat} {tag mq : Nat} {s : Bool} (h : WM W b q kk y) (hb : AuB W j r tag mq s) : WM (W.setCell ⟨j, k, none⟩ u) b q kk y := h.keep (Below.heap_setCell W ⟨j, k, none⟩ _ _ (fun e => h.ne_blk hb e.symm))
end
end Go.Proofs.Ytipjbgkfhkidkaa
