/- Arguments that are slices, opened: numbers; accesses or calls. -/
import Derived.Test.YtjnnohajmblfkaaTrI
import Derived.Deep.Slices
import Derived.Deep.Fields
import Derived.ChangeSame
import Derived.OpenShut
namespace Go.Proofs.Ytjnnohajmblfkaa
open Go.RowKit Go.ChangeShapes Go.WideShapes Go.Deep

/-- The calls that came in. -/
structure Ops (w : World) (a : Option Addr) (os : List AccV) : Prop where
  acc : IsAcc w a os
  fit : ∀ o ∈ os, o.fit

theorem IsAcc.later {w w' : World} {a : Option Addr} {os : List AccV} (h : IsAcc w a os) (hb : Below w.heap.size w w') : IsAcc w' a os := by
  intro h0
  obtain ⟨b, off, e, hc⟩ := h h0
  exact ⟨b, off, e, fun k x hx => have := hc k x hx; ⟨cell_later hb this.1, cell_later hb this.2.1, cell_later hb this.2.2⟩⟩

/-- Numbers that came in. -/
theorem open_nums {H : Type} {enc : TypeId × Value → H} {w : World} {base fuel : Nat} {held : Bool} {a : Option Addr} {len cap : Nat} {x : DataW H × List MemPlace}
    (h : DataW.trod enc Try.prog w base (fun _ => true) held fuel 22 [.slice a len cap] = some x) : ∃ f, Nums w a len f := by
  rcases open_ints Try.underlying22 Try.underlying32 (by kernel_rfl) h with ⟨hcs, _⟩ | ⟨y, l, c, zs, hcs, _, hl, hm, hz, _, hcell, hwz⟩
  · simp at hcs
    obtain ⟨rfl, rfl, rfl⟩ := hcs
    exact ⟨fun _ => 0, fun h => absurd h (Nat.lt_irrefl _)⟩
  · simp at hcs
    obtain ⟨rfl, rfl, rfl⟩ := hcs
    refine ⟨fun k => zs.getD k 0, fun h0 => ?_⟩
    obtain ⟨b, off, spot⟩ := y
    simp at hz
    have hc0 := hcell 0 (by omega)
    have hspot : spot = none := by simpa [Addr.add] using World.cell?_spot hc0
    subst hspot
    refine ⟨b, off, rfl, fun k hk => ?_⟩
    have hc := hcell k (by omega)
    have r := range_u64 hwz k
    rw [Addr.add_lit] at hc
    refine ⟨hc, ?_, ?_⟩
    · simpa using r.1
    · simpa using r.2

section
variable {H : Type} {enc : TypeId × Value → H} {P : Program} {w : World} {base : Nat} {spare : Nat → Bool} {held : Bool}
theorem open_slice_fields {t e : TypeId} {fs : Array Field} {fuel : Nat} {cs : List Value} {x : DataW H × List MemPlace} (ht : P.underlying t = some (.slice e)) (he : P.underlying e = some (.struct fs))
    (hone : oneCellFields P fs = true) (hC : P.cellsOf e = fs.size) (h : DataW.trod enc P w base spare held fuel t cs = some x) :
    (cs = [.slice none 0 0] ∧ x = (.nil, [])) ∨
    ∃ (a : Addr) (len cap m : Nat) (D : Nat → DataW H) (Pl : Nat → List MemPlace), cs = [.slice (some a) len cap] ∧ base ≤ a.block ∧ len ≤ cap ∧ cap ≤ maxLen ∧ m = (if spare a.block then cap else len) ∧
      x = (.slice ((List.range len).map D) ((List.range (m - len)).map fun j => D (len + j)), MemPlace.row a (m * fs.size) ++ (List.range m).flatMap Pl) ∧
      ∀ i, i < m → ∃ (ys : List (DataW H × List MemPlace)) (n : Nat), D i = .agg (ys.map (·.1)) ∧ Pl i = ys.flatMap (·.2) ∧ ys.length = fs.size ∧
        ∀ (j : Nat) (f : Field), fs[j]? = some f → ∃ (v : Value) (y : DataW H × List MemPlace), w.cell? (a.add (i * fs.size + j)) = some v ∧ ys[j]? = some y ∧ DataW.trod enc P w base spare held n f.type [v] = some y := by
  rcases open_slice ht h with h0 | ⟨a, len, cap, m, n, D, Pl, hcs, hb, hl, hm, hmm, hx, hi⟩
  · exact .inl h0
  · refine .inr ⟨a, len, cap, m, D, Pl, hcs, hb, hl, hm, hmm, by rw [hC] at hx; exact hx, fun i him => ?_⟩
    obtain ⟨cs', hc, ht'⟩ := hi i him
    rw [hC] at hc
    obtain ⟨ys, n', hn', hy, hlen, hyl, hf⟩ := DataW.trod_struct he ht'
    obtain ⟨_, hcl, hat⟩ := World.cells?_some hc
    simp only [Prod.mk.injEq] at hy
    refine ⟨ys, n', hy.1, hy.2, hyl, fun j f hj => ?_⟩
    obtain ⟨ho, hk⟩ := hone_of hone j f hj
    have hjl : j < fs.size := (Array.getElem?_eq_some_iff.1 hj).1
    have hcell := hat j hjl
    have hv : cs'[j]? = some (cs'[j]'(by omega)) := List.getElem?_eq_getElem (by omega)
    have h1 := hf j f hj
    rw [ho, hk] at h1
    have hone' : (cs'.drop j).take 1 = [cs'[j]'(by omega)] := by
      rw [List.drop_eq_getElem_cons (by omega)]
      rfl
    rw [hone'] at h1
    have hys : ys[j]? = some (ys[j]'(by omega)) := List.getElem?_eq_getElem (by omega)
    refine ⟨_, _, ?_, hys, h1.trans hys⟩
    rw [← Go.Deep.add_add, hcell, hv]
end

/-- One access in memory. -/
def AccAt (w : World) (y : Addr) (k : Nat) (o : AccV) : Prop :=
    w.cell? (y.add (k * 3 + 0)) = some (.bool o.s) ∧ w.cell? (y.add (k * 3 + 1)) = some (.int .i64 o.c) ∧ w.cell? (y.add (k * 3 + 2)) = some (.int .u64 o.v) ∧ o.fit

theorem open_accs {H : Type} {enc : TypeId × Value → H} {w : World} {base fuel : Nat} {held : Bool} {t e : TypeId} {a : Option Addr} {len cap : Nat} {x : DataW H × List MemPlace} {fs : Array Field}
    (ht : Try.prog.underlying t = some (.slice e)) (he : Try.prog.underlying e = some (.struct fs)) (hone : oneCellFields Try.prog fs = true) (hC : Try.prog.cellsOf e = fs.size)
    (hsz : fs.size = 3) (hf0 : (fs[0]?).map (·.type) = some 4) (hf1 : (fs[1]?).map (·.type) = some 3) (hf2 : (fs[2]?).map (·.type) = some 32)
    (h : DataW.trod enc Try.prog w base (fun _ => true) held fuel t [.slice a len cap] = some x) : ∃ os : List AccV, len = os.length ∧ Ops w a os := by
  rcases open_slice_fields ht he hone hC h with ⟨hcs, _⟩ | ⟨y, l, c, m, D, Pl, hcs, _, hl, _, hm, _, hi⟩
  · simp at hcs
    obtain ⟨rfl, rfl, rfl⟩ := hcs
    exact ⟨[], rfl, ⟨fun h => absurd rfl h, by simp⟩⟩
  · simp at hcs
    obtain ⟨rfl, rfl, rfl⟩ := hcs
    obtain ⟨b, off, spot⟩ := y
    simp at hm
    obtain ⟨g0, hg0, ht0⟩ := Option.map_eq_some_iff.1 hf0
    obtain ⟨g1, hg1, ht1⟩ := Option.map_eq_some_iff.1 hf1
    obtain ⟨g2, hg2, ht2⟩ := Option.map_eq_some_iff.1 hf2
    have key : ∀ k, k < len → ∃ o : AccV, AccAt w ⟨b, off, spot⟩ k o := by
      intro k hk
      obtain ⟨ys, n, _, _, _, hf⟩ := hi k (by omega)
      obtain ⟨v0, y0, c0, _, t0⟩ := hf 0 _ hg0
      obtain ⟨v1, y1, c1, _, t1⟩ := hf 1 _ hg1
      obtain ⟨v2, y2, c2, _, t2⟩ := hf 2 _ hg2
      rw [ht0] at t0
      rw [ht1] at t1
      rw [ht2] at t2
      rw [hsz] at c0 c1 c2
      obtain ⟨x0, z0, _⟩ := DataW.trod_bool Try.underlying4 t0
      obtain ⟨x1, z1, _, w1⟩ := DataW.trod_int Try.underlying3 t1
      obtain ⟨x2, z2, _, w2⟩ := DataW.trod_int Try.underlying32 t2
      simp at z0 z1 z2
      subst z0 z1 z2
      exact ⟨⟨x0, x1, x2⟩, c0, c1, c2, bounds_i64 w1, bounds_u64 w2⟩
    obtain ⟨q, hq⟩ : ∃ q : Nat → AccV, ∀ k, k < len → AccAt w ⟨b, off, spot⟩ k (q k) :=
      ⟨fun k => if h : k < len then Classical.choose (key k h) else ⟨false, 0, 0⟩, fun k hk => by simp only [dif_pos hk]; exact Classical.choose_spec (key k hk)⟩
    refine ⟨(List.range len).map q, by simp, ⟨fun h0 => ?_, fun o ho => ?_⟩⟩
    · have hlen : 0 < len := by
        rcases Nat.eq_zero_or_pos len with h | h
        · subst h; exact absurd rfl h0
        · exact h
      have hspot : spot = none := by
        have c0 := (hq 0 hlen).1
        simpa [Addr.add] using World.cell?_spot c0
      subst hspot
      refine ⟨b, off, rfl, fun k o hk => ?_⟩
      have hkl : k < len := by simpa using (List.getElem?_eq_some_iff.1 hk).1
      have e : o = q k := by simpa [hkl] using hk.symm
      subst e
      have := hq k hkl
      simp only [AccAt, Addr.add_lit, Nat.add_zero, ← Nat.add_assoc] at this
      exact ⟨this.1, this.2.1, this.2.2.1⟩
    · obtain ⟨k, hk, rfl⟩ := List.mem_map.1 ho
      exact (hq k (by simpa using hk)).2.2.2

theorem open_opers {H : Type} {enc : TypeId × Value → H} {w : World} {base fuel : Nat} {held : Bool} {a : Option Addr} {len cap : Nat} {x : DataW H × List MemPlace}
    (h : DataW.trod enc Try.prog w base (fun _ => true) held fuel 23 [.slice a len cap] = some x) : ∃ os : List AccV, len = os.length ∧ Ops w a os :=
  open_accs Try.underlying23 Try.underlying34 (by kernel_rfl) (by kernel_rfl) rfl rfl rfl rfl h

theorem open_access {H : Type} {enc : TypeId × Value → H} {w : World} {base fuel : Nat} {held : Bool} {a : Option Addr} {len cap : Nat} {x : DataW H × List MemPlace}
    (h : DataW.trod enc Try.prog w base (fun _ => true) held fuel 30 [.slice a len cap] = some x) : ∃ os : List AccV, len = os.length ∧ Ops w a os :=
  open_accs Try.underlying30 Try.underlying37 (by kernel_rfl) (by kernel_rfl) rfl rfl rfl rfl h
end Go.Proofs.Ytjnnohajmblfkaa
