/- Calls that came in: four integers each; the lowest bit of an integer. -/
import Derived.Test.YtipjbgkfhkidkaaPtrK
import Derived.Test.YtipjbgkfhkidkaaOnlyF
import Derived.Test.YtipjbgkfhkidkaaRowI
import Derived.Deep.Slices
import Derived.Deep.Fields
import Derived.ChangeSame
import Derived.OpenShut
namespace Go.Proofs.Ytipjbgkfhkidkaa
open Go.RowKit Go.ChangeShapes Go.WideShapes Go.Deep

set_option maxRecDepth 100000

theorem i64_and1 (n : Int) : bits .and .i64 n 1 = n % 2 := by
  have h1 : (BitVec.ofInt 64 1).toNat = 2 ^ 1 - 1 := by decide
  have key : (BitVec.ofInt 64 n &&& BitVec.ofInt 64 1).toNat = (n % ((2 ^ 64 : Nat) : Int)).toNat % 2 ^ 1 := by
    rw [BitVec.toNat_and, BitVec.toNat_ofInt, h1, Nat.and_two_pow_sub_one_eq_mod]
  show IntKind.i64.wrap ((BitVec.ofInt 64 n &&& BitVec.ofInt 64 1).toNat : Nat) = n % 2
  rw [key, IntKind.wrap_i64]
  omega
/-- The lowest bit. -/
def lowB (n : Int) : Nat := (n % 2).toNat
theorem lowB_lt (n : Int) : lowB n < 2 := by unfold lowB; omega
theorem lowB_and (n : Int) : bits .and .i64 n 1 = (lowB n : Int) := by rw [i64_and1]; unfold lowB; omega

/-- A call of four integers. -/
structure Op4 where
  k : Int
  p : Int
  i : Int
  x : Int
def Op4.v (o : Op4) : Value := .agg #[.int .i64 o.k, .int .i64 o.p, .int .i64 o.i, .int .i64 o.x]
abbrev i64B (z : Int) : Prop := -9223372036854775808 ≤ z ∧ z ≤ 9223372036854775807
def Op4.fit (o : Op4) : Prop := i64B o.k ∧ i64B o.p ∧ i64B o.i ∧ i64B o.x
/-- The calls that came in. -/
def IsOp4 (w : World) (a : Option Addr) (len : Nat) (q : Nat → Op4) : Prop :=
  0 < len → ∃ b off, a = some ⟨b, off, none⟩ ∧ ∀ k, k < len →
    w.cell? ⟨b, off + k * 4, none⟩ = some (.int .i64 (q k).k) ∧ w.cell? ⟨b, off + k * 4 + 1, none⟩ = some (.int .i64 (q k).p) ∧
    w.cell? ⟨b, off + k * 4 + 2, none⟩ = some (.int .i64 (q k).i) ∧ w.cell? ⟨b, off + k * 4 + 3, none⟩ = some (.int .i64 (q k).x) ∧ (q k).fit
theorem IsOp4.later {w w' : World} {a : Option Addr} {len : Nat} {q : Nat → Op4} (h : IsOp4 w a len q) (hb : Below w.heap.size w w') : IsOp4 w' a len q := by
  intro h0
  obtain ⟨b, off, e, hc⟩ := h h0
  exact ⟨b, off, e, fun k hk => have := hc k hk; ⟨cell_later hb this.1, cell_later hb this.2.1, cell_later hb this.2.2.1, cell_later hb this.2.2.2.1, this.2.2.2.2⟩⟩

section
variable {H : Type} {enc : TypeId × Value → H} {P : Program} {w : World} {base : Nat} {spare : Nat → Bool} {held : Bool}
theorem open_fields4 {t e : TypeId} {fs : Array Field} {fuel : Nat} {cs : List Value} {x : DataW H × List MemPlace} (ht : P.underlying t = some (.slice e)) (he : P.underlying e = some (.struct fs))
    (hone : oneCellFields P fs = true) (hC : P.cellsOf e = fs.size) (h : DataW.trod enc P w base spare held fuel t cs = some x) :
    (cs = [.slice none 0 0] ∧ x = (.nil, [])) ∨
    ∃ (a : Addr) (len cap m : Nat) (D : Nat → DataW H) (Pl : Nat → List MemPlace), cs = [.slice (some a) len cap] ∧ base ≤ a.block ∧ len ≤ cap ∧ cap ≤ maxLen ∧ m = (if spare a.block then cap else len) ∧
      x = (.slice ((List.range len).map D) ((List.range (m - len)).map fun j => D (len + j)), MemPlace.row a (m * fs.size) ++ (List.range m).flatMap Pl) ∧
      ∀ i, i < m → ∃ (ys : List (DataW H × List MemPlace)) (n : Nat), D i = .agg (ys.map (·.1)) ∧ Pl i = ys.flatMap (·.2) ∧ ys.length = fs.size ∧
        ∀ (j : Nat) (f : Field), fs[j]? = some f → ∃ (v : Value) (y : DataW H × List MemPlace), w.cell? (a.add (i * fs.size + j)) = some v ∧ ys[j]? = some y ∧ DataW.trod enc P w base spare held n f.type [v] = some y := by
  rcases open_slice ht h with h0 | ⟨a, len, cap, m, n, D, Pl, hcs, hb, hl, hm, hmm, hx, hi⟩
  · exact .inl h0
  · refine .inr ⟨a, len, cap, m, D, Pl, hcs, hb, hl, hm, hmm, by rw [hC] at hx; exact hx, fun i him => ?_⟩
    obtain ⟨cs', hc, ht'⟩ := hi i him
    rw [hC] at hc
    obtain ⟨ys, n', hn', hy, hlen, hyl, hf⟩ := DataW.trod_struct he ht'
    obtain ⟨_, hcl, hat⟩ := World.cells?_some hc
    simp only [Prod.mk.injEq] at hy
    refine ⟨ys, n', hy.1, hy.2, hyl, fun j f hj => ?_⟩
    obtain ⟨ho, hk⟩ := hone_of hone j f hj
    have hjl : j < fs.size := (Array.getElem?_eq_some_iff.1 hj).1
    have hcell := hat j hjl
    have hv : cs'[j]? = some (cs'[j]'(by omega)) := List.getElem?_eq_getElem (by omega)
    have h1 := hf j f hj
    rw [ho, hk] at h1
    have hone' : (cs'.drop j).take 1 = [cs'[j]'(by omega)] := by
      rw [List.drop_eq_getElem_cons (by omega)]
      rfl
    rw [hone'] at h1
    have hys : ys[j]? = some (ys[j]'(by omega)) := List.getElem?_eq_getElem (by omega)
    refine ⟨_, _, ?_, hys, h1.trans hys⟩
    rw [← Go.Deep.add_add, hcell, hv]
end

/-- One call in memory. -/
def Op4At (w : World) (y : Addr) (k : Nat) (o : Op4) : Prop :=
    w.cell? (y.add (k * 4 + 0)) = some (.int .i64 o.k) ∧ w.cell? (y.add (k * 4 + 1)) = some (.int .i64 o.p) ∧
    w.cell? (y.add (k * 4 + 2)) = some (.int .i64 o.i) ∧ w.cell? (y.add (k * 4 + 3)) = some (.int .i64 o.x) ∧ o.fit

theorem open_op4v {H : Type} {enc : TypeId × Value → H} {w : World} {base fuel : Nat} {held : Bool} {v : Value} {x : DataW H × List MemPlace}
    (h : DataW.trod enc Try.prog w base (fun _ => true) held fuel 23 [v] = some x) : ∃ a len cap q, v = .slice a len cap ∧ IsOp4 w a len q := by
  rcases open_fields4 Try.underlying23 Try.underlying48 (by kernel_rfl) (by kernel_rfl) h with ⟨hcs, _⟩ | ⟨y, l, c, m, D, Pl, hcs, _, hl, _, hm, _, hi⟩
  · simp at hcs
    subst hcs
    exact ⟨none, 0, 0, fun _ => ⟨0, 0, 0, 0⟩, rfl, fun h => absurd h (Nat.lt_irrefl _)⟩
  · simp at hcs
    subst hcs
    obtain ⟨b, off, spot⟩ := y
    simp at hm
    have key : ∀ k, k < l → ∃ o : Op4, Op4At w ⟨b, off, spot⟩ k o := by
      intro k hk
      obtain ⟨ys, n, _, _, _, hf⟩ := hi k (by omega)
      obtain ⟨v0, y0, c0, _, t0⟩ := hf 0 _ rfl
      obtain ⟨v1, y1, c1, _, t1⟩ := hf 1 _ rfl
      obtain ⟨v2, y2, c2, _, t2⟩ := hf 2 _ rfl
      obtain ⟨v3, y3, c3, _, t3⟩ := hf 3 _ rfl
      obtain ⟨x0, z0, _, w0⟩ := DataW.trod_int Try.underlying3 t0
      obtain ⟨x1, z1, _, w1⟩ := DataW.trod_int Try.underlying3 t1
      obtain ⟨x2, z2, _, w2⟩ := DataW.trod_int Try.underlying3 t2
      obtain ⟨x3, z3, _, w3⟩ := DataW.trod_int Try.underlying3 t3
      simp at z0 z1 z2 z3
      subst z0 z1 z2 z3
      exact ⟨⟨x0, x1, x2, x3⟩, c0, c1, c2, c3, bounds_i64 w0, bounds_i64 w1, bounds_i64 w2, bounds_i64 w3⟩
    obtain ⟨q, hq⟩ : ∃ q : Nat → Op4, ∀ k, k < l → Op4At w ⟨b, off, spot⟩ k (q k) :=
      ⟨fun k => if h : k < l then Classical.choose (key k h) else ⟨0, 0, 0, 0⟩, fun k hk => by simp only [dif_pos hk]; exact Classical.choose_spec (key k hk)⟩
    refine ⟨_, l, c, q, rfl, fun h0 => ?_⟩
    have hspot : spot = none := by
      have c0 := (hq 0 h0).1
      simpa [Addr.add] using World.cell?_spot c0
    subst hspot
    refine ⟨b, off, rfl, fun k hk => ?_⟩
    have := hq k hk
    simp only [Op4At, Addr.add_lit, Nat.add_zero, ← Nat.add_assoc] at this
    exact this
end Go.Proofs.Ytipjbgkfhkidkaa
