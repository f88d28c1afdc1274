/- What the frames of package val's laws have in common: arguments opened, the listed variables, a world for the witness. -/
import Derived.Test.YtboagdmjibdlhaaDoorValO
import Derived.Test.YtboagdmjibdlhaaDoorCards
import Derived.Test.YtboagdmjibdlhaaDoorTie
import Derived.Deep.Slices
import Derived.Deep.Fields
import Derived.ChangeSame
import Derived.Deep.DeepHandedRow
import Derived.Lib.LaidTab
namespace Go.Proofs.YtboagdmjibdlhaaDoor
open Go.RowKit Go.ChangeShapes Go.WideShapes Go.Deep

section
variable {H : Type} {enc : TypeId × Value → H} {P : Program} {w : World} {base : Nat} {spare : Nat → Bool} {held : Bool}
theorem open_slice_fields {t e : TypeId} {fs : Array Field} {fuel : Nat} {cs : List Value} {x : DataW H × List MemPlace} (ht : P.underlying t = some (.slice e)) (he : P.underlying e = some (.struct fs))
    (hone : oneCellFields P fs = true) (hC : P.cellsOf e = fs.size) (h : DataW.trod enc P w base spare held fuel t cs = some x) :
    (cs = [.slice none 0 0] ∧ x = (.nil, [])) ∨
    ∃ (a : Addr) (len cap m : Nat) (D : Nat → DataW H) (Pl : Nat → List MemPlace), cs = [.slice (some a) len cap] ∧ base ≤ a.block ∧ len ≤ cap ∧ cap ≤ maxLen ∧ m = (if spare a.block then cap else len) ∧
      x = (.slice ((List.range len).map D) ((List.range (m - len)).map fun j => D (len + j)), MemPlace.row a (m * fs.size) ++ (List.range m).flatMap Pl) ∧
      ∀ i, i < m → ∃ (ys : List (DataW H × List MemPlace)) (n : Nat), D i = .agg (ys.map (·.1)) ∧ Pl i = ys.flatMap (·.2) ∧ ys.length = fs.size ∧
        ∀ (j : Nat) (f : Field), fs[j]? = some f → ∃ (v : Value) (y : DataW H × List MemPlace), w.cell? (a.add (i * fs.size + j)) = some v ∧ ys[j]? = some y ∧ DataW.trod enc P w base spare held n f.type [v] = some y := by
  rcases open_slice ht h with h0 | ⟨a, len, cap, m, n, D, Pl, hcs, hb, hl, hm, hmm, hx, hi⟩
  · exact .inl h0
  · refine .inr ⟨a, len, cap, m, D, Pl, hcs, hb, hl, hm, hmm, by rw [hC] at hx; exact hx, fun i him => ?_⟩
    obtain ⟨cs', hc, ht'⟩ := hi i him
    rw [hC] at hc
    obtain ⟨ys, n', hn', hy, hlen, hyl, hf⟩ := DataW.trod_struct he ht'
    obtain ⟨_, hcl, hat⟩ := World.cells?_some hc
    simp only [Prod.mk.injEq] at hy
    refine ⟨ys, n', hy.1, hy.2, hyl, fun j f hj => ?_⟩
    obtain ⟨ho, hk⟩ := hone_of hone j f hj
    have hjl : j < fs.size := (Array.getElem?_eq_some_iff.1 hj).1
    have hcell := hat j hjl
    have hv : cs'[j]? = some (cs'[j]'(by omega)) := List.getElem?_eq_getElem (by omega)
    have h1 := hf j f hj
    rw [ho, hk] at h1
    have hone' : (cs'.drop j).take 1 = [cs'[j]'(by omega)] := by
      rw [List.drop_eq_getElem_cons (by omega)]
      rfl
    rw [hone'] at h1
    have hys : ys[j]? = some (ys[j]'(by omega)) := List.getElem?_eq_getElem (by omega)
    refine ⟨_, _, ?_, hys, h1.trans hys⟩
    rw [← Go.Deep.add_add, hcell, hv]
end

/-- A value in parts as a datum. -/
def Raw.dat {H : Type} (x : Raw) : DataW H := .agg [.lit (.int .i64 x.k), .lit (.int .i64 x.n), .lit (.string x.s.data.toList), .lit (.int .i32 x.r)]
/-- The number is one of 64 bits. -/
def Raw.fits (x : Raw) : Prop := -9223372036854775808 ≤ x.n ∧ x.n ≤ 9223372036854775807

/-- One value in parts in memory, at whatever address. -/
def RawAdd (w : World) (y : Addr) (k : Nat) (x : Raw) : Prop :=
  w.cell? (y.add (k * 4 + 0)) = some (.int .i64 x.k) ∧ w.cell? (y.add (k * 4 + 1)) = some (.int .i64 x.n) ∧
  w.cell? (y.add (k * 4 + 2)) = some (.string x.s) ∧ w.cell? (y.add (k * 4 + 3)) = some (.int .i32 x.r)

/-- A slice of values in parts, opened: its values, and the datum. -/
theorem open_raws {H : Type} {enc : TypeId × Value → H} {w : World} {base fuel : Nat} {held : Bool} {a : Option Addr} {len cap : Nat} {x : DataW H × List MemPlace}
    (h : DataW.trod enc Tryd.prog w base (fun _ => true) held fuel 24 [.slice a len cap] = some x) :
    ∃ q : Nat → Raw, IsRaws w a len q ∧ (∀ k, k < len → (q k).fits) ∧ ((len = 0) ∨ ∃ spare, x.1 = .slice ((List.range len).map fun k => (q k).dat) spare) := by
  rcases open_slice_fields Tryd.underlying24 Tryd.underlying23 (by kernel_rfl) (by kernel_rfl) h with ⟨hcs, _⟩ | ⟨y, l, c, m, D, Pl, hcs, _, hl, _, hm, hx, hi⟩
  · simp at hcs
    obtain ⟨rfl, rfl, rfl⟩ := hcs
    exact ⟨fun _ => ⟨0, 0, ByteArray.empty, 0⟩, fun h => absurd h (Nat.lt_irrefl _), fun k hk => absurd hk (Nat.not_lt_zero _), .inl rfl⟩
  · simp at hcs
    obtain ⟨rfl, rfl, rfl⟩ := hcs
    obtain ⟨b, off, spot⟩ := y
    simp at hm
    have key : ∀ k, k < len → ∃ o : Raw, RawAdd w ⟨b, off, spot⟩ k o ∧ o.fits ∧ D k = o.dat := by
      intro k hk
      obtain ⟨ys, n, hD, _, hyl, hf⟩ := hi k (by omega)
      obtain ⟨v0, y0, c0, e0, t0⟩ := hf 0 _ rfl
      obtain ⟨v1, y1, c1, e1, t1⟩ := hf 1 _ rfl
      obtain ⟨v2, y2, c2, e2, t2⟩ := hf 2 _ rfl
      obtain ⟨v3, y3, c3, e3, t3⟩ := hf 3 _ rfl
      obtain ⟨x0, z0, j0, w0⟩ := DataW.trod_int Tryd.underlying3 t0
      obtain ⟨x1, z1, j1, w1⟩ := DataW.trod_int Tryd.underlying3 t1
      obtain ⟨x2, z2, j2, w2⟩ := DataW.trod_string Tryd.underlying9 t2
      obtain ⟨x3, z3, j3, w3⟩ := DataW.trod_int Tryd.underlying21 t3
      simp at z0 z1 z2 z3
      subst z0 z1 z2 z3
      refine ⟨⟨x0, x1, x2, x3⟩, ⟨c0, c1, c2, c3⟩, bounds_i64 w1, ?_⟩
      have hys : ys = [y0, y1, y2, y3] := by
        match ys, hyl, e0, e1, e2, e3 with
        | [a0, a1, a2, a3], _, e0, e1, e2, e3 => simp at e0 e1 e2 e3; subst e0 e1 e2 e3; rfl
      rw [hD, hys]
      simp [Raw.dat, j0, j1, j2, j3]
    obtain ⟨q, hq⟩ : ∃ q : Nat → Raw, ∀ k, k < len → RawAdd w ⟨b, off, spot⟩ k (q k) ∧ (q k).fits ∧ D k = (q k).dat :=
      ⟨fun k => if h : k < len then Classical.choose (key k h) else ⟨0, 0, ByteArray.empty, 0⟩, fun k hk => by simp only [dif_pos hk]; exact Classical.choose_spec (key k hk)⟩
    refine ⟨q, fun h0 => ?_, fun k hk => (hq k hk).2.1, .inr ⟨(List.range (m - len)).map fun j => D (len + j), ?_⟩⟩
    · have hspot : spot = none := by
        have c0 := (hq 0 h0).1.1
        simpa [Addr.add] using World.cell?_spot c0
      subst hspot
      refine ⟨b, off, rfl, fun k hk => ?_⟩
      have := (hq k hk).1
      simp only [RawAdd, Addr.add_lit, Nat.add_zero, ← Nat.add_assoc] at this
      exact this
    · rw [hx]
      simp only
      congr 1
      exact List.map_congr_left (fun k hk => (hq k (by simpa using hk)).2.2)

/-- A listed table's cells. -/
def litCells : DataW Unit → Array Value
  | .agg l => (l.map fun | .lit (.int k n) => Value.int k n | _ => Value.nilIface).toArray
  | _ => #[]
/-- A world for the witness: the settled one, the tables holding what their initialisers lay. -/
noncomputable def laidWorld (os : Os) : World :=
  { World.holding Tryd.prog os ⟨#[], #[], []⟩ with heap := ((((World.holding Tryd.prog os ⟨#[], #[], []⟩).heap.modify 0 fun
      | .cells _ t frozen => .cells (litCells Rows.laid_internal_strconv_uint64pow10) t frozen
      | o => o).modify 1 fun
      | .cells _ t frozen => .cells (litCells Rows.laid_math_bits_deBruijn32tab) t frozen
      | o => o).modify 2 fun
      | .cells _ t frozen => .cells (litCells Rows.laid_math_bits_deBruijn64tab) t frozen
      | o => o) }
theorem own : ownKnob Tryd.prog.godebug = none := by kernel_rfl
theorem laidOut : laidOutB Tryd.prog = true := by kernel_rfl
theorem cellsRaw : Tryd.prog.cellsOf 23 = 4 := by kernel_rfl
end Go.Proofs.YtboagdmjibdlhaaDoor
