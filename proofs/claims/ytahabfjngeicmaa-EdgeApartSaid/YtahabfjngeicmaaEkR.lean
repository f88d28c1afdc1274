/- Calls that came in, opened. -/
import Derived.Test.YtahabfjngeicmaaEkL
import Derived.Test.YtahabfjngeicmaaEkQ
import Derived.Lib.SmallJoins
import Derived.Deep.Slices
import Derived.Deep.Fields
import Derived.ChangeSame
import Derived.OpenShut
namespace Go.Proofs.Ytahabfjngeicmaa
open Go.RowKit Go.ChangeShapes Go.WideShapes Go.Deep Go.Joins

set_option maxRecDepth 100000

section
variable {H : Type} {enc : TypeId × Value → H} {P : Program} {w : World} {base : Nat} {spare : Nat → Bool} {held : Bool}
theorem open_fields11 {t e : TypeId} {fs : Array Field} {fuel : Nat} {cs : List Value} {x : DataW H × List MemPlace} (ht : P.underlying t = some (.slice e)) (he : P.underlying e = some (.struct fs))
    (hone : oneCellFields P fs = true) (hC : P.cellsOf e = fs.size) (h : DataW.trod enc P w base spare held fuel t cs = some x) :
    (cs = [.slice none 0 0] ∧ x = (.nil, [])) ∨
    ∃ (a : Addr) (len cap m : Nat) (D : Nat → DataW H) (Pl : Nat → List MemPlace), cs = [.slice (some a) len cap] ∧ base ≤ a.block ∧ len ≤ cap ∧ cap ≤ maxLen ∧ m = (if spare a.block then cap else len) ∧
      x = (.slice ((List.range len).map D) ((List.range (m - len)).map fun j => D (len + j)), MemPlace.row a (m * fs.size) ++ (List.range m).flatMap Pl) ∧
      ∀ i, i < m → ∃ (ys : List (DataW H × List MemPlace)) (n : Nat), D i = .agg (ys.map (·.1)) ∧ Pl i = ys.flatMap (·.2) ∧ ys.length = fs.size ∧
        ∀ (j : Nat) (f : Field), fs[j]? = some f → ∃ (v : Value) (y : DataW H × List MemPlace), w.cell? (a.add (i * fs.size + j)) = some v ∧ ys[j]? = some y ∧ DataW.trod enc P w base spare held n f.type [v] = some y := by
  rcases open_slice ht h with h0 | ⟨a, len, cap, m, n, D, Pl, hcs, hb, hl, hm, hmm, hx, hi⟩
  · exact .inl h0
  · refine .inr ⟨a, len, cap, m, D, Pl, hcs, hb, hl, hm, hmm, by rw [hC] at hx; exact hx, fun i him => ?_⟩
    obtain ⟨cs', hc, ht'⟩ := hi i him
    rw [hC] at hc
    obtain ⟨ys, n', hn', hy, hlen, hyl, hf⟩ := DataW.trod_struct he ht'
    obtain ⟨_, hcl, hat⟩ := World.cells?_some hc
    simp only [Prod.mk.injEq] at hy
    refine ⟨ys, n', hy.1, hy.2, hyl, fun j f hj => ?_⟩
    obtain ⟨ho, hk⟩ := hone_of hone j f hj
    have hjl : j < fs.size := (Array.getElem?_eq_some_iff.1 hj).1
    have hcell := hat j hjl
    have hv : cs'[j]? = some (cs'[j]'(by omega)) := List.getElem?_eq_getElem (by omega)
    have h1 := hf j f hj
    rw [ho, hk] at h1
    have hone' : (cs'.drop j).take 1 = [cs'[j]'(by omega)] := by
      rw [List.drop_eq_getElem_cons (by omega)]
      rfl
    rw [hone'] at h1
    have hys : ys[j]? = some (ys[j]'(by omega)) := List.getElem?_eq_getElem (by omega)
    refine ⟨_, _, ?_, hys, h1.trans hys⟩
    rw [← Go.Deep.add_add, hcell, hv]
end
/-- A call. -/
structure O11 where
  kd : Int
  s : Int
  u : Int
  v : Int
  l : Int
  t : Bool
/-- Calls in a slice. -/
def IsO11 (w : World) (a : Option Addr) (len : Nat) (q : Nat → O11) : Prop := 0 < len → ∃ b off, a = some ⟨b, off, none⟩ ∧ ∀ k, k < len → w.cell? ⟨b, off + k * 6, none⟩ = some (.int .i64 (q k).kd) ∧ w.cell? ⟨b, off + k * 6 + 1, none⟩ = some (.int .i64 (q k).s) ∧ w.cell? ⟨b, off + k * 6 + 2, none⟩ = some (.int .i64 (q k).u) ∧ w.cell? ⟨b, off + k * 6 + 3, none⟩ = some (.int .i64 (q k).v) ∧ w.cell? ⟨b, off + k * 6 + 4, none⟩ = some (.int .i64 (q k).l) ∧ w.cell? ⟨b, off + k * 6 + 5, none⟩ = some (.bool (q k).t)
/-- One call in memory. -/
def O11At (w : World) (y : Addr) (k : Nat) (o : O11) : Prop :=
    w.cell? (y.add (k * 6 + 0)) = some (.int .i64 o.kd) ∧ w.cell? (y.add (k * 6 + 1)) = some (.int .i64 o.s) ∧
    w.cell? (y.add (k * 6 + 2)) = some (.int .i64 o.u) ∧ w.cell? (y.add (k * 6 + 3)) = some (.int .i64 o.v) ∧ w.cell? (y.add (k * 6 + 4)) = some (.int .i64 o.l) ∧ w.cell? (y.add (k * 6 + 5)) = some (.bool o.t)
def zO11 : O11 := ⟨0, 0, 0, 0, 0, false⟩
theorem open_o11 {H : Type} {enc : TypeId × Value → H} {w : World} {base fuel : Nat} {held : Bool} {v : Value} {x : DataW H × List MemPlace}
    (h : DataW.trod enc Try.prog w base (fun _ => true) held fuel 61 [v] = some x) : ∃ a len cap q, v = .slice a len cap ∧ IsO11 w a len q := by
  rcases open_fields11 Try.underlying61 Try.underlying72 (by kernel_rfl) (by kernel_rfl) h with ⟨hcs, _⟩ | ⟨y, l, c, m, D, Pl, hcs, _, hl, _, hm, _, hi⟩
  · simp at hcs
    subst hcs
    exact ⟨none, 0, 0, fun _ => zO11, rfl, fun h => absurd h (Nat.lt_irrefl _)⟩
  · simp at hcs
    subst hcs
    obtain ⟨b, off, spot⟩ := y
    simp at hm
    have key : ∀ k, k < l → ∃ o : O11, O11At w ⟨b, off, spot⟩ k o := by
      intro k hk
      obtain ⟨ys, n, _, _, _, hf⟩ := hi k (by omega)
      obtain ⟨v0, y0, c0, _, t0⟩ := hf 0 _ rfl
      obtain ⟨v1, y1, c1, _, t1⟩ := hf 1 _ rfl
      obtain ⟨v2, y2, c2, _, t2⟩ := hf 2 _ rfl
      obtain ⟨v3, y3, c3, _, t3⟩ := hf 3 _ rfl
      obtain ⟨v4, y4, c4, _, t4⟩ := hf 4 _ rfl
      obtain ⟨v5, y5, c5, _, t5⟩ := hf 5 _ rfl
      obtain ⟨x0, z0, _, _⟩ := DataW.trod_int Try.underlying3 t0
      obtain ⟨x1, z1, _, _⟩ := DataW.trod_int Try.underlying3 t1
      obtain ⟨x2, z2, _, _⟩ := DataW.trod_int Try.underlying3 t2
      obtain ⟨x3, z3, _, _⟩ := DataW.trod_int Try.underlying3 t3
      obtain ⟨x4, z4, _, _⟩ := DataW.trod_int Try.underlying3 t4
      obtain ⟨x5, z5, _⟩ := DataW.trod_bool Try.underlying4 t5
      simp at z0 z1 z2 z3 z4 z5
      subst z0 z1 z2 z3 z4 z5
      exact ⟨⟨x0, x1, x2, x3, x4, x5⟩, c0, c1, c2, c3, c4, c5⟩
    obtain ⟨q, hq⟩ : ∃ q : Nat → O11, ∀ k, k < l → O11At w ⟨b, off, spot⟩ k (q k) :=
      ⟨fun k => if h : k < l then Classical.choose (key k h) else zO11, fun k hk => by simp only [dif_pos hk]; exact Classical.choose_spec (key k hk)⟩
    refine ⟨_, l, c, q, rfl, fun h0 => ?_⟩
    have hspot : spot = none := by
      have c0 := (hq 0 h0).1
      simpa [Addr.add] using World.cell?_spot c0
    subst hspot
    refine ⟨b, off, rfl, fun k hk => ?_⟩
    have := hq k hk
    simp only [O11At, Addr.add_lit, Nat.add_zero, ← Nat.add_assoc] at this
    exact this
theorem array6 {α : Type} {cs : Array α} (h : cs.size = 6) : ∃ c0 c1 c2 c3 c4 c5, cs = #[c0, c1, c2, c3, c4, c5] := by
  obtain ⟨l⟩ := cs
  match l, h with
  | [c0, c1, c2, c3, c4, c5], _ => exact ⟨c0, c1, c2, c3, c4, c5, rfl⟩
theorem open_o11v {H : Type} {enc : TypeId × Value → H} {w : World} {base : Nat} {held : Bool} {r : Reach} {b0 : Nat} {v : Value} {d : DataW H} {p : List MemPlace}
    (hv : Value.okWide Try.prog w r b0 72 v) (h : DataW.Trod enc Try.prog w base (fun _ => true) held 72 v d p) :
    ∃ x0 x1 x2 x3 x4 x5, v = vO11 x0 x1 x2 x3 x4 x5 := by
  obtain ⟨cs, rfl, hsz⟩ := okWide_struct Try.underlying72 hv
  obtain ⟨c0, c1, c2, c3, c4, c5, rfl⟩ := array6 (hsz.trans (by kernel_rfl))
  obtain ⟨fuel, hf⟩ := h
  obtain ⟨xs, n, _, _, hl, hlen, hg⟩ := DataW.trod_struct Try.underlying72 hf
  match xs, hlen with
  | [y0, y1, y2, y3, y4, y5], _ =>
    have g0 := hg 0 _ rfl
    have g1 := hg 1 _ rfl
    have g2 := hg 2 _ rfl
    have g3 := hg 3 _ rfl
    have g4 := hg 4 _ rfl
    have g5 := hg 5 _ rfl
    rw [show Try.prog.cellsOf _ = 1 by kernel_rfl] at g0 g1 g2 g3 g4 g5
    simp [Value.cells] at g0 g1 g2 g3 g4 g5
    obtain ⟨x0, e0, _, _⟩ := DataW.trod_int Try.underlying3 g0
    obtain ⟨x1, e1, _, _⟩ := DataW.trod_int Try.underlying3 g1
    obtain ⟨x2, e2, _, _⟩ := DataW.trod_int Try.underlying3 g2
    obtain ⟨x3, e3, _, _⟩ := DataW.trod_int Try.underlying3 g3
    obtain ⟨x4, e4, _, _⟩ := DataW.trod_int Try.underlying3 g4
    obtain ⟨x5, e5, _⟩ := DataW.trod_bool Try.underlying4 g5
    simp at e0 e1 e2 e3 e4 e5
    subst e0 e1 e2 e3 e4 e5
    exact ⟨x0, x1, x2, x3, x4, x5, rfl⟩
end Go.Proofs.Ytahabfjngeicmaa
