/- What the laws share: a step, whatever it is; calls that came in, opened; a play made. Printed by wip/tools/adx.py. -/
import Derived.Test.YtaooglagddphnaaAdS
import Derived.Test.YtaooglagddphnaaAdT
import Derived.Test.YtaooglagddphnaaAdV
import Derived.Test.YtaooglagddphnaaAdW
import Derived.Lib.SmallJoins
import Derived.Deep.Slices
import Derived.Deep.Fields
import Derived.ChangeSame
import Derived.OpenShut
namespace Go.Proofs.Ytaooglagddphnaa
open Go.RowKit Go.ChangeShapes Go.WideShapes Go.Deep Go.Joins

set_option maxRecDepth 100000

section
variable {H : Type} {enc : TypeId × Value → H} {P : Program} {w : World} {base : Nat} {spare : Nat → Bool} {held : Bool}
theorem open_fields12 {t e : TypeId} {fs : Array Field} {fuel : Nat} {cs : List Value} {x : DataW H × List MemPlace} (ht : P.underlying t = some (.slice e)) (he : P.underlying e = some (.struct fs))
    (hone : oneCellFields P fs = true) (hC : P.cellsOf e = fs.size) (h : DataW.trod enc P w base spare held fuel t cs = some x) :
    (cs = [.slice none 0 0] ∧ x = (.nil, [])) ∨
    ∃ (a : Addr) (len cap m : Nat) (D : Nat → DataW H) (Pl : Nat → List MemPlace), cs = [.slice (some a) len cap] ∧ base ≤ a.block ∧ len ≤ cap ∧ cap ≤ maxLen ∧ m = (if spare a.block then cap else len) ∧
      x = (.slice ((List.range len).map D) ((List.range (m - len)).map fun j => D (len + j)), MemPlace.row a (m * fs.size) ++ (List.range m).flatMap Pl) ∧
      ∀ i, i < m → ∃ (ys : List (DataW H × List MemPlace)) (n : Nat), D i = .agg (ys.map (·.1)) ∧ Pl i = ys.flatMap (·.2) ∧ ys.length = fs.size ∧
        ∀ (j : Nat) (f : Field), fs[j]? = some f → ∃ (v : Value) (y : DataW H × List MemPlace), w.cell? (a.add (i * fs.size + j)) = some v ∧ ys[j]? = some y ∧ DataW.trod enc P w base spare held n f.type [v] = some y := by
  rcases open_slice ht h with h0 | ⟨a, len, cap, m, n, D, Pl, hcs, hb, hl, hm, hmm, hx, hi⟩
  · exact .inl h0
  · refine .inr ⟨a, len, cap, m, D, Pl, hcs, hb, hl, hm, hmm, by rw [hC] at hx; exact hx, fun i him => ?_⟩
    obtain ⟨cs', hc, ht'⟩ := hi i him
    rw [hC] at hc
    obtain ⟨ys, n', hn', hy, hlen, hyl, hf⟩ := DataW.trod_struct he ht'
    obtain ⟨_, hcl, hat⟩ := World.cells?_some hc
    simp only [Prod.mk.injEq] at hy
    refine ⟨ys, n', hy.1, hy.2, hyl, fun j f hj => ?_⟩
    obtain ⟨ho, hk⟩ := hone_of hone j f hj
    have hjl : j < fs.size := (Array.getElem?_eq_some_iff.1 hj).1
    have hcell := hat j hjl
    have hv : cs'[j]? = some (cs'[j]'(by omega)) := List.getElem?_eq_getElem (by omega)
    have h1 := hf j f hj
    rw [ho, hk] at h1
    have hone' : (cs'.drop j).take 1 = [cs'[j]'(by omega)] := by
      rw [List.drop_eq_getElem_cons (by omega)]
      rfl
    rw [hone'] at h1
    have hys : ys[j]? = some (ys[j]'(by omega)) := List.getElem?_eq_getElem (by omega)
    refine ⟨_, _, ?_, hys, h1.trans hys⟩
    rw [← Go.Deep.add_add, hcell, hv]
end
/-- A call. -/
structure O12 where
  kd : Int
  s : Int
  u : Int
  v : Int
  l : Int
/-- Calls in a slice. -/
def IsO12 (w : World) (a : Option Addr) (len : Nat) (q : Nat → O12) : Prop := 0 < len → ∃ b off, a = some ⟨b, off, none⟩ ∧ ∀ k, k < len → w.cell? ⟨b, off + k * 5, none⟩ = some (.int .i64 (q k).kd) ∧ w.cell? ⟨b, off + k * 5 + 1, none⟩ = some (.int .i64 (q k).s) ∧ w.cell? ⟨b, off + k * 5 + 2, none⟩ = some (.int .i64 (q k).u) ∧ w.cell? ⟨b, off + k * 5 + 3, none⟩ = some (.int .i64 (q k).v) ∧ w.cell? ⟨b, off + k * 5 + 4, none⟩ = some (.int .i64 (q k).l)
/-- One call in memory. -/
def O12At (w : World) (y : Addr) (k : Nat) (o : O12) : Prop :=
    w.cell? (y.add (k * 5 + 0)) = some (.int .i64 o.kd) ∧ w.cell? (y.add (k * 5 + 1)) = some (.int .i64 o.s) ∧
    w.cell? (y.add (k * 5 + 2)) = some (.int .i64 o.u) ∧ w.cell? (y.add (k * 5 + 3)) = some (.int .i64 o.v) ∧ w.cell? (y.add (k * 5 + 4)) = some (.int .i64 o.l)
def zO12 : O12 := ⟨0, 0, 0, 0, 0⟩
theorem open_o12 {H : Type} {enc : TypeId × Value → H} {w : World} {base fuel : Nat} {held : Bool} {v : Value} {x : DataW H × List MemPlace}
    (h : DataW.trod enc Try.prog w base (fun _ => true) held fuel 24 [v] = some x) : ∃ a len cap q, v = .slice a len cap ∧ IsO12 w a len q := by
  rcases open_fields12 Try.underlying24 Try.underlying47 (by kernel_rfl) (by kernel_rfl) h with ⟨hcs, _⟩ | ⟨y, l, c, m, D, Pl, hcs, _, hl, _, hm, _, hi⟩
  · simp at hcs
    subst hcs
    exact ⟨none, 0, 0, fun _ => zO12, rfl, fun h => absurd h (Nat.lt_irrefl _)⟩
  · simp at hcs
    subst hcs
    obtain ⟨b, off, spot⟩ := y
    simp at hm
    have key : ∀ k, k < l → ∃ o : O12, O12At w ⟨b, off, spot⟩ k o := by
      intro k hk
      obtain ⟨ys, n, _, _, _, hf⟩ := hi k (by omega)
      obtain ⟨v0, y0, c0, _, t0⟩ := hf 0 _ rfl
      obtain ⟨v1, y1, c1, _, t1⟩ := hf 1 _ rfl
      obtain ⟨v2, y2, c2, _, t2⟩ := hf 2 _ rfl
      obtain ⟨v3, y3, c3, _, t3⟩ := hf 3 _ rfl
      obtain ⟨v4, y4, c4, _, t4⟩ := hf 4 _ rfl
      obtain ⟨x0, z0, _, _⟩ := DataW.trod_int Try.underlying3 t0
      obtain ⟨x1, z1, _, _⟩ := DataW.trod_int Try.underlying3 t1
      obtain ⟨x2, z2, _, _⟩ := DataW.trod_int Try.underlying3 t2
      obtain ⟨x3, z3, _, _⟩ := DataW.trod_int Try.underlying3 t3
      obtain ⟨x4, z4, _, _⟩ := DataW.trod_int Try.underlying3 t4
      simp at z0 z1 z2 z3 z4
      subst z0 z1 z2 z3 z4
      exact ⟨⟨x0, x1, x2, x3, x4⟩, c0, c1, c2, c3, c4⟩
    obtain ⟨q, hq⟩ : ∃ q : Nat → O12, ∀ k, k < l → O12At w ⟨b, off, spot⟩ k (q k) :=
      ⟨fun k => if h : k < l then Classical.choose (key k h) else zO12, fun k hk => by simp only [dif_pos hk]; exact Classical.choose_spec (key k hk)⟩
    refine ⟨_, l, c, q, rfl, fun h0 => ?_⟩
    have hspot : spot = none := by
      have c0 := (hq 0 h0).1
      simpa [Addr.add] using World.cell?_spot c0
    subst hspot
    refine ⟨b, off, rfl, fun k hk => ?_⟩
    have := hq k hk
    simp only [O12At, Addr.add_lit, Nat.add_zero, ← Nat.add_assoc] at this
    exact this
theorem array5 {α : Type} {cs : Array α} (h : cs.size = 5) : ∃ c0 c1 c2 c3 c4, cs = #[c0, c1, c2, c3, c4] := by
  obtain ⟨l⟩ := cs
  match l, h with
  | [c0, c1, c2, c3, c4], _ => exact ⟨c0, c1, c2, c3, c4, rfl⟩
theorem open_o12v {H : Type} {enc : TypeId × Value → H} {w : World} {base : Nat} {held : Bool} {r : Reach} {b0 : Nat} {v : Value} {d : DataW H} {p : List MemPlace}
    (hv : Value.okWide Try.prog w r b0 47 v) (h : DataW.Trod enc Try.prog w base (fun _ => true) held 47 v d p) :
    ∃ x0 x1 x2 x3 x4, v = vO12 x0 x1 x2 x3 x4 ∧ -9223372036854775808 ≤ x1 ∧ x1 ≤ 9223372036854775807 := by
  obtain ⟨cs, rfl, hsz⟩ := okWide_struct Try.underlying47 hv
  obtain ⟨c0, c1, c2, c3, c4, rfl⟩ := array5 (hsz.trans (by kernel_rfl))
  obtain ⟨fuel, hf⟩ := h
  obtain ⟨xs, n, _, _, hl, hlen, hg⟩ := DataW.trod_struct Try.underlying47 hf
  match xs, hlen with
  | [y0, y1, y2, y3, y4], _ =>
    have g0 := hg 0 _ rfl
    have g1 := hg 1 _ rfl
    have g2 := hg 2 _ rfl
    have g3 := hg 3 _ rfl
    have g4 := hg 4 _ rfl
    rw [show Try.prog.cellsOf _ = 1 by kernel_rfl] at g0 g1 g2 g3 g4
    simp [Value.cells] at g0 g1 g2 g3 g4
    obtain ⟨x0, e0, _, _⟩ := DataW.trod_int Try.underlying3 g0
    obtain ⟨x1, e1, _, k1⟩ := DataW.trod_int Try.underlying3 g1
    obtain ⟨x2, e2, _, _⟩ := DataW.trod_int Try.underlying3 g2
    obtain ⟨x3, e3, _, _⟩ := DataW.trod_int Try.underlying3 g3
    obtain ⟨x4, e4, _, _⟩ := DataW.trod_int Try.underlying3 g4
    simp at e0 e1 e2 e3 e4
    subst e0 e1 e2 e3 e4
    exact ⟨x0, x1, x2, x3, x4, rfl, (bounds_i64 k1).1, (bounds_i64 k1).2⟩
section
variable {w w' w0 w3 : World} {base q eb lb p gb cap m n : Nat} {V S T kd s u v l : Int} {f : Nat → Int} {mk : Nat → Nat} {ts : List Tp} {bs : List E1} {qq : Nat → Nat → List Nat}
theorem nN8 (hR : Rt V S T) (v8 : V ≤ 8) : nN V S ≤ 416 := by
  have h1 := nN_int hR
  have h2 : lv V ≤ 4 := by unfold lv; split <;> (try split) <;> (try split) <;> (try split) <;> omega
  have h3 := (lv_bd V).1
  have h4 : lv V * V ≤ 4 * V := Int.mul_le_mul_of_nonneg_right h2 (by have := hR.v1; omega)
  have h5 : S * (lv V * 2) ≤ 48 * (lv V * 2) := Int.mul_le_mul_of_nonneg_right hR.s2 (by omega)
  have h6 : nd V S = lv V * V + S * (lv V * 2) := rfl
  omega
/-- step, as the laws call it. -/
theorem lstep12 (h : PM12 w0 w base q eb lb V S T p gb cap m n f mk ts bs qq) (hE : ER V S T f bs) (hm : m ≤ 99860000) :
    Calls Try.prog 13 #[.pointer (some ⟨q, 0, none⟩), vO12 kd s u v l] w (StD12 w0 base q eb lb V S T p gb cap m n ts bs qq kd s u v l) := by
  by_cases h0 : (u == v) = true
  · exact step_bad12 h hE (.inl h0)
  by_cases h1 : u < 0
  · exact step_bad12 h hE (.inr (.inl ⟨(by simpa using h0), h1⟩))
  by_cases h2 : V ≤ u
  · exact step_bad12 h hE (.inr (.inr (.inl ⟨(by simpa using h0), (by omega), h2⟩)))
  by_cases h3 : v < 0
  · exact step_bad12 h hE (.inr (.inr (.inr (.inl ⟨(by simpa using h0), (by omega), (by omega), h3⟩))))
  by_cases h4 : V ≤ v
  · exact step_bad12 h hE (.inr (.inr (.inr (.inr (.inl ⟨(by simpa using h0), (by omega), (by omega), (by omega), h4⟩)))))
  by_cases h5 : s < 0
  · exact step_bad12 h hE (.inr (.inr (.inr (.inr (.inr (.inl ⟨(by simpa using h0), (by omega), (by omega), (by omega), (by omega), h5⟩))))))
  by_cases h6 : S ≤ s
  · exact step_bad12 h hE (.inr (.inr (.inr (.inr (.inr (.inr (.inl ⟨(by simpa using h0), (by omega), (by omega), (by omega), (by omega), (by omega), h6⟩)))))))
  by_cases h7 : l < 0
  · exact step_bad12 h hE (.inr (.inr (.inr (.inr (.inr (.inr (.inr (.inl ⟨(by simpa using h0), (by omega), (by omega), (by omega), (by omega), (by omega), (by omega), h7⟩))))))))
  by_cases h8 : lv V ≤ l
  · exact step_bad12 h hE (.inr (.inr (.inr (.inr (.inr (.inr (.inr (.inr ⟨(by simpa using h0), (by omega), (by omega), (by omega), (by omega), (by omega), (by omega), (by omega), h8⟩))))))))
  have hne : u ≠ v := fun e => h0 (by rw [e]; exact beq_self_eq_true _)
  obtain ⟨s, rfl⟩ : ∃ n : Nat, s = (n : Int) := ⟨s.toNat, by omega⟩
  obtain ⟨u, rfl⟩ : ∃ n : Nat, u = (n : Int) := ⟨u.toNat, by omega⟩
  obtain ⟨v, rfl⟩ : ∃ n : Nat, v = (n : Int) := ⟨v.toNat, by omega⟩
  obtain ⟨l, rfl⟩ : ∃ n : Nat, l = (n : Int) := ⟨l.toNat, by omega⟩
  refine (step_good12 h hE (by omega) (by omega) (by omega) (by omega) (by omega) hm).mono ?_
  rintro e w' ⟨rfl, f', mk', bs', qq', h1, h2, h3⟩
  exact ⟨rfl, f', mk', bs', qq', h.over h1, h2, h3⟩
theorem qlen12 (h : PM12 w0 w base q eb lb V S T p gb cap m n f mk ts bs qq) (hE : ER V S T f bs) (v l : Nat) : (((qq v l).length : Nat) : Int) ≤ S :=
  dl_len h.ps.ta.hR h.lk h.lq hE.un fun e he => by have := (hE.ok e he).1; omega
/-- is, as the laws call it. -/
theorem lis12 (h : PM12 w0 w base q eb lb V S T p gb cap m n f mk ts bs qq) (hE : ER V S T f bs) (v8 : V ≤ 8) (hm : m ≤ 99870000) :
    Calls Try.prog 14 #[.pointer (some ⟨q, 0, none⟩)] w fun e w' => e = .returned (.bool true) ∧ PM12 w0 w' base q eb lb V S T p gb cap (m + 2080) n f mk ts bs qq :=
  is_any12 h (qlen12 h hE) v8 hm
/-- A play made. -/
theorem PM12.start (hT : TA w3 V S T p gb cap m zeroF (fun _ => 0) ts) (hp : base ≤ p) (hg : base ≤ gb) (hb : base ≤ w3.heap.size) :
    PM12 ((((w3.alloc (.cells #[.int .i64 V, .int .i64 S, .int .i64 T, .iface 84 (pmV p), .int .i64 1, .int .i64 0, .int .i64 V, .int .i64 S, .int .i64 T, .iface 84 (pmV p)] 38)).alloc (.map #[] 0)).alloc (.map #[] 0)).alloc (.cells #[.int .i64 V, .int .i64 S, .int .i64 T, .int .i64 V, .int .i64 S, .int .i64 T, .iface 84 (pmV p), .int .i64 1, .int .i64 0, .int .i64 V, .int .i64 S, .int .i64 T, .iface 84 (pmV p), .map (some (w3.heap.size + 1)), .map (some (w3.heap.size + 2))] 45)) ((((w3.alloc (.cells #[.int .i64 V, .int .i64 S, .int .i64 T, .iface 84 (pmV p), .int .i64 1, .int .i64 0, .int .i64 V, .int .i64 S, .int .i64 T, .iface 84 (pmV p)] 38)).alloc (.map #[] 0)).alloc (.map #[] 0)).alloc (.cells #[.int .i64 V, .int .i64 S, .int .i64 T, .int .i64 V, .int .i64 S, .int .i64 T, .iface 84 (pmV p), .int .i64 1, .int .i64 0, .int .i64 V, .int .i64 S, .int .i64 T, .iface 84 (pmV p), .map (some (w3.heap.size + 1)), .map (some (w3.heap.size + 2))] 45)) base (w3.heap.size + 3) (w3.heap.size + 1) (w3.heap.size + 2) V S T p gb cap m 0 zeroF (fun _ => 0) ts [] fun _ _ => [] := by
  have s1 : (w3.alloc (.cells #[.int .i64 V, .int .i64 S, .int .i64 T, .iface 84 (pmV p), .int .i64 1, .int .i64 0, .int .i64 V, .int .i64 S, .int .i64 T, .iface 84 (pmV p)] 38)).heap.size = w3.heap.size + 1 := by simp
  have s2 : ((w3.alloc (.cells #[.int .i64 V, .int .i64 S, .int .i64 T, .iface 84 (pmV p), .int .i64 1, .int .i64 0, .int .i64 V, .int .i64 S, .int .i64 T, .iface 84 (pmV p)] 38)).alloc (.map #[] 0)).heap.size = w3.heap.size + 2 := by simp
  have s3 : (((w3.alloc (.cells #[.int .i64 V, .int .i64 S, .int .i64 T, .iface 84 (pmV p), .int .i64 1, .int .i64 0, .int .i64 V, .int .i64 S, .int .i64 T, .iface 84 (pmV p)] 38)).alloc (.map #[] 0)).alloc (.map #[] 0)).heap.size = w3.heap.size + 3 := by simp
  have eG : Ge [] = fun _ _ => False := by funext x y; simp [Ge]
  have al : ∀ (W : World) (o : Obj), Below W.heap.size W (W.alloc o) := fun W o => (Below.refl _ _).alloc (Nat.le_refl _) o
  have f1 := FM.made 3 (w3.alloc (.cells #[.int .i64 V, .int .i64 S, .int .i64 T, .iface 84 (pmV p), .int .i64 1, .int .i64 0, .int .i64 V, .int .i64 S, .int .i64 T, .iface 84 (pmV p)] 38))
  rw [s1] at f1
  have f2 := f1.keep ((al _ (.map #[] 0)).block _ f1.lt)
  have f3 := f2.keep ((al _ (.cells #[.int .i64 V, .int .i64 S, .int .i64 T, .int .i64 V, .int .i64 S, .int .i64 T, .iface 84 (pmV p), .int .i64 1, .int .i64 0, .int .i64 V, .int .i64 S, .int .i64 T, .iface 84 (pmV p), .map (some (w3.heap.size + 1)), .map (some (w3.heap.size + 2))] 45)).block _ f2.lt)
  have g1 := LM.made ((w3.alloc (.cells #[.int .i64 V, .int .i64 S, .int .i64 T, .iface 84 (pmV p), .int .i64 1, .int .i64 0, .int .i64 V, .int .i64 S, .int .i64 T, .iface 84 (pmV p)] 38)).alloc (.map #[] 0)) base
  rw [s2] at g1
  have g2 := g1.below (al _ (.cells #[.int .i64 V, .int .i64 S, .int .i64 T, .int .i64 V, .int .i64 S, .int .i64 T, .iface 84 (pmV p), .int .i64 1, .int .i64 0, .int .i64 V, .int .i64 S, .int .i64 T, .iface 84 (pmV p), .map (some (w3.heap.size + 1)), .map (some (w3.heap.size + 2))] 45))
  have p1 := Blk.new (((w3.alloc (.cells #[.int .i64 V, .int .i64 S, .int .i64 T, .iface 84 (pmV p), .int .i64 1, .int .i64 0, .int .i64 V, .int .i64 S, .int .i64 T, .iface 84 (pmV p)] 38)).alloc (.map #[] 0)).alloc (.map #[] 0)) 45 #[.int .i64 V, .int .i64 S, .int .i64 T, .int .i64 V, .int .i64 S, .int .i64 T, .iface 84 (pmV p), .int .i64 1, .int .i64 0, .int .i64 V, .int .i64 S, .int .i64 T, .iface 84 (pmV p), .map (some (w3.heap.size + 1)), .map (some (w3.heap.size + 2))]
  rw [s3] at p1
  refine ⟨⟨p1, (((hT.alloc _).alloc _).alloc _).alloc _, by rw [eG]; exact f3, g2, Below.refl _ _, ⟨by omega, hp, hg, by omega, by omega, by omega⟩, fun _ _ _ h _ _ => h⟩, LQ.nil hT.hR, MQ.nil, LK.nil⟩
/-- Between two calls of a law. -/
def Lp12 (w0 : World) (base q eb lb : Nat) (V S T : Int) (p gb cap m0 c ol : Nat) (ts : List Tp) (i : Value) (W : World) : Prop :=
  ∃ k f mk bs qq, k ≤ ol ∧ i = .int .i64 ((k : Nat) : Int) ∧ PM12 w0 W base q eb lb V S T p gb cap (m0 + c * k) (4 * k) f mk ts bs qq ∧ ER V S T f bs
end
end Go.Proofs.Ytaooglagddphnaa
