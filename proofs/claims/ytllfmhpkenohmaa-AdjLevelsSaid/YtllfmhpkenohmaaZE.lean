/- Split, Merge, List; a play's words. -/
import Derived.Test.YtllfmhpkenohmaaZD
import Derived.Laws.MakeOwn

/- Contract of Split. Printed by wip/tools/trpq.py. -/
namespace Go.Proofs.Ytllfmhpkenohmaa
open Go.RowKit Go.Shelf

attribute [local go_sem] Oper.semAt_some
set_option maxRecDepth 100000

/-- The last k steps of a way. -/
def fsB (L : List Fr) (k : Nat) : List Fr := L.drop (L.length - k)
theorem fsB_zero (L : List Fr) : fsB L 0 = [] := by simp [fsB]
theorem fsB_all (L : List Fr) : fsB L L.length = L := by simp [fsB]
theorem fsB_succ {L : List Fr} {k : Nat} (h : k < L.length) : fsB L (k + 1) = (bkF L k).2 :: fsB L k := by
  have hj : L.length - 1 - k < L.length := by omega
  unfold fsB bkF
  rw [show L.length - (k + 1) = L.length - 1 - k by omega, List.drop_eq_getElem_cons hj, List.getElem?_eq_getElem hj, show L.length - 1 - k + 1 = L.length - k by omega]
  rfl
theorem bkF_ok {L : List Fr} {n : Nat} (hn : 1 ≤ n) (h : ∀ f ∈ L, 1 ≤ f.x ∧ f.x ≤ n) (k : Nat) : 1 ≤ (bkF L k).2.x ∧ (bkF L k).2.x ≤ n := by
  unfold bkF
  cases e : L[L.length - 1 - k]? with
  | none => exact ⟨Nat.le_refl _, hn⟩
  | some f => exact h f (List.mem_of_getElem? e)
theorem bkF_mem {L : List Fr} {k : Nat} (h : k < L.length) : (bkF L k).2 ∈ L := by
  have hj : L.length - 1 - k < L.length := by omega
  unfold bkF; rw [List.getElem?_eq_getElem hj]; exact List.getElem_mem hj

section
variable {V S T : Int} {g : Mg9} {w w' w0 W W' : World} {p gb cap m : Nat} {row : Option Nat}
theorem Blk.own {i : Nat} {ty : TypeId} {cs : Array Value} (h : Blk W i ty cs) (hg : W.grownBy W' row) (hr : ∀ r, row = some r → ∃ o : Obj, W.heap[r]? = some o ∧ o.isCells = false) : Blk W' i ty cs :=
  h.grown hg fun e => by obtain ⟨o, h1, h2⟩ := hr _ e; rw [show W.heap[i]? = _ from h] at h1; cases h1; cases h2
theorem TM.own_ (h : TM W V S T p gb cap m g) (hg : W.grownBy W' row) (hr : ∀ r, row = some r → ∃ o : Obj, W.heap[r]? = some o ∧ o.isCells = false) : TM W' V S T p gb cap m g := by
  obtain ⟨⟨_, h3⟩, ⟨_, h4⟩⟩ := h.blk
  refine h.grown hg (fun e => ?_) fun e => ?_
  · obtain ⟨o, h1, h2⟩ := hr _ e; rw [show W.heap[p]? = _ from h3] at h1; cases h1; cases h2
  · obtain ⟨o, h1, h2⟩ := hr _ e; rw [show W.heap[gb]? = _ from h4] at h1; cases h1; cases h2
theorem Boxed.blk {i : Nat} {ty : TypeId} {v : Value} (h : Boxed W i ty v) : Blk W i ty #[v] := h
/-- What a call on trees leaves keeps what is no cells. -/
theorem keepsFrom_only {B : Nat} (A : TM W V S T p gb cap m g) (ho : Only p gb W W') : KeepsFrom B W W' := by
  obtain ⟨⟨_, h3⟩, ⟨_, h4⟩⟩ := A.blk
  refine ⟨ho.size, fun k o hk h0 hc => (ho.block k ?_ (fun e => ?_) fun e => ?_).trans h0⟩
  · exact (Array.getElem?_eq_some_iff.1 h0).1
  · subst e; rw [show W.heap[k]? = _ from h3] at h0; cases h0; cases hc
  · subst e; rw [show W.heap[k]? = _ from h4] at h0; cases h0; cases hc
/-- .. and two blocks of other types. -/
theorem kpB_only {i j : Nat} {t1 t2 : TypeId} {c1 c2 : Array Value} (A : TM W V S T p gb cap m g) (ho : Only p gb W W') (h1 : Blk W i t1 c1) (h2 : Blk W j t2 c2) (n1 : t1 ≠ 105) (n2 : t1 ≠ 51) (n3 : t2 ≠ 105) (n4 : t2 ≠ 51) : KpB i j W W' :=
  ⟨(h1.treap A ho n1 n2).trans h1.symm, (h2.treap A ho n3 n4).trans h2.symm⟩

/-- Between two rounds of Split. -/
def SpI (w0 : World) (b Bs : Nat) (V S T : Int) (p gb cap m : Nat) (g : Mg9) (mk : Nat → Nat) (L : List Fr) (pre : List Nat) (W : World) : Prop :=
  ∃ g1 a c, Bs < W.heap.size ∧ Boxed W (b + 1) 3 (.int .i64 ((a : Nat) : Int)) ∧ Boxed W (b + 1 + 1) 3 (.int .i64 ((c : Nat) : Int)) ∧ a ≤ nN V S ∧ c ≤ nN V S ∧ TB W b V S T p ∧ TM W V S T p gb cap (m + 9 * pre.length) g1 ∧ Only p gb w0 W ∧
    (pre = List.range pre.length → pre.length ≤ L.length → SStep (vxN V) mk g g1 (plug (fsB L pre.length) .nil) (splitZ (fsB L pre.length)).1 (splitZ (fsB L pre.length)).2 ∧ a = (splitZ (fsB L pre.length)).1.root ∧ c = (splitZ (fsB L pre.length)).2.root)
theorem SpI.own {b Bs : Nat} {mk : Nat → Nat} {L : List Fr} {B : Nat} (hB : w0.heap.size ≤ B) : OwnFrom B (SpI w0 b Bs V S T p gb cap m g mk L) := fun s W W' row hs hg hr => by
  obtain ⟨g1, a, c, h0, h1, h2, h3, h4, h5, h6, h7, h8⟩ := hs
  have hr' := fun r e => (hr r e).2
  exact ⟨g1, a, c, Nat.lt_of_lt_of_le h0 hg.size, Blk.own h1 hg hr', Blk.own h2 hg hr', h3, h4, Blk.own h5 hg hr', h6.own_ hg hr', h7.grown hg fun i hi => by have := (hr i hi).1; omega, h8⟩

theorem OnlyKp {i j : Nat} (ho : Only p gb W W') (hi : i < W.heap.size) (hj : j < W.heap.size) (h1 : i ≠ p) (h2 : i ≠ gb) (h3 : j ≠ p) (h4 : j ≠ gb) : KpB i j W W' := ⟨ho.block i hi h1 h2, ho.block j hj h3 h4⟩
theorem KpB.set {i j q : Nat} (h : KpB i j W W') (h1 : i ≠ q) (h2 : j ≠ q) (u : Value) : KpB i j W (W'.setCell ⟨q, 0, none⟩ u) := ⟨(Below.heap_setCell W' ⟨q, 0, none⟩ u i h1).trans h.1, (Below.heap_setCell W' ⟨q, 0, none⟩ u j h2).trans h.2⟩

/-- A step of the way back, of a split. -/
theorem split_next {mk : Nat → Nat} (hm : ∀ x, mk x < 4) {t0 : Tp} {L : List Fr} {g1 : Mg9} {k : Nat} (hL : plug L .nil = t0) (hl : Loose (vxN V) mk g t0) (hz : t0.size < 65536) (hnd : t0.row.Nodup) (hn : ∀ y ∈ t0.row, y ≠ 0) (hk : k < L.length)
    (h : SStep (vxN V) mk g g1 (plug (fsB L k) .nil) (splitZ (fsB L k)).1 (splitZ (fsB L k)).2) :
    SStep (vxN V) mk g (hangG (vxN V) g1 (bkF L k).2.x (bkF L k).2.rt (if (bkF L k).2.rt then (splitZ (fsB L k)).1.root else (splitZ (fsB L k)).2.root)) (plug (fsB L (k + 1)) .nil) (splitZ (fsB L (k + 1))).1 (splitZ (fsB L (k + 1))).2 := by
  have hs : t0 = plug (L.take (L.length - (k + 1))) (plug (fsB L (k + 1)) .nil) := by rw [← plug_app]; unfold fsB; rw [List.take_append_drop, hL]
  have hfr := (plug_frames hm (fs := L) (t := .nil) (by rw [hL]; exact hl) (by rw [hL]; exact hz) (by rw [hL]; exact hn)).1 _ (bkF_mem hk)
  have h1 : (plug (fsB L (k + 1)) .nil).row.Nodup := by rw [hs] at hnd; exact plug_nodup hnd
  have h2 : ∀ y ∈ (plug (fsB L (k + 1)) .nil).row, y ≠ 0 := fun y hy => hn y (by rw [hs]; exact plug_mem hy)
  have h3 : (plug (fsB L (k + 1)) .nil).size < 65536 := by
    have := plug_size (L.take (L.length - (k + 1))) (plug (fsB L (k + 1)) .nil)
    rw [← hs] at this; omega
  rw [fsB_succ hk] at h1 h2 h3 ⊢
  exact h.next hm hfr h1 h2 h3
theorem split_start {mk : Nat → Nat} (L : List Fr) (hz : ∀ k, g 0 k = 0) : SStep (vxN V) mk g g (plug (fsB L 0) .nil) (splitZ (fsB L 0)).1 (splitZ (fsB L 0)).2 := by
  rw [fsB_zero]; exact ⟨trivial, trivial, hz, fun _ _ _ => rfl, fun _ => rfl⟩
/-- Both roots' parents are set to none. -/
theorem split_done {mk : Nat → Nat} {g1 : Mg9} {t a b : Tp} (h : SStep (vxN V) mk g g1 t a b) (ha : ∀ y ∈ a.row, y ∈ t.row) (hb : ∀ y ∈ b.row, y ∈ t.row) (hd : ∀ y ∈ a.row, y ∉ b.row) (na : a.row.Nodup) (nb : b.row.Nodup) :
    Stands (vxN V) mk (setP (setP g1 a.root 0) b.root 0) a ∧ Stands (vxN V) mk (setP (setP g1 a.root 0) b.root 0) b ∧ (∀ y, y ∉ t.row → ∀ k, setP (setP g1 a.root 0) b.root 0 y k = g y k) ∧ ∀ y, setP (setP g1 a.root 0) b.root 0 y 5 = g y 5 := by
  have ab_ : ∀ y ∈ a.row, y ≠ b.root ∨ b.root = 0 := fun y hy => by
    by_cases h0 : b.root = 0
    · exact .inr h0
    · exact .inl fun e => hd y hy (e ▸ Tp.root_mem h0)
  have other : ∀ y, (y ≠ a.root ∨ a.root = 0) → (y ≠ b.root ∨ b.root = 0) → ∀ k, setP (setP g1 a.root 0) b.root 0 y k = g1 y k := fun y h1 h2 k => by
    have e1 : setP g1 a.root 0 y k = g1 y k := by
      rcases h1 with h1 | h1
      · exact setP_other _ _ _ h1
      · unfold setP; rw [if_pos h1]
    rcases h2 with h2 | h2
    · rw [setP_other _ _ _ h2, e1]
    · unfold setP at e1 ⊢; rw [if_pos h2]; exact e1
  refine ⟨⟨h.la.congr (fun y _ => ⟨rfl, ?_, ?_, ?_⟩) na fun y hy hne => other y (.inl hne) (ab_ y hy) 2, fun h0 => ?_⟩, ⟨h.lb.congr (fun y _ => ⟨rfl, ?_, ?_, ?_⟩) nb fun y hy hne => ?_, fun h0 => ?_⟩, fun y hy k => ?_, fun y => ?_⟩
  · rw [setP_field _ _ _ _ (by decide), setP_field _ _ _ _ (by decide)]
  · rw [setP_field _ _ _ _ (by decide), setP_field _ _ _ _ (by decide)]
  · rw [setP_field _ _ _ _ (by decide), setP_field _ _ _ _ (by decide)]
  · rcases ab_ _ (Tp.root_mem h0) with e | e
    · rw [setP_other _ _ _ e, setP_same _ _ h0]
    · unfold setP; rw [if_pos e, if_neg h0, up2_same]
  · rw [setP_field _ _ _ _ (by decide), setP_field _ _ _ _ (by decide)]
  · rw [setP_field _ _ _ _ (by decide), setP_field _ _ _ _ (by decide)]
  · rw [setP_field _ _ _ _ (by decide), setP_field _ _ _ _ (by decide)]
  · refine other y ?_ (.inl hne) 2
    by_cases h0 : a.root = 0
    · exact .inr h0
    · exact .inl fun e => hd _ (Tp.root_mem h0) (e ▸ hy)
  · exact setP_same _ _ h0
  · refine (other y ?_ ?_ k).trans (h.o y hy k)
    · by_cases h0 : a.root = 0
      · exact .inr h0
      · exact .inl fun e => hy (e ▸ ha _ (Tp.root_mem h0))
    · by_cases h0 : b.root = 0
      · exact .inr h0
      · exact .inl fun e => hy (e ▸ hb _ (Tp.root_mem h0))
  · rw [setP_field _ _ _ _ (by decide), setP_field _ _ _ _ (by decide)]; exact h.p y

/-- What Split leaves: two trees, beside what was there. -/
def SplitD (V S T : Int) (p gb cap m : Nat) (g : Mg9) (mk : Nat → Nat) (t ta tb : Tp) (w : World) (e : Ending) (w' : World) : Prop :=
  ∃ g', e = .returned (.tuple #[.int .i64 ((ta.root : Nat) : Int), .int .i64 ((tb.root : Nat) : Int)]) ∧ TM w' V S T p gb cap m g' ∧ Only p gb w w' ∧ Stands (vxN V) mk g' ta ∧ Stands (vxN V) mk g' tb ∧ (∀ y, y ∉ t.row → ∀ k, g' y k = g y k) ∧ ∀ y, g' y 5 = g y 5

end

end Go.Proofs.Ytllfmhpkenohmaa

/- Contract of Merge. Printed by wip/tools/trpr.py. -/
namespace Go.Proofs.Ytllfmhpkenohmaa
open Go.RowKit Go.Shelf

attribute [local go_sem] Oper.semAt_some
set_option maxRecDepth 100000

section
variable {V S T : Int} {g : Mg9} {w w' w0 W W' : World} {p gb cap m : Nat} {row : Option Nat}
/-- Between two rounds of Merge. -/
def MgI (w0 : World) (b r8 Bs : Nat) (V S T : Int) (p gb cap m : Nat) (g : Mg9) (mk : Nat → Nat) (L : List Fr) (rest : Tp) (pre : List Nat) (W : World) : Prop :=
  ∃ g1 c, Bs < W.heap.size ∧ Boxed W r8 3 (.int .i64 ((c : Nat) : Int)) ∧ c ≤ nN V S ∧ TB W b V S T p ∧ TM W V S T p gb cap (m + 9 * pre.length) g1 ∧ Only p gb w0 W ∧
    (pre = List.range pre.length → pre.length ≤ L.length → MStep (vxN V) mk g g1 (plug (fsB L pre.length) rest) ∧ c = (plug (fsB L pre.length) rest).root)
theorem MgI.own {b r8 Bs : Nat} {mk : Nat → Nat} {L : List Fr} {rest : Tp} {B : Nat} (hB : w0.heap.size ≤ B) : OwnFrom B (MgI w0 b r8 Bs V S T p gb cap m g mk L rest) := fun s W W' row hs hg hr => by
  obtain ⟨g1, c, h0, h2, h4, h5, h6, h7, h8⟩ := hs
  have hr' := fun r e => (hr r e).2
  exact ⟨g1, c, Nat.lt_of_lt_of_le h0 hg.size, Blk.own h2 hg hr', h4, Blk.own h5 hg hr', h6.own_ hg hr', h7.grown hg fun i hi => by have := (hr i hi).1; omega, h8⟩

/-- A step of the way back, of a merge. -/
theorem merge_next {mk : Nat → Nat} (hm : ∀ x, mk x < 4) {t0 rest : Tp} {L : List Fr} {g1 : Mg9} {k : Nat} (hL : plug L rest = t0) (hf : ∀ f ∈ L, FrOk (vxN V) mk g f) (hz : t0.size < 65536) (hnd : t0.row.Nodup) (hn : ∀ y ∈ t0.row, y ≠ 0) (hk : k < L.length)
    (h : MStep (vxN V) mk g g1 (plug (fsB L k) rest)) : MStep (vxN V) mk g (hangG (vxN V) g1 (bkF L k).2.x (bkF L k).2.rt (plug (fsB L k) rest).root) (plug (fsB L (k + 1)) rest) := by
  have hs : t0 = plug (L.take (L.length - (k + 1))) (plug (fsB L (k + 1)) rest) := by rw [← plug_app]; unfold fsB; rw [List.take_append_drop, hL]
  have h1 : (plug (fsB L (k + 1)) rest).row.Nodup := by rw [hs] at hnd; exact plug_nodup hnd
  have h2 : ∀ y ∈ (plug (fsB L (k + 1)) rest).row, y ≠ 0 := fun y hy => hn y (by rw [hs]; exact plug_mem hy)
  have h3 : (plug (fsB L (k + 1)) rest).size < 65536 := by
    have := plug_size (L.take (L.length - (k + 1))) (plug (fsB L (k + 1)) rest)
    rw [← hs] at this; omega
  rw [fsB_succ hk] at h1 h2 h3 ⊢
  exact h.next hm (hf _ (bkF_mem hk)) h1 h2 h3
/-- The root's parent is set to none. -/
theorem merge_done {mk : Nat → Nat} {g1 : Mg9} {t : Tp} (h : MStep (vxN V) mk g g1 t) (n : t.row.Nodup) : Stands (vxN V) mk (setP g1 t.root 0) t ∧ (∀ y, y ∉ t.row → ∀ k, setP g1 t.root 0 y k = g y k) ∧ ∀ y, setP g1 t.root 0 y 5 = g y 5 := by
  refine ⟨⟨h.l.congr (fun y _ => ⟨rfl, setP_field _ _ _ _ (by decide), setP_field _ _ _ _ (by decide), setP_field _ _ _ _ (by decide)⟩) n fun y _ hne => setP_other _ _ _ hne, fun h0 => setP_same _ _ h0⟩, fun y hy k => ?_, fun y => (setP_field _ _ _ _ (by decide)).trans (h.p y)⟩
  by_cases h0 : t.root = 0
  · unfold setP; rw [if_pos h0]; exact h.o y hy k
  · rw [setP_other _ _ _ fun e => hy (by rw [e]; exact Tp.root_mem h0)]; exact h.o y hy k

/-- What Merge leaves. -/
def MergeD (V S T : Int) (p gb cap m : Nat) (g : Mg9) (mk : Nat → Nat) (ta tb : Tp) (w : World) (e : Ending) (w' : World) : Prop :=
  ∃ g' t, e = .returned (.int .i64 ((t.root : Nat) : Int)) ∧ TM w' V S T p gb cap m g' ∧ Only p gb w w' ∧ Stands (vxN V) mk g' t ∧ t.row = ta.row ++ tb.row ∧ (Hp (fun z => g z 5) ta → Hp (fun z => g z 5) tb → Hp (fun z => g z 5) t) ∧ (∀ y, y ∉ t.row → ∀ k, g' y k = g y k) ∧ ∀ y, g' y 5 = g y 5

end

end Go.Proofs.Ytllfmhpkenohmaa

/- Contract of List. Printed by wip/tools/trps.py. -/
namespace Go.Proofs.Ytllfmhpkenohmaa
open Go.RowKit

set_option maxRecDepth 100000

/-- What is still to come of the nodes that are open, and how many steps that takes. -/
def unw : List (Nat × Tp) → List Nat
  | [] => []
  | x :: s => x.1 :: (x.2.row ++ unw s)
def wgt : List (Nat × Tp) → Nat
  | [] => 0
  | x :: s => 1 + 2 * x.2.size + wgt s
theorem len_wgt : ∀ s : List (Nat × Tp), s.length ≤ wgt s
  | [] => Nat.le_refl _
  | x :: s => by have := len_wgt s; simp only [List.length_cons, wgt]; omega
def opn (s : List (Nat × Tp)) : List Nat := (s.map Prod.fst).reverse
theorem opn_cons (x : Nat × Tp) (s : List (Nat × Tp)) : opn (x :: s) = opn s ++ [x.1] := by simp [opn]
theorem opn_length (s : List (Nat × Tp)) : (opn s).length = s.length := by simp [opn]
/-- A slice cut behind. -/
theorem LI.cut {w : World} {a : Option Addr} {n cap y : Nat} {l : List Nat} (h : LI w (.slice a (n + 1) cap) (l ++ [y])) : LI w (.slice a n cap) l := by
  obtain ⟨a', cap', e, h1, h2, h3, h4⟩ := h
  injection e with e1 e2 e3
  subst e1 e3
  have hn : n = l.length := by simpa using e2
  subst hn
  refine ⟨a, cap, rfl, h1, by simp at h2; omega, h3, fun hc => ?_⟩
  obtain ⟨b, off, zs, rfl, hz, hs, hx⟩ := h4 hc
  exact ⟨b, off, zs, rfl, hz, hs, fun k x hk => hx k x (by rw [List.getElem?_append_left (List.getElem?_eq_some_iff.1 hk).1]; exact hk)⟩

/-- A number of a list, beside trees. -/
structure TL (W : World) (b bo io : Nat) (V S T : Int) (p y : Nat) : Prop where
  t : TB W b V S T p
  r : ∃ zs, Blk W bo 3 zs ∧ zs[io]? = some (.int .i64 (y : Int))
section
variable {V S T : Int} {g : Mg9} {w w' w0 : World} {p gb cap m : Nat}
theorem TL.only {b bo io y : Nat} (h : TL w b bo io V S T p y) (A : TM w V S T p gb cap m g) (ho : Only p gb w w') : TL w' b bo io V S T p y := by
  obtain ⟨t, zs, hz, hy⟩ := h
  exact ⟨t.only A ho, zs, hz.treap A ho (by decide) (by decide), hy⟩
theorem TL.drew {b bo io y : Nat} (h : TL w b bo io V S T p y) : TL w.drew b bo io V S T p y := ⟨h.t, h.r⟩
theorem tl_rule (b bo io : Nat) (V S T : Int) (p y : Nat) : ∀ W : World, TL W b bo io V S T p y → W.cell? ⟨b, 0, none⟩ = some (.int .i64 V) ∧ W.cell? ⟨b, 1, none⟩ = some (.int .i64 S) ∧ W.cell? ⟨b, 2, none⟩ = some (.int .i64 T) ∧ W.cell? ⟨b, 3, none⟩ = some (.iface 72 (pmV p)) ∧ W.cell? ⟨b, 4, none⟩ = some (.int .i64 1) ∧ W.cell? ⟨b, 5, none⟩ = some (.int .i64 0) ∧ W.cell? ⟨bo, io, none⟩ = some (.int .i64 (y : Int)) := fun W h => by
  obtain ⟨y0, y1, y2, y3, y4, y5⟩ := h.t.cells
  obtain ⟨_, zs, hz, hy⟩ := h
  exact ⟨y0, y1, y2, y3, y4, y5, (hz.cell _).trans hy⟩

/-- What is open is right. -/
def StOk (V S : Int) (g : Mg9) (mk : Nat → Nat) (s : List (Nat × Tp)) : Prop := ∀ x ∈ s, g x.1 4 = x.2.root ∧ Loose (vxN V) mk g x.2 ∧ x.1 ≤ nN V S ∧ ∀ y ∈ x.2.row, y ≠ 0 ∧ y ≤ nN V S
def LtRel (w0 : World) (b : Nat) (V S T : Int) (p gb cap m : Nat) (g : Mg9) (mk : Nat → Nat) (R : List Nat) (k vr vo i : Value) (W : World) : Prop :=
  ∃ j done t s, j ≤ 2 * nN V S ∧ k = .int .i64 ((j : Nat) : Int) ∧ i = .int .i64 ((t.root : Nat) : Int) ∧ LI W vr done ∧ LI W vo (opn s) ∧ Loose (vxN V) mk g t ∧ (∀ y ∈ t.row, y ≠ 0 ∧ y ≤ nN V S) ∧ StOk V S g mk s ∧ R = done ++ (t.row ++ unw s) ∧ 2 * t.size + wgt s + j ≤ 2 * nN V S ∧
    (∀ q, bk vr = some q → w0.heap.size ≤ q) ∧ (∀ q, bk vo = some q → w0.heap.size ≤ q) ∧ (∀ q, bk vr = some q → bk vo ≠ some q) ∧ TB W b V S T p ∧ TM W V S T p gb cap (m + j) g ∧ Only p gb w0 W

theorem LI.grownBy_ {v : Value} {l : List Nat} {r : Option Nat} (h : LI w v l) (hg : w.grownBy w' r) (hne : ∀ q, bk v = some q → r ≠ some q) : LI w' v l := h.keep fun b hb => hg.block b (h.lt b hb) fun e => hne b hb e.symm

end

end Go.Proofs.Ytllfmhpkenohmaa

/- The reference: contracts of above and Root. Printed by wip/tools/trpt.py. -/
namespace Go.Proofs.Ytllfmhpkenohmaa
open Go.RowKit

set_option maxRecDepth 100000

/-- Rows of numbers in memory, by their place: priorities, marks, vertices. -/
def AP (W : World) (b n : Nat) (pri : Nat → Nat) : Prop := ∃ zs, Blk W b 51 zs ∧ ∀ k, k ≤ n → zs[k]? = some (.int .u64 (pri k : Int))
def AM (W : World) (b n : Nat) (mk : Nat → Nat) : Prop := ∃ zs, Blk W b 3 zs ∧ zs.size = n + 1 ∧ ∀ k, k ≤ n → zs[k]? = some (.int .i64 (mk k : Int))
def AV (W : World) (b n : Nat) (vx : Nat → Bool) : Prop := ∃ zs, Blk W b 4 zs ∧ ∀ k, k ≤ n → zs[k]? = some (.bool (vx k))
section
variable {w w' W : World} {b n : Nat} {pri mk : Nat → Nat} {vx : Nat → Bool}
theorem AP.cell (h : AP W b n pri) {k : Nat} (hk : k ≤ n) : W.cell? ⟨b, k, none⟩ = some (.int .u64 (pri k : Int)) := by obtain ⟨zs, hz, he⟩ := h; exact (hz.cell k).trans (he k hk)
theorem AM.cell (h : AM W b n mk) {k : Nat} (hk : k ≤ n) : W.cell? ⟨b, k, none⟩ = some (.int .i64 (mk k : Int)) := by obtain ⟨zs, hz, _, he⟩ := h; exact (hz.cell k).trans (he k hk)
theorem AV.cell (h : AV W b n vx) {k : Nat} (hk : k ≤ n) : W.cell? ⟨b, k, none⟩ = some (.bool (vx k)) := by obtain ⟨zs, hz, he⟩ := h; exact (hz.cell k).trans (he k hk)
theorem AP.lt (h : AP W b n pri) : b < W.heap.size := by obtain ⟨zs, hz, _⟩ := h; exact hz.lt
theorem AM.lt (h : AM W b n mk) : b < W.heap.size := by obtain ⟨zs, hz, _⟩ := h; exact hz.lt
theorem AV.lt (h : AV W b n vx) : b < W.heap.size := by obtain ⟨zs, hz, _⟩ := h; exact hz.lt
theorem AP.keep (h : AP w b n pri) (e : w'.heap[b]? = w.heap[b]?) : AP w' b n pri := by obtain ⟨zs, hz, he⟩ := h; exact ⟨zs, e.trans hz, he⟩
theorem AM.keep (h : AM w b n mk) (e : w'.heap[b]? = w.heap[b]?) : AM w' b n mk := by obtain ⟨zs, hz, he⟩ := h; exact ⟨zs, e.trans hz, he⟩
theorem AV.keep (h : AV w b n vx) (e : w'.heap[b]? = w.heap[b]?) : AV w' b n vx := by obtain ⟨zs, hz, he⟩ := h; exact ⟨zs, e.trans hz, he⟩
theorem AP.below (h : AP w b n pri) (hb : Below w.heap.size w w') : AP w' b n pri := h.keep (hb.block b h.lt)
theorem AM.below (h : AM w b n mk) (hb : Below w.heap.size w w') : AM w' b n mk := h.keep (hb.block b h.lt)
theorem AV.below (h : AV w b n vx) (hb : Below w.heap.size w w') : AV w' b n vx := h.keep (hb.block b h.lt)
theorem AP.drew (h : AP w b n pri) : AP w.drew b n pri := h
theorem AP.alloc (h : AP w b n pri) (o : Obj) : AP (w.alloc o) b n pri := h.below ((Below.refl _ _).alloc (Nat.le_refl _) o)

theorem below_drewN {B : Nat} {a : World} (h : Below B a w) (k : Nat) : Below B a (w.drewN k) := ⟨h.os, h.tape, h.output, h.size, h.block⟩
end

end Go.Proofs.Ytllfmhpkenohmaa

/- The reference: contract of Root. Printed by wip/tools/trpu.py. -/
namespace Go.Proofs.Ytllfmhpkenohmaa
open Go.RowKit

set_option maxRecDepth 100000

/-- A forest's value; its variable. -/
abbrev vF (vr : Value) (pb n cp : Nat) (vm vv : Value) : Value := .agg #[vr, .slice (some ⟨pb, 0, none⟩) (n + 1) cp, vm, vv]
section
variable {w w' W : World} {b pb n cp : Nat} {vr vm vv : Value} {pri : Nat → Nat}
/-- A row's two numbers. -/
theorem LI.two {v : Value} {l : List Nat} (h : LI w v l) {i j : Nat} (hi : i < l.length) (hj : j < l.length) : ∃ rb off cap, v = .slice (some ⟨rb, off, none⟩) l.length cap ∧ l.length ≤ cap ∧ rb < w.heap.size ∧ ∃ zs, Blk w rb 3 zs ∧ zs[off + i]? = some (.int .i64 ((l[i]?.getD 0 : Nat) : Int)) ∧ zs[off + j]? = some (.int .i64 ((l[j]?.getD 0 : Nat) : Int)) := by
  obtain ⟨a, cap, rfl, h1, h2, h3, h4⟩ := h
  obtain ⟨b, off, zs, rfl, hz, hs, hx⟩ := h4 (by omega)
  exact ⟨b, off, cap, rfl, h2, hz.lt, zs, hz, hx i _ (by rw [List.getElem?_eq_getElem hi]; rfl), hx j _ (by rw [List.getElem?_eq_getElem hj]; rfl)⟩

/-- The place of the highest node of a row, as it is sought. -/
def TopRel (d len i a : Nat) : Prop := a < len ∧ i ≤ len ∧ ((i ≤ d ∧ a ≤ i) ∨ (d < i ∧ a = d))
theorem top_next {l r : Tp} {x d len i a : Nat} (hp : Hp pri (.node l x r)) (hd : l.row.length = d) (hl : (Tp.node l x r).row.length = len) (h : TopRel d len i a) (hi : i < len) :
    TopRel d len (i + 1) (if ab pri ((Tp.node l x r).row[i]?.getD 0) ((Tp.node l x r).row[a]?.getD 0) then i else a) := by
  obtain ⟨h1, h2, h3⟩ := h
  have hx : (Tp.node l x r).row[d]?.getD 0 = x := by rw [Tp.row_node, ← hd]; simp
  have hab : ∀ k, k < len → k ≠ d → ab pri x ((Tp.node l x r).row[k]?.getD 0) = true := fun k hk hne => by
    have hk' : k < (Tp.node l x r).row.length := by omega
    rw [List.getElem?_eq_getElem hk']
    simp only [Option.getD_some]
    have hm := List.getElem_mem hk'
    have hk2 := hk'
    rw [Tp.row_node] at hk2
    have hcases : k < d ∨ d < k := by omega
    rcases hcases with hc | hc
    · have : (Tp.node l x r).row[k]'hk' = l.row[k]'(by omega) := by simp only [Tp.row_node]; rw [List.getElem_append_left]
      rw [this]; exact hp.1 _ (List.getElem_mem _)
    · have : (Tp.node l x r).row[k]'hk' = r.row[k - d - 1]'(by simp at hk2; omega) := by
        simp only [Tp.row_node]
        rw [List.getElem_append_right (by omega)]
        rw [List.getElem_cons]
        rw [dif_neg (by omega)]
        congr 1
        omega
      rw [this]; exact hp.2.1 _ (List.getElem_mem _)
  refine ⟨by split <;> omega, by omega, ?_⟩
  rcases h3 with ⟨h3, h4⟩ | ⟨h3, h4⟩
  · by_cases hid : i = d
    · right
      refine ⟨by omega, ?_⟩
      subst hid
      by_cases ha : a = i
      · subst ha; split <;> rfl
      · rw [if_pos (by rw [hx]; exact hab a h1 ha)]
    · left
      exact ⟨by omega, by split <;> omega⟩
  · right
    refine ⟨by omega, ?_⟩
    subst h4
    rw [if_neg]
    rw [hx, ab_asymm (hab i hi (by omega))]
    decide

end

end Go.Proofs.Ytllfmhpkenohmaa

/- The reference: contract of tree. Printed by wip/tools/trpv.py. -/
namespace Go.Proofs.Ytllfmhpkenohmaa
open Go.RowKit

set_option maxRecDepth 100000

theorem or_i64 {a b : Nat} (ha : a < 4) (hb : b < 4) : bits .or .i64 (a : Int) (b : Int) = ((a ||| b : Nat) : Int) := by
  have key : ∀ a < 4, ∀ b < 4, bits .or .i64 ((a : Nat) : Int) ((b : Nat) : Int) = ((a ||| b : Nat) : Int) := by decide
  exact key a ha b hb

/-- What nodes must have: parent, left, right, size, vertices, marks, all. -/
abbrev Rec7 := Nat → Nat → Nat
def row7 (a b c d e f g : Nat) : Nat → Nat
  | 0 => a
  | 1 => b
  | 2 => c
  | 3 => d
  | 4 => e
  | 5 => f
  | _ => g
def recT (vx : Nat → Bool) (mk : Nat → Nat) : Nat → Tp → Rec7 → Rec7
  | _, .nil, rc => rc
  | par, .node l x r, rc => fun y => if y = x then row7 par l.root r.root (Tp.node l x r).row.length (cntV vx (Tp.node l x r).row) (mk x) (allM mk (Tp.node l x r).row) else recT vx mk x r (recT vx mk x l rc) y
section
variable {w w' W : World} {b pb n cp mb cm vb cv ob nb : Nat} {vr vm vv : Value} {pri mk : Nat → Nat} {vx : Nat → Bool} {rc : Rec7}
/-- A forest in memory: what doesn't turn. -/
structure FS (W : World) (pb mb vb n : Nat) (pri mk : Nat → Nat) (vx : Nat → Bool) : Prop where
  p : AP W pb n pri
  m : AM W mb n mk
  v : AV W vb n vx
theorem FS.below (h : FS w pb mb vb n pri mk vx) (hb : Below w.heap.size w w') : FS w' pb mb vb n pri mk vx := ⟨h.p.below hb, h.m.below hb, h.v.below hb⟩
theorem FS.drew (h : FS w pb mb vb n pri mk vx) : FS w.drew pb mb vb n pri mk vx := h.below (Below.refl _ _).drew

/-- A slice cut behind at a place. -/
theorem LI.cutTo {w : World} {a : Option Addr} {n cap k : Nat} {l : List Nat} (h : LI w (.slice a n cap) l) (hk : k ≤ n) : LI w (.slice a k cap) (l.take k) := by
  obtain ⟨a', cap', e, h1, h2, h3, h4⟩ := h
  injection e with e1 e2 e3
  subst e1 e3
  have hlen : (l.take k).length = k := by rw [List.length_take]; omega
  refine ⟨a, cap, by rw [hlen], h1, by rw [hlen]; omega, h3, fun hc => ?_⟩
  obtain ⟨b, off, zs, rfl, hz, hs, hx⟩ := h4 hc
  exact ⟨b, off, zs, rfl, hz, hs, fun i y hi => hx i y (by rw [List.getElem?_take] at hi; split at hi; exact hi; cases hi)⟩

/-- A slice cut ahead at a place. -/
theorem LI.cutFrom {w : World} {b off n cap k : Nat} {l : List Nat} (h : LI w (.slice (some ⟨b, off, none⟩) n cap) l) (hk : k ≤ n) : LI w (.slice (if cap = k then some ⟨b, off, none⟩ else some ⟨b, off + k, none⟩) (n - k) (cap - k)) (l.drop k) := by
  obtain ⟨a', cap', e, h1, h2, h3, h4⟩ := h
  injection e with e1 e2 e3
  subst e1 e3
  have hlen : (l.drop k).length = n - k := by rw [List.length_drop]; omega
  refine ⟨if cap = k then some ⟨b, off, none⟩ else some ⟨b, off + k, none⟩, cap - k, by rw [hlen], by omega, by rw [hlen]; omega, (by intro e; split at e <;> cases e), fun hc => ?_⟩
  obtain ⟨b', off', zs, e, hz, hs, hx⟩ := h4 (by omega)
  cases e
  rw [if_neg (by omega)]
  refine ⟨b, off + k, zs, rfl, hz, by omega, fun i y hi => ?_⟩
  rw [List.getElem?_drop] at hi
  rw [show off + k + i = off + (k + i) by omega]
  exact hx _ _ hi

end

end Go.Proofs.Ytllfmhpkenohmaa

/- Rows of rows in memory; the reference: contracts of Sum and Nodes. Printed by wip/tools/trpw.py. -/
namespace Go.Proofs.Ytllfmhpkenohmaa
open Go.RowKit

set_option maxRecDepth 100000

theorem info_li : (Try.prog.info? 60).map (fun i => (i.zero, i.size, i.bytes)) = some (some (.slice none 0 0), 1, 24) := by kernel_rfl
/-- A row of slices, grown by the call. -/
def RowV (w : World) (base : Nat) (v : Value) (xs : List Value) : Prop := w.ownsRow base 60 1 v xs.length xs
section
variable {w w' : World} {base : Nat} {v : Value} {xs : List Value}
theorem RowV.nil (w : World) (base : Nat) : RowV w base (.slice none 0 0) [] := World.ownsRow_nil _ _ _ _
theorem RowV.kept_of (h : RowV w base v xs) (hb : ∀ i, v.ownBlock = some i → w'.heap[i]? = w.heap[i]?) : RowV w' base v xs := by
  refine ⟨h.1, ?_⟩
  rcases h.2 with hn | ⟨g, cap, cur, rfl, hg, hgg, rest⟩
  · exact .inl hn
  · exact .inr ⟨g, cap, cur, rfl, hg, (hb g rfl).trans hgg, rest⟩
theorem RowV.lt (h : RowV w base v xs) : ∀ k, v.ownBlock = some k → base ≤ k ∧ k < w.heap.size := World.ownsRow.lt h
theorem RowV.alloc (h : RowV w base v xs) (o : Obj) : RowV (w.alloc o) base v xs := World.ownsRow.alloc h o
theorem RowV.drew (h : RowV w base v xs) : RowV w.drew base v xs := h
theorem RowV.mono {base' : Nat} (h : RowV w base v xs) (hb : base' ≤ base) : RowV w base' v xs := by
  refine ⟨h.1, ?_⟩
  rcases h.2 with hn | ⟨g, cap, cur, rfl, hg, rest⟩
  · exact .inl hn
  · exact .inr ⟨g, cap, cur, rfl, Nat.le_trans hb hg, rest⟩
theorem RowV.below (h : RowV w base v xs) (hb : Below w.heap.size w w') : RowV w' base v xs := h.kept_of fun i hi => hb.block i (h.lt i hi).2
theorem RowV.shape (h : RowV w base v xs) : (v = .slice none 0 0 ∧ xs = []) ∨ ∃ g cap cs, v = .slice (some ⟨g, 0, none⟩) xs.length cap ∧ base ≤ g ∧ Blk w g 60 cs ∧ xs.length ≤ cap ∧ cap ≤ maxLen ∧ ∀ (k : Nat) (x : Value), xs[k]? = some x → cs[k]? = some x := by
  rcases h.2 with ⟨rfl, h0⟩ | ⟨g, cap, cur, rfl, hg, hgg, h1, h2, h3, h4⟩
  · exact .inl ⟨rfl, List.eq_nil_of_length_eq_zero h0⟩
  · refine .inr ⟨g, cap, cur, rfl, hg, hgg, h1, h2, fun k x hx => ?_⟩
    have hk := (List.getElem?_eq_some_iff.1 hx).1
    have he : cur[k]? = xs[k]? := by
      have e : cur.toList.take xs.length = xs := by simpa using h4
      have e2 := congrArg (fun l : List Value => l[k]?) e
      simp only [List.getElem?_take_of_lt hk, Array.getElem?_toList] at e2
      exact e2
    rw [he]; exact hx
theorem RowV.slice (h : RowV w base v xs) : ∃ a cap, v = .slice a xs.length cap := by
  rcases h.shape with ⟨rfl, rfl⟩ | ⟨g, cap, cs, rfl, _⟩
  · exact ⟨none, 0, rfl⟩
  · exact ⟨_, cap, rfl⟩
theorem RowV.ne_blk (h : RowV w base v xs) {i : Nat} {ty : TypeId} {cs : Array Value} (hi : Blk w i ty cs) (hty : 60 ≠ ty) : v.ownBlock ≠ some i := by
  intro e
  rcases h.shape with ⟨rfl, _⟩ | ⟨g, cap, zs, rfl, _, hz, _⟩
  · cases e
  · cases e; exact hz.ne_ hi hty rfl
theorem RowV.only {p g : Nat} (h : RowV w base v xs) (ho : Only p g w w') (h1 : v.ownBlock ≠ some p) (h2 : v.ownBlock ≠ some g) : RowV w' base v xs :=
  h.kept_of fun i hi => ho.block i (h.lt i hi).2 (fun e => h1 (e ▸ hi)) (fun e => h2 (e ▸ hi))
end

/-- Each row is in its slice, and none is where the marks are. -/
def RowsOk (W : World) (mb : Nat) (vs : List Value) (ts : List Tp) : Prop := vs.length = ts.length ∧ ∀ (i : Nat) (v : Value) (t : Tp), vs[i]? = some v → ts[i]? = some t → LI W v t.row ∧ bk v ≠ some mb
theorem RowsOk.keep {w w' : World} {mb : Nat} {vs : List Value} {ts : List Tp} (h : RowsOk w mb vs ts) (hk : ∀ v t, v ∈ vs → t ∈ ts → LI w v t.row → bk v ≠ some mb → LI w' v t.row) : RowsOk w' mb vs ts :=
  ⟨h.1, fun i v t h1 h2 => ⟨hk v t (List.mem_of_getElem? h1) (List.mem_of_getElem? h2) (h.2 i v t h1 h2).1 (h.2 i v t h1 h2).2, (h.2 i v t h1 h2).2⟩⟩
theorem RowsOk.below {w w' : World} {mb : Nat} {vs : List Value} {ts : List Tp} (h : RowsOk w mb vs ts) (hb : Below w.heap.size w w') : RowsOk w' mb vs ts := h.keep fun _ _ _ _ h1 _ => h1.below hb
theorem RowsOk.only {w w' : World} {mb p g : Nat} {vs : List Value} {ts : List Tp} {t1 t2 : TypeId} {c1 c2 : Array Value} (h : RowsOk w mb vs ts) (ho : Only p g w w') (h1 : Blk w p t1 c1) (h2 : Blk w g t2 c2) (n1 : 3 ≠ t1) (n2 : 3 ≠ t2) : RowsOk w' mb vs ts :=
  h.keep fun _ _ _ _ hl _ => hl.only ho (hl.ne_blk h1 n1) (hl.ne_blk h2 n2)

section
variable {w w' W : World}
/-- What all nodes must have. -/
def recF (vx : Nat → Bool) (mk : Nat → Nat) (ts : List Tp) (rc : Rec7) : Rec7 := ts.foldl (fun rc t => recT vx mk 0 t rc) rc
theorem recT_other {vx : Nat → Bool} {mk : Nat → Nat} : ∀ {t : Tp} {par : Nat} {rc : Rec7} {y : Nat}, y ∉ t.row → recT vx mk par t rc y = rc y
  | .nil, _, _, _, _ => rfl
  | .node l x r, par, rc, y, h => by
    rw [Tp.row_node, List.mem_append, not_or, List.mem_cons, not_or] at h
    simp only [recT]
    rw [if_neg h.2.1, recT_other h.2.2, recT_other h.1]
theorem recF_other {vx : Nat → Bool} {mk : Nat → Nat} : ∀ {ts : List Tp} {rc : Rec7} {y : Nat}, (∀ t ∈ ts, y ∉ t.row) → recF vx mk ts rc y = rc y
  | [], _, _, _ => rfl
  | t :: ts, rc, y, h => by
    show recF vx mk ts (recT vx mk 0 t rc) y = rc y
    rw [recF_other fun t' ht => h t' (List.mem_cons_of_mem _ ht), recT_other (h t (List.mem_cons_self ..))]
/-- What is told of a node is what its cells have. -/
def NodeIs (g : Mg9) (rc : Rec7) (y : Nat) : Prop := g y 2 = rc y 0 ∧ g y 3 = rc y 1 ∧ g y 4 = rc y 2 ∧ g y 6 = sumW (rc y 3) (rc y 4) (rc y 5) (rc y 6) ∧ rc y 3 ≤ 65535 ∧ rc y 4 ≤ 65535 ∧ rc y 5 ≤ 3 ∧ rc y 6 ≤ 3
theorem recT_is {vx : Nat → Bool} {mk : Nat → Nat} (hm : ∀ x, mk x < 4) {g : Mg9} : ∀ {t : Tp} {par : Nat} {rc : Rec7}, Loose vx mk g t → (t.root ≠ 0 → g t.root 2 = par) → t.row.Nodup → (∀ y ∈ t.row, y ≠ 0) → t.size < 65536 → ∀ y ∈ t.row, NodeIs g (recT vx mk par t rc) y
  | .nil, _, _, _, _, _, _, _, y, h => by simp [Tp.row] at h
  | .node l x r, par, rc, hl, hp, hn, h0, hz, y, h => by
    have hn' := hn
    rw [Tp.row_node, List.nodup_append] at hn
    obtain ⟨nl, nr, nd⟩ := hn
    rw [List.nodup_cons] at nr
    obtain ⟨a, b, c, d, e, hll, hlr⟩ := hl
    have hx0 : x ≠ 0 := h0 x (by simp [Tp.row])
    rw [Tp.size_node] at hz
    have key : ∀ rc', recT vx mk par (.node l x r) rc x = rc' → True := fun _ _ => trivial
    by_cases hyx : y = x
    · subst hyx
      have h1 : recT vx mk par (.node l y r) rc y = row7 par l.root r.root (Tp.node l y r).row.length (cntV vx (Tp.node l y r).row) (mk y) (allM mk (Tp.node l y r).row) := by simp only [recT, if_true]
      have hlen : (Tp.node l y r).row.length = l.size + 1 + r.size := Tp.size_node l y r
      have hcv := cntV_le vx (Tp.node l y r).row
      have hal := allM_lt hm (Tp.node l y r).row
      have hmy := hm y
      unfold NodeIs
      rw [h1]
      exact ⟨hp hx0, a, b, c, by show (Tp.node l y r).row.length ≤ 65535; omega, by show cntV vx (Tp.node l y r).row ≤ 65535; omega, by show mk y ≤ 3; omega, by show allM mk (Tp.node l y r).row ≤ 3; omega⟩
    · have e1 : recT vx mk par (.node l x r) rc y = recT vx mk x r (recT vx mk x l rc) y := by simp only [recT]; rw [if_neg hyx]
      rw [Tp.row_node] at h
      rcases List.mem_append.1 h with h | h
      · have hyr : y ∉ r.row := fun h2 => nd y h y (by simp [h2]) rfl
        have := recT_is hm (rc := rc) hll (fun h => d h) nl (fun z hz => h0 z (by simp [Tp.row, hz])) (by omega) y h
        unfold NodeIs at this ⊢
        rw [e1, recT_other hyr]; exact this
      · rcases List.mem_cons.1 h with rfl | h
        · exact absurd rfl hyx
        · have := recT_is hm (rc := recT vx mk x l rc) hlr (fun h => e h) nr.2 (fun z hz => h0 z (by simp [Tp.row, hz])) (by omega) y h
          unfold NodeIs at this ⊢
          rw [e1]; exact this
theorem recF_is {vx : Nat → Bool} {mk : Nat → Nat} (hm : ∀ x, mk x < 4) {g : Mg9} : ∀ {ts : List Tp} {rc : Rec7}, (∀ t ∈ ts, Stands vx mk g t ∧ t.size < 65536 ∧ ∀ y ∈ t.row, y ≠ 0) → (ts.flatMap Tp.row).Nodup → ∀ t ∈ ts, ∀ y ∈ t.row, NodeIs g (recF vx mk ts rc) y
  | [], _, _, _, t, ht, _, _ => by simp at ht
  | t0 :: ts, rc, h, hn, t, ht, y, hy => by
    rw [List.flatMap_cons, List.nodup_append] at hn
    obtain ⟨n1, n2, n3⟩ := hn
    show NodeIs g (recF vx mk ts (recT vx mk 0 t0 rc)) y
    rcases List.mem_cons.1 ht with rfl | ht
    · have h1 := h t (List.mem_cons_self ..)
      have h2 := recT_is hm (rc := rc) h1.1.1 h1.1.2 n1 h1.2.2 h1.2.1 y hy
      have h3 : recF vx mk ts (recT vx mk 0 t rc) y = recT vx mk 0 t rc y := recF_other fun t' ht' hy' => n3 y hy y (List.mem_flatMap.2 ⟨t', ht', hy'⟩) rfl
      unfold NodeIs at h2 ⊢
      rw [h3]; exact h2
    · exact recF_is hm (fun t' ht' => h t' (List.mem_cons_of_mem _ ht')) n2 t ht y hy
end

end Go.Proofs.Ytllfmhpkenohmaa

/- The reference: contract of Nodes. Printed by wip/tools/trpx.py. -/
namespace Go.Proofs.Ytllfmhpkenohmaa
open Go.RowKit

set_option maxRecDepth 100000

abbrev zeroN : Value := .agg #[.int .i64 0, .int .i64 0, .int .i64 0, .int .i64 0, .int .i64 0, .int .i64 0, .int .i64 0]
theorem made_zero (n k : Nat) (hk : k < n) : (madeCells zeroN.cells n)[k]? = some (.int .i64 0) := by
  unfold madeCells
  simp only [Array.getElem?_map, Array.getElem?_range, if_pos hk, Option.map_some]
  have h7 : ∀ j, j < 7 → (zeroN.cells)[j]! = .int .i64 0 := by
    intro j hj
    have : j = 0 ∨ j = 1 ∨ j = 2 ∨ j = 3 ∨ j = 4 ∨ j = 5 ∨ j = 6 := by omega
    rcases this with rfl | rfl | rfl | rfl | rfl | rfl | rfl <;> rfl
  rw [show zeroN.cells.size = 7 from rfl]
  rw [h7 _ (Nat.mod_lt _ (by omega))]
section
variable {w w' W w0 : World} {b pb n cp mb cm vb cv ob rg k base : Nat} {vr vm vv u : Value} {pri mk : Nat → Nat} {vx : Nat → Bool} {rc : Rec7}
end

end Go.Proofs.Ytllfmhpkenohmaa

/- The law's play in memory; contracts of row and without. Printed by wip/tools/trpy.py. -/
namespace Go.Proofs.Ytllfmhpkenohmaa
open Go.RowKit

set_option maxRecDepth 100000

/-- Where a play lies. -/
structure PK9 where
  V : Int
  S : Int
  T : Int
  q : Nat
  p : Nat
  gb : Nat
  cap : Nat
  pb : Nat
  mb : Nat
  vb : Nat
  cp : Nat
  cm : Nat
  cv : Nat
  base : Nat
abbrev PK9.n (K : PK9) : Nat := nN K.V K.S
/-- Which of all numbers are vertices' (none is no vertex). -/
def vx0 (V : Int) (x : Nat) : Bool := decide (x ≠ 0) && vxN V x
theorem vx0_eq {V : Int} {x : Nat} (h : x ≠ 0) : vx0 V x = vxN V x := by unfold vx0; rw [decide_eq_true h]; rfl
theorem cntV_vx {vx vx' : Nat → Bool} : ∀ {l : List Nat}, (∀ x ∈ l, vx' x = vx x) → cntV vx' l = cntV vx l
  | [], _ => rfl
  | x :: l, h => by rw [cntV_cons, cntV_cons, h x (by simp), cntV_vx fun y hy => h y (by simp [hy])]
theorem Loose.vx {vx vx' : Nat → Bool} {mk : Nat → Nat} {g : Mg9} : ∀ {t : Tp}, Loose vx mk g t → (∀ x ∈ t.row, vx' x = vx x) → Loose vx' mk g t
  | .nil, _, _ => trivial
  | .node l x r, h, h1 => by
    obtain ⟨a, b, c, d, e, hl, hr⟩ := h
    exact ⟨a, b, by rw [c, sumT_node, sumT_node, cntV_vx h1], d, e, Loose.vx hl fun y hy => h1 y (by simp [Tp.row, hy]), Loose.vx hr fun y hy => h1 y (by simp [Tp.row, hy])⟩
/-- .. and what is right of it. -/
structure FI (V S : Int) (g : Mg9) (mk : Nat → Nat) (ts : List Tp) : Prop where
  hm : ∀ x, mk x < 4
  st : ∀ t ∈ ts, Stands (vxN V) mk g t ∧ Hp (fun z => g z 5) t ∧ t ≠ .nil
  nd : (ts.flatMap Tp.row).Nodup
  al : ∀ x, (x ≠ 0 ∧ x ≤ nN V S) ↔ ∃ t ∈ ts, x ∈ t.row

section
variable {w w' W : World} {K : PK9} {m m' : Nat} {g g' : Mg9} {mk : Nat → Nat} {ts : List Tp} {vr : Value} {vs : List Value}
theorem flat_len {V S : Int} (h : FI V S g mk ts) : (ts.flatMap Tp.row).length ≤ nN V S := by
  have h1 : (ts.flatMap Tp.row) ⊆ List.range' 1 (nN V S) := fun x hx => by
    obtain ⟨t, ht, hx⟩ := List.mem_flatMap.1 hx
    have := (h.al x).2 ⟨t, ht, hx⟩
    exact List.mem_range'.2 ⟨x - 1, by omega, by omega⟩
  have := h.nd.length_le_of_subset h1
  simpa using this
theorem FI.size {V S : Int} (h : FI V S g mk ts) {t : Tp} (ht : t ∈ ts) : t.size ≤ nN V S := by
  refine Nat.le_trans ?_ (flat_len h)
  obtain ⟨a, b, rfl⟩ := List.append_of_mem ht
  rw [List.flatMap_append, List.flatMap_cons]
  simp [Tp.size]; omega
theorem FI.len {V S : Int} (h : FI V S g mk ts) : ts.length ≤ nN V S := by
  refine Nat.le_trans ?_ (flat_len h)
  have h2 : ∀ l : List Tp, (∀ t ∈ l, t ≠ .nil) → l.length ≤ (l.flatMap Tp.row).length := by
    intro l
    induction l with
    | nil => simp
    | cons t l ih =>
      intro hl
      have := ih fun t' ht => hl t' (List.mem_cons_of_mem _ ht)
      rw [List.flatMap_cons, List.length_append, List.length_cons]
      have h0 : t.row ≠ [] := fun e => hl t (List.mem_cons_self ..) (Tp.row_eq_nil e)
      have := List.length_pos_iff.2 h0
      omega
  exact h2 ts fun t ht => (h.st t ht).2.2
theorem FI.nodes {V S : Int} (h : FI V S g mk ts) {t : Tp} (ht : t ∈ ts) : ∀ y ∈ t.row, y ≠ 0 ∧ y ≤ nN V S := fun y hy => (h.al y).2 ⟨t, ht, hy⟩
theorem FI.one {V S : Int} (h : FI V S g mk ts) {t : Tp} (ht : t ∈ ts) : t.row.Nodup := by
  have := h.nd
  obtain ⟨a, b, rfl⟩ := List.append_of_mem ht
  rw [List.flatMap_append, List.flatMap_cons, List.nodup_append, List.nodup_append] at this
  exact this.2.1.1

/-- A row by a remainder. -/
def rowF (k : Int) (n : Nat) : Int := if k < 0 ∨ n = 0 then -1 else k % n
/-- A list without two places. -/
def wo {α : Type} (i k : Nat) : Nat → List α → List α
  | _, [] => []
  | j, x :: l => if j ≠ i ∧ j ≠ k then x :: wo i k (j + 1) l else wo i k (j + 1) l
theorem wo_snoc {α : Type} (i k : Nat) : ∀ (j : Nat) (l : List α) (x : α), wo i k j (l ++ [x]) = wo i k j l ++ (if j + l.length ≠ i ∧ j + l.length ≠ k then [x] else [])
  | j, [], x => by simp only [List.nil_append, wo, List.length_nil, Nat.add_zero]
  | j, y :: l, x => by
    have ih := wo_snoc i k (j + 1) l x
    simp only [List.cons_append, wo, List.length_cons]
    rw [ih, show j + 1 + l.length = j + (l.length + 1) by omega]
    split <;> simp
theorem wo_take {α : Type} (i k : Nat) {l : List α} {j : Nat} {x : α} (h : l[j]? = some x) : wo i k 0 (l.take (j + 1)) = wo i k 0 (l.take j) ++ (if j ≠ i ∧ j ≠ k then [x] else []) := by
  have hl := (List.getElem?_eq_some_iff.1 h).1
  rw [List.take_add_one, h]
  simp only [Option.toList_some]
  rw [wo_snoc, List.length_take, Nat.zero_add, Nat.min_eq_left (by omega)]
theorem wo_len {α β : Type} (i k : Nat) : ∀ (j : Nat) (l : List α) (l' : List β), l.length = l'.length → (wo i k j l).length = (wo i k j l').length
  | _, [], [], _ => rfl
  | _, [], _ :: _, h => by simp at h
  | _, _ :: _, [], h => by simp at h
  | j, x :: l, y :: l', h => by
    have := wo_len i k (j + 1) l l' (by simpa using h)
    simp only [wo]; split <;> simp [this]
theorem wo_two {α β : Type} (i k : Nat) : ∀ (j : Nat) (l : List α) (l' : List β), l.length = l'.length → ∀ (a : Nat) (x : α) (y : β), (wo i k j l)[a]? = some x → (wo i k j l')[a]? = some y → ∃ b, l[b]? = some x ∧ l'[b]? = some y ∧ j + b ≠ i ∧ j + b ≠ k
  | _, [], [], _, a, x, y, h1, _ => by simp [wo] at h1
  | _, [], _ :: _, h, _, _, _, _, _ => by simp at h
  | _, _ :: _, [], h, _, _, _, _, _ => by simp at h
  | j, u :: l, v :: l', h, a, x, y, h1, h2 => by
    simp only [wo] at h1 h2
    split at h1
    · rename_i hc
      rw [if_pos hc] at h2
      cases a with
      | zero => simp at h1 h2; exact ⟨0, by simp [h1], by simp [h2], hc.1, hc.2⟩
      | succ a =>
        obtain ⟨b, e1, e2, e3, e4⟩ := wo_two i k (j + 1) l l' (by simpa using h) a x y (by simpa using h1) (by simpa using h2)
        exact ⟨b + 1, by simpa using e1, by simpa using e2, by omega, by omega⟩
    · rename_i hc
      rw [if_neg hc] at h2
      obtain ⟨b, e1, e2, e3, e4⟩ := wo_two i k (j + 1) l l' (by simpa using h) a x y h1 h2
      exact ⟨b + 1, by simpa using e1, by simpa using e2, by omega, by omega⟩
theorem RowsOk.wo {mb : Nat} (h : RowsOk w mb vs ts) (i k : Nat) : RowsOk w mb (wo i k 0 vs) (wo i k 0 ts) :=
  ⟨wo_len i k 0 vs ts h.1, fun a v t h1 h2 => by obtain ⟨b, e1, e2, _⟩ := wo_two i k 0 vs ts h.1 a v t h1 h2; exact h.2 b v t e1 e2⟩
end

end Go.Proofs.Ytllfmhpkenohmaa

/- The law's play: contracts of without and parent. Printed by wip/tools/trpz.py. -/
namespace Go.Proofs.Ytllfmhpkenohmaa
open Go.RowKit

set_option maxRecDepth 100000

section
variable {w w' W w0 : World} {K : PK9} {m m' : Nat} {g g' : Mg9} {mk : Nat → Nat} {ts : List Tp} {vr : Value} {vs : List Value}
def WoRel (w0 : World) (vs : List Value) (i k : Nat) (v j : Value) (W : World) : Prop :=
  ∃ n, n ≤ vs.length ∧ j = .int .i64 ((n : Nat) : Int) ∧ RowV W w0.heap.size v (wo i k 0 (vs.take n)) ∧ Below w0.heap.size w0 W

end

end Go.Proofs.Ytllfmhpkenohmaa
