/- ZE: what LfPSmaller leans on. Printed by wip/tools/slim13.py. -/
import Derived.Test.YtdafnejphlcgdaaGreatSaZD
import Derived.Laws.MakeOwn

/- Contract of Split. Printed by wip/tools/trpq.py. -/
namespace Go.Proofs.YtdafnejphlcgdaaGreat
open Go.RowKit Go.Shelf

attribute [local go_sem] Oper.semAt_some
set_option maxRecDepth 100000

/-- The last k steps of a way. -/
def fsB (L : List Fr) (k : Nat) : List Fr := L.drop (L.length - k)
theorem fsB_zero (L : List Fr) : fsB L 0 = [] := by simp [fsB]
theorem fsB_all (L : List Fr) : fsB L L.length = L := by simp [fsB]
theorem fsB_succ {L : List Fr} {k : Nat} (h : k < L.length) : fsB L (k + 1) = (bkF L k).2 :: fsB L k := by
  have hj : L.length - 1 - k < L.length := by omega
  unfold fsB bkF
  rw [show L.length - (k + 1) = L.length - 1 - k by omega, List.drop_eq_getElem_cons hj, List.getElem?_eq_getElem hj, show L.length - 1 - k + 1 = L.length - k by omega]
  rfl
theorem bkF_ok {L : List Fr} {n : Nat} (hn : 1 ≤ n) (h : ∀ f ∈ L, 1 ≤ f.x ∧ f.x ≤ n) (k : Nat) : 1 ≤ (bkF L k).2.x ∧ (bkF L k).2.x ≤ n := by
  unfold bkF
  cases e : L[L.length - 1 - k]? with
  | none => exact ⟨Nat.le_refl _, hn⟩
  | some f => exact h f (List.mem_of_getElem? e)
theorem bkF_mem {L : List Fr} {k : Nat} (h : k < L.length) : (bkF L k).2 ∈ L := by
  have hj : L.length - 1 - k < L.length := by omega
  unfold bkF; rw [List.getElem?_eq_getElem hj]; exact List.getElem_mem hj

section
variable {V S T : Int} {g : Mg9} {w w' w0 W W' : World} {p gb cap m : Nat} {row : Option Nat}
theorem Blk.own {i : Nat} {ty : TypeId} {cs : Array Value} (h : Blk W i ty cs) (hg : W.grownBy W' row) (hr : ∀ r, row = some r → ∃ o : Obj, W.heap[r]? = some o ∧ o.isCells = false) : Blk W' i ty cs :=
  h.grown hg fun e => by obtain ⟨o, h1, h2⟩ := hr _ e; rw [show W.heap[i]? = _ from h] at h1; cases h1; cases h2
theorem TM.own_ (h : TM W V S T p gb cap m g) (hg : W.grownBy W' row) (hr : ∀ r, row = some r → ∃ o : Obj, W.heap[r]? = some o ∧ o.isCells = false) : TM W' V S T p gb cap m g := by
  obtain ⟨⟨_, h3⟩, ⟨_, h4⟩⟩ := h.blk
  refine h.grown hg (fun e => ?_) fun e => ?_
  · obtain ⟨o, h1, h2⟩ := hr _ e; rw [show W.heap[p]? = _ from h3] at h1; cases h1; cases h2
  · obtain ⟨o, h1, h2⟩ := hr _ e; rw [show W.heap[gb]? = _ from h4] at h1; cases h1; cases h2
theorem Boxed.blk {i : Nat} {ty : TypeId} {v : Value} (h : Boxed W i ty v) : Blk W i ty #[v] := h
/-- What a call on trees leaves keeps what is no cells. -/
theorem keepsFrom_only {B : Nat} (A : TM W V S T p gb cap m g) (ho : Only p gb W W') : KeepsFrom B W W' := by
  obtain ⟨⟨_, h3⟩, ⟨_, h4⟩⟩ := A.blk
  refine ⟨ho.size, fun k o hk h0 hc => (ho.block k ?_ (fun e => ?_) fun e => ?_).trans h0⟩
  · exact (Array.getElem?_eq_some_iff.1 h0).1
  · subst e; rw [show W.heap[k]? = _ from h3] at h0; cases h0; cases hc
  · subst e; rw [show W.heap[k]? = _ from h4] at h0; cases h0; cases hc
/-- Between two rounds of Split. -/
def SpI (w0 : World) (b Bs : Nat) (V S T : Int) (p gb cap m : Nat) (g : Mg9) (mk : Nat → Nat) (L : List Fr) (pre : List Nat) (W : World) : Prop :=
  ∃ g1 a c, Bs < W.heap.size ∧ Boxed W (b + 1) 3 (.int .i64 ((a : Nat) : Int)) ∧ Boxed W (b + 1 + 1) 3 (.int .i64 ((c : Nat) : Int)) ∧ a ≤ nN V S ∧ c ≤ nN V S ∧ TB W b V S T p ∧ TM W V S T p gb cap (m + 9 * pre.length) g1 ∧ Only p gb w0 W ∧
    (pre = List.range pre.length → pre.length ≤ L.length → SStep (vxN V) mk g g1 (plug (fsB L pre.length) .nil) (splitZ (fsB L pre.length)).1 (splitZ (fsB L pre.length)).2 ∧ a = (splitZ (fsB L pre.length)).1.root ∧ c = (splitZ (fsB L pre.length)).2.root)
theorem SpI.own {b Bs : Nat} {mk : Nat → Nat} {L : List Fr} {B : Nat} (hB : w0.heap.size ≤ B) : OwnFrom B (SpI w0 b Bs V S T p gb cap m g mk L) := fun s W W' row hs hg hr => by
  obtain ⟨g1, a, c, h0, h1, h2, h3, h4, h5, h6, h7, h8⟩ := hs
  have hr' := fun r e => (hr r e).2
  exact ⟨g1, a, c, Nat.lt_of_lt_of_le h0 hg.size, Blk.own h1 hg hr', Blk.own h2 hg hr', h3, h4, Blk.own h5 hg hr', h6.own_ hg hr', h7.grown hg fun i hi => by have := (hr i hi).1; omega, h8⟩

theorem OnlyKp {i j : Nat} (ho : Only p gb W W') (hi : i < W.heap.size) (hj : j < W.heap.size) (h1 : i ≠ p) (h2 : i ≠ gb) (h3 : j ≠ p) (h4 : j ≠ gb) : KpB i j W W' := ⟨ho.block i hi h1 h2, ho.block j hj h3 h4⟩
theorem KpB.set {i j q : Nat} (h : KpB i j W W') (h1 : i ≠ q) (h2 : j ≠ q) (u : Value) : KpB i j W (W'.setCell ⟨q, 0, none⟩ u) := ⟨(Below.heap_setCell W' ⟨q, 0, none⟩ u i h1).trans h.1, (Below.heap_setCell W' ⟨q, 0, none⟩ u j h2).trans h.2⟩

/-- A step of the way back, of a split. -/
theorem split_next {mk : Nat → Nat} (hm : ∀ x, mk x < 4) {t0 : Tp} {L : List Fr} {g1 : Mg9} {k : Nat} (hL : plug L .nil = t0) (hl : Loose (vxN V) mk g t0) (hz : t0.size < 65536) (hnd : t0.row.Nodup) (hn : ∀ y ∈ t0.row, y ≠ 0) (hk : k < L.length)
    (h : SStep (vxN V) mk g g1 (plug (fsB L k) .nil) (splitZ (fsB L k)).1 (splitZ (fsB L k)).2) :
    SStep (vxN V) mk g (hangG (vxN V) g1 (bkF L k).2.x (bkF L k).2.rt (if (bkF L k).2.rt then (splitZ (fsB L k)).1.root else (splitZ (fsB L k)).2.root)) (plug (fsB L (k + 1)) .nil) (splitZ (fsB L (k + 1))).1 (splitZ (fsB L (k + 1))).2 := by
  have hs : t0 = plug (L.take (L.length - (k + 1))) (plug (fsB L (k + 1)) .nil) := by rw [← plug_app]; unfold fsB; rw [List.take_append_drop, hL]
  have hfr := (plug_frames hm (fs := L) (t := .nil) (by rw [hL]; exact hl) (by rw [hL]; exact hz) (by rw [hL]; exact hn)).1 _ (bkF_mem hk)
  have h1 : (plug (fsB L (k + 1)) .nil).row.Nodup := by rw [hs] at hnd; exact plug_nodup hnd
  have h2 : ∀ y ∈ (plug (fsB L (k + 1)) .nil).row, y ≠ 0 := fun y hy => hn y (by rw [hs]; exact plug_mem hy)
  have h3 : (plug (fsB L (k + 1)) .nil).size < 65536 := by
    have := plug_size (L.take (L.length - (k + 1))) (plug (fsB L (k + 1)) .nil)
    rw [← hs] at this; omega
  rw [fsB_succ hk] at h1 h2 h3 ⊢
  exact h.next hm hfr h1 h2 h3
theorem split_start {mk : Nat → Nat} (L : List Fr) (hz : ∀ k, g 0 k = 0) : SStep (vxN V) mk g g (plug (fsB L 0) .nil) (splitZ (fsB L 0)).1 (splitZ (fsB L 0)).2 := by
  rw [fsB_zero]; exact ⟨trivial, trivial, hz, fun _ _ _ => rfl, fun _ => rfl⟩
/-- Both roots' parents are set to none. -/
theorem split_done {mk : Nat → Nat} {g1 : Mg9} {t a b : Tp} (h : SStep (vxN V) mk g g1 t a b) (ha : ∀ y ∈ a.row, y ∈ t.row) (hb : ∀ y ∈ b.row, y ∈ t.row) (hd : ∀ y ∈ a.row, y ∉ b.row) (na : a.row.Nodup) (nb : b.row.Nodup) :
    Stands (vxN V) mk (setP (setP g1 a.root 0) b.root 0) a ∧ Stands (vxN V) mk (setP (setP g1 a.root 0) b.root 0) b ∧ (∀ y, y ∉ t.row → ∀ k, setP (setP g1 a.root 0) b.root 0 y k = g y k) ∧ ∀ y, setP (setP g1 a.root 0) b.root 0 y 5 = g y 5 := by
  have ab_ : ∀ y ∈ a.row, y ≠ b.root ∨ b.root = 0 := fun y hy => by
    by_cases h0 : b.root = 0
    · exact .inr h0
    · exact .inl fun e => hd y hy (e ▸ Tp.root_mem h0)
  have other : ∀ y, (y ≠ a.root ∨ a.root = 0) → (y ≠ b.root ∨ b.root = 0) → ∀ k, setP (setP g1 a.root 0) b.root 0 y k = g1 y k := fun y h1 h2 k => by
    have e1 : setP g1 a.root 0 y k = g1 y k := by
      rcases h1 with h1 | h1
      · exact setP_other _ _ _ h1
      · unfold setP; rw [if_pos h1]
    rcases h2 with h2 | h2
    · rw [setP_other _ _ _ h2, e1]
    · unfold setP at e1 ⊢; rw [if_pos h2]; exact e1
  refine ⟨⟨h.la.congr (fun y _ => ⟨rfl, ?_, ?_, ?_⟩) na fun y hy hne => other y (.inl hne) (ab_ y hy) 2, fun h0 => ?_⟩, ⟨h.lb.congr (fun y _ => ⟨rfl, ?_, ?_, ?_⟩) nb fun y hy hne => ?_, fun h0 => ?_⟩, fun y hy k => ?_, fun y => ?_⟩
  · rw [setP_field _ _ _ _ (by decide), setP_field _ _ _ _ (by decide)]
  · rw [setP_field _ _ _ _ (by decide), setP_field _ _ _ _ (by decide)]
  · rw [setP_field _ _ _ _ (by decide), setP_field _ _ _ _ (by decide)]
  · rcases ab_ _ (Tp.root_mem h0) with e | e
    · rw [setP_other _ _ _ e, setP_same _ _ h0]
    · unfold setP; rw [if_pos e, if_neg h0, up2_same]
  · rw [setP_field _ _ _ _ (by decide), setP_field _ _ _ _ (by decide)]
  · rw [setP_field _ _ _ _ (by decide), setP_field _ _ _ _ (by decide)]
  · rw [setP_field _ _ _ _ (by decide), setP_field _ _ _ _ (by decide)]
  · refine other y ?_ (.inl hne) 2
    by_cases h0 : a.root = 0
    · exact .inr h0
    · exact .inl fun e => hd _ (Tp.root_mem h0) (e ▸ hy)
  · exact setP_same _ _ h0
  · refine (other y ?_ ?_ k).trans (h.o y hy k)
    · by_cases h0 : a.root = 0
      · exact .inr h0
      · exact .inl fun e => hy (e ▸ ha _ (Tp.root_mem h0))
    · by_cases h0 : b.root = 0
      · exact .inr h0
      · exact .inl fun e => hy (e ▸ hb _ (Tp.root_mem h0))
  · rw [setP_field _ _ _ _ (by decide), setP_field _ _ _ _ (by decide)]; exact h.p y

/-- hang, at a turn that is told. -/
theorem thang4 (A : TM w V S T p gb cap m g) {x c : Nat} (h : HangOk V S x c) (hm : m ≤ 999980) :
    Calls Tryz.prog 145 #[vTr V S T p, .agg #[.int .i64 (x : Int), .int .i64 4], .int .i64 (c : Int)] w (Did V S T p gb cap (m + 9) (hangG (vxN V) g x true c) (.tuple #[]) w) := thang (rt := true) A h hm
theorem thang3 (A : TM w V S T p gb cap m g) {x c : Nat} (h : HangOk V S x c) (hm : m ≤ 999980) :
    Calls Tryz.prog 145 #[vTr V S T p, .agg #[.int .i64 (x : Int), .int .i64 3], .int .i64 (c : Int)] w (Did V S T p gb cap (m + 9) (hangG (vxN V) g x false c) (.tuple #[]) w) := thang (rt := false) A h hm

/-- What Split leaves: two trees, beside what was there. -/
def SplitD (V S T : Int) (p gb cap m : Nat) (g : Mg9) (mk : Nat → Nat) (t ta tb : Tp) (w : World) (e : Ending) (w' : World) : Prop :=
  ∃ g', e = .returned (.tuple #[.int .i64 ((ta.root : Nat) : Int), .int .i64 ((tb.root : Nat) : Int)]) ∧ TM w' V S T p gb cap m g' ∧ Only p gb w w' ∧ Stands (vxN V) mk g' ta ∧ Stands (vxN V) mk g' tb ∧ (∀ y, y ∉ t.row → ∀ k, g' y k = g y k) ∧ ∀ y, g' y 5 = g y 5

set_option maxHeartbeats 4000000 in
theorem tsplit (A : TM w V S T p gb cap m g) {t0 : Tp} {mk : Nat → Nat} {k0 : Int} (hmk : ∀ x, mk x < 4) (hk1 : -9223372036854775808 ≤ k0) (hk2 : k0 ≤ 9223372036854775807) (hL : Loose (vxN V) mk g t0) (hz : t0.size ≤ nN V S) (hnd : t0.row.Nodup) (hn : ∀ y ∈ t0.row, y ≠ 0 ∧ y ≤ nN V S) (hm : m ≤ 970000) :
    Calls Tryz.prog 120 #[vTr V S T p, .int .i64 (t0.root : Int), .int .i64 k0] w (SplitD V S T p gb cap (m + 12 * nN V S + 4) g mk t0 (splitZ (wayT k0 t0)).1 (splitZ (wayT k0 t0)).2 w) := by
  have hn560 := nN_le A.hR
  have HA := Lib.hid A
  have HMK := Lib.hid hmk
  have HP0 : Hid (Loose (vxN V) mk g t0 ∧ t0.size ≤ nN V S ∧ (∀ y ∈ t0.row, y ≠ 0 ∧ y ≤ nN V S) ∧ t0.row.Nodup) := Lib.hid ⟨hL, hz, hn, hnd⟩
  have HLL : Hid ((wayT k0 t0).length ≤ nN V S) := Lib.hid (by have := plug_size (wayT k0 t0) .nil; rw [wayT_plug] at this; rw [Tp.size_nil] at this; omega)
  have hpl := wayT_plug k0 t0
  have HFX : Hid (∀ f ∈ wayT k0 t0, 1 ≤ f.x ∧ f.x ≤ nN V S) := Lib.hid fun f hf => by
    have h1 := plug_fr (t := .nil) hf
    rw [hpl] at h1
    have := hn _ h1; omega
  have HPL := Lib.hid hpl
  obtain ⟨L, hLE⟩ : ∃ L, wayT k0 t0 = L := ⟨_, rfl⟩
  rw [hLE] at HLL HFX HPL
  rw [hLE]
  have HLE := Lib.hid hLE
  clear hL hz hn A hmk hnd hpl hLE
  refine (callsIn_wide (n := 10)).1 ?_
  refine callsIn_of_wp_marks Tryz.func120 rfl trivial ?_ rfl
  simp only [Tryz.ntmps120, List.size_toArray, List.length_cons, List.length_nil, Nat.reduceAdd, Nat.reduceSub, Array.replicate_succ, Array.replicate_zero, List.push_toArray, List.append_toArray, List.nil_append, List.cons_append]
  gi_wp2_with fail
  have HT : Hid (TB (((w.alloc (.cells #[.int .i64 V, .int .i64 S, .int .i64 T, .iface 84 (pmV p), .int .i64 1, .int .i64 0] 43)).alloc (.cells #[.int .i64 0] 3)).alloc (.cells #[.int .i64 0] 3)) w.heap.size V S T p) := Lib.hid (((TB.new w V S T p).alloc _).alloc _)
  have HB1 : Hid (Blk (((w.alloc (.cells #[.int .i64 V, .int .i64 S, .int .i64 T, .iface 84 (pmV p), .int .i64 1, .int .i64 0] 43)).alloc (.cells #[.int .i64 0] 3)).alloc (.cells #[.int .i64 0] 3)) (w.heap.size + 1) 3 #[.int .i64 0]) := Lib.hid ((new_next w _ _ _ _).alloc _)
  have HB2 : Hid (Blk (((w.alloc (.cells #[.int .i64 V, .int .i64 S, .int .i64 T, .iface 84 (pmV p), .int .i64 1, .int .i64 0] 43)).alloc (.cells #[.int .i64 0] 3)).alloc (.cells #[.int .i64 0] 3)) (w.heap.size + 1 + 1) 3 #[.int .i64 0]) := Lib.hid (by have := new_next (w.alloc (.cells #[.int .i64 V, .int .i64 S, .int .i64 T, .iface 84 (pmV p), .int .i64 1, .int .i64 0] 43)) 3 3 #[.int .i64 0] #[.int .i64 0]; simpa using this)
  have HA0 := Lib.hid (((HA.out.alloc (.cells #[.int .i64 V, .int .i64 S, .int .i64 T, .iface 84 (pmV p), .int .i64 1, .int .i64 0] 43)).alloc (.cells #[.int .i64 0] 3)).alloc (.cells #[.int .i64 0] 3))
  have HO0 := Lib.hid ((((Only.refl p gb w).alloc (.cells #[.int .i64 V, .int .i64 S, .int .i64 T, .iface 84 (pmV p), .int .i64 1, .int .i64 0] 43)).alloc (.cells #[.int .i64 0] 3)).alloc (.cells #[.int .i64 0] 3))
  generalize hwb : w.heap.size = b at HT HB1 HB2 ⊢
  generalize ((w.alloc (.cells #[.int .i64 V, .int .i64 S, .int .i64 T, .iface 84 (pmV p), .int .i64 1, .int .i64 0] 43)).alloc (.cells #[.int .i64 0] 3)).alloc (.cells #[.int .i64 0] 3) = W0 at HT HB1 HB2 HA0 HO0 ⊢
  refine ⟨trivial, ?_⟩
  refine (callsIn_wide.2 (twayTo HA0.out HMK.out hk1 hk2 HP0.out.1 HP0.out.2.1 HP0.out.2.2.1 (by omega))).mono ?_; rintro e w1 ⟨v, rfl, R1, A1, O1⟩; rw [HLE.out] at R1
  have HT1 := Lib.hid (HT.out.only HA0.out O1)
  have HB11 := Lib.hid (HB1.out.treap HA0.out O1 (by decide) (by decide))
  have HB21 := Lib.hid (HB2.out.treap HA0.out O1 (by decide) (by decide))
  have HA1 := Lib.hid A1
  have HO1 := Lib.hid (HO0.out.trans O1)
  have HR1 := Lib.hid R1
  obtain ⟨av, vc, rfl⟩ := R1.slice
  clear R1 A1 O1 HT HB1 HB2 HA0 HO0 HA
  obtain ⟨y0, y1, y2, y3, y4, y5⟩ := HT1.out.cells
  have hlt := HT1.out.lt
  gi_wp2_with fail
  refine ⟨trivial, ?_⟩
  refine (backward_in Fence.wide _ trivial rfl _ _ _ _).mono ?_; rintro e w2 ⟨rfl, rfl⟩
  gi_wp2_with fail
  obtain ⟨Bs, hBs⟩ : ∃ Bs, w1.heap.size = Bs := ⟨_, rfl⟩
  obtain ⟨W2, hW2⟩ : ∃ W2, w1.alloc (.cells #[.slice av L.length vc] 182) = W2 := ⟨_, rfl⟩
  have HX1 : Hid (Blk W2 Bs 182 #[.slice av L.length vc]) := Lib.hid (by rw [← hW2, ← hBs]; exact Blk.new _ _ _)
  have HR2 : Hid (RowW W2 W0.heap.size (.slice av L.length vc) L) := Lib.hid (by rw [← hW2]; exact HR1.out.alloc _)
  have HT2 : Hid (TB W2 b V S T p) := Lib.hid (by rw [← hW2]; exact HT1.out.alloc _)
  have HB12 : Hid (Blk W2 (b + 1) 3 #[.int .i64 0]) := Lib.hid (by rw [← hW2]; exact HB11.out.alloc _)
  have HB22 : Hid (Blk W2 (b + 1 + 1) 3 #[.int .i64 0]) := Lib.hid (by rw [← hW2]; exact HB21.out.alloc _)
  have HA2 : Hid (TM W2 V S T p gb cap (m + 3 * nN V S) g) := Lib.hid (by rw [← hW2]; exact HA1.out.alloc _)
  have HO2 : Hid (Only p gb w W2) := Lib.hid (by rw [← hW2]; exact HO1.out.alloc _)
  obtain ⟨q, hq⟩ : ∃ q, wayBlk (.slice av L.length vc) Bs = q := ⟨_, rfl⟩
  have hs2 : W2.heap.size = Bs + 1 := by rw [← hW2, ← hBs]; simp
  have HNE : Hid ((Bs ≠ p ∧ Bs ≠ gb ∧ Bs ≠ b + 1 ∧ Bs ≠ b + 1 + 1) ∧ (q ≠ p ∧ q ≠ gb ∧ q ≠ b + 1 ∧ q ≠ b + 1 + 1) ∧ q ≤ Bs) := Lib.hid (by
    have p1 := HA1.out.p_lt
    have p2 := HA1.out.g_lt
    have p3 := HB11.out.lt
    have p4 := HB21.out.lt
    have hb1 : Bs ≠ p ∧ Bs ≠ gb ∧ Bs ≠ b + 1 ∧ Bs ≠ b + 1 + 1 := ⟨by omega, by omega, by omega, by omega⟩
    refine ⟨hb1, ?_⟩
    rw [← hq]
    unfold wayBlk
    cases e : (Value.slice av L.length vc).ownBlock with
    | none => exact ⟨hb1, Nat.le_refl _⟩
    | some r =>
      have n1 := HR1.out.ne_t HA1.out
      have n2 := HR1.out.ne_blk HB11.out (by decide)
      have n3 := HR1.out.ne_blk HB21.out (by decide)
      have n4 := (HR1.out.lt r e).2
      rw [e] at n1 n2 n3
      exact ⟨⟨fun h => n1.1 (by rw [← h]; rfl), fun h => n1.2 (by rw [← h]; rfl), fun h => n2 (by rw [← h]; rfl), fun h => n3 (by rw [← h]; rfl)⟩, by show r ≤ Bs; omega⟩)
  have HBB : Hid (b + 1 + 1 < Bs) := Lib.hid (by have p4 := HB21.out.lt; omega)
  rw [hW2, hBs]
  clear HT1 HB11 HB21 HA1 HO1 HR1 y0 y1 y2 y3 y4 y5 hlt hW2 hk1 hk2
  refine wpIn_rangeFunc_ownH (w := W2) rfl (by omega) (gf := 157) (lb := #[.pointer (some ⟨Bs, 0, none⟩)]) rfl trivial (enters_of Tryz.func157 (by kernel_rfl) rfl)
    (back_stops Fence.wide (10 - 1) trivial rfl (by omega) Bs W0.heap.size _ L (by have := HLL.out; omega) W2 HX1.out HR2.out) KpB.trans
    (fun W l o o' hl _ _ _ => ⟨World.putObj_heap_other (by omega), World.putObj_heap_other (by rw [hq]; have := HNE.out.2.2; omega)⟩) (Below.refl _ _) (fun _ => rfl)
    (SpI w b Bs V S T p gb cap (m + 3 * nN V S) g mk L) (fun _ _ _ => False) (SpI.own (by have := HO2.out.size; omega)) (fun _ _ _ _ _ hs _ _ => hs)
    ⟨g, 0, 0, by omega, HB12.out, HB22.out, Nat.zero_le _, Nat.zero_le _, HT2.out, HA2.out, HO2.out, fun _ _ => ⟨split_start L HA2.out.z, by rw [List.length_nil, fsB_zero]; rfl, by rw [List.length_nil, fsB_zero]; rfl⟩⟩
    (fun k a' W => ∃ Bx, Blk W Bx 189 #[.int .i64 ((bkF L k).2.x : Int), .int .i64 (sd (bkF L k).2.rt : Int)] ∧ a' = { tmps := #[vTr V S T p, .int .i64 (t0.root : Int), .int .i64 k0, .pointer (some ⟨b, 0, none⟩), undef, undef, .pointer (some ⟨b + 1, 0, none⟩), .pointer (some ⟨b + 1 + 1, 0, none⟩), undef, .pointer (some ⟨Bx, 0, none⟩), vTr V S T p, .int .i64 (t0.root : Int), .int .i64 k0, .slice av L.length vc, .func (.func 157) #[] #[.pointer (some ⟨Bs, 0, none⟩)], .int .i64 ((bkF L k).1 : Int), vTn (bkF L k).2.x (sd (bkF L k).2.rt), undef, undef, undef, undef, undef, undef, undef, undef, undef, undef, undef, undef, undef, undef, undef, undef, undef, undef, undef, undef, undef, undef, undef], defers := [] })
    (fun k a' _ X Y row hs hg hr => by obtain ⟨Bx, h1, h2⟩ := hs; exact ⟨Bx, Blk.own h1 hg (fun r e => (hr r e).2), h2⟩)
    ?assign ?body ?done ?stop
  case assign =>
    rintro l pre x W K hI hK
    gi_wp2_with fail
    have hBW : Bs < W.heap.size := by obtain ⟨_, _, _, h0, _⟩ := hI; exact h0
    exact hK _ _ ((KeepsOthers.alloc _ _).from _) ⟨Below.heap_alloc W _ _ hBW, Below.heap_alloc W _ _ (by rw [hq]; have := HNE.out.2.2; omega)⟩ ((SpI.own (w0 := w) (B := W2.heap.size) (by have := HO2.out.size; omega)).alloc _ hI) ⟨W.heap.size, Blk.new _ _ _, rfl⟩
  case body =>
    rintro l pre x a' W hl ⟨r, hr⟩ hI ⟨Bx, hX, rfl⟩ hlt
    obtain ⟨g1, a, c, h0, hBa, hBc, ha, hc, hT, hA, hO, hst⟩ := hI
    have hbase : w.heap.size ≤ b + 1 := by omega
    have HT3 := Lib.hid hT
    have HA3 := Lib.hid hA
    have HO3 := Lib.hid hO
    have HBa : Hid (Blk W (b + 1) 3 #[.int .i64 (a : Int)]) := Lib.hid hBa
    have HBc : Hid (Blk W (b + 1 + 1) 3 #[.int .i64 (c : Int)]) := Lib.hid hBc
    have HX3 := Lib.hid hX
    have HST := Lib.hid hst
    have HI0 := Lib.hid h0
    have HFO := Lib.hid (bkF_ok (nN_pos hA.hR) HFX.out x)
    have HPN : Hid (pre.length < L.length) := Lib.hid hlt
    have hMM : m + 3 * nN V S + 9 * pre.length ≤ 990000 := by have := HLL.out; omega
    obtain ⟨y0, y1, y2, y3, y4, y5⟩ := hT.cells
    have tlt := hT.lt
    have ca : W.cell? ⟨b + 1, 0, none⟩ = some (.int .i64 (a : Int)) := HBa.out.cell 0
    have cc : W.cell? ⟨b + 1 + 1, 0, none⟩ = some (.int .i64 (c : Int)) := HBc.out.cell 0
    have alt := HBa.out.lt
    have clt := HBc.out.lt
    have xlt := hX.lt
    have x0 : W.cell? ⟨Bx, 0, none⟩ = some (.int .i64 ((bkF L x).2.x : Int)) := hX.cell 0
    have x1 : W.cell? ⟨Bx, 1, none⟩ = some (.int .i64 (sd (bkF L x).2.rt : Int)) := hX.cell 1
    have HST2 : Hid (∀ rt, (bkF L x).2.rt = rt → ∀ pre', pre' = pre ++ [x] → pre' = List.range pre'.length → pre'.length ≤ L.length → SStep (vxN V) mk g (hangG (vxN V) g1 (bkF L x).2.x rt (if rt then a else c)) (plug (fsB L pre'.length) .nil) (splitZ (fsB L pre'.length)).1 (splitZ (fsB L pre'.length)).2 ∧ (if rt then (bkF L x).2.x else a) = (splitZ (fsB L pre'.length)).1.root ∧ (if rt then c else (bkF L x).2.x) = (splitZ (fsB L pre'.length)).2.root) := Lib.hid (by
      rintro rt hrt pre' rfl hp hpl
      rw [List.length_append, List.length_singleton] at hp hpl ⊢
      rw [List.range_succ] at hp
      obtain ⟨hp1, hp2⟩ := List.append_inj' hp rfl
      have hx : x = pre.length := by simpa using hp2
      obtain ⟨s1, s2, s3⟩ := HST.out hp1 (by omega)
      have hn2 := split_next HMK.out (g1 := g1) (k := pre.length) HPL.out HP0.out.1 (by have := HP0.out.2.1; omega) HP0.out.2.2.2 (fun y hy => (HP0.out.2.2.1 y hy).1) (by omega) s1
      rw [hx] at hrt ⊢
      rw [hrt, ← s2, ← s3] at hn2
      refine ⟨hn2, ?_⟩
      rw [fsB_succ (by omega)]
      unfold splitZ
      rw [hrt]
      cases rt
      · exact ⟨s2, (Fr.join_root _ _).symm⟩
      · exact ⟨(Fr.join_root _ _).symm, s3⟩)
    obtain ⟨fx, hfx⟩ : ∃ fx, (bkF L x).2.x = fx := ⟨_, rfl⟩
    have HFX2 := Lib.hid hfx
    rw [hfx] at x0 HFO HST2
    rw [hfx]
    clear hT hA hO hBa hBc hX hst h0 hlt
    generalize hrt : (bkF L x).2.rt = rt at x1 ⊢
    replace HST2 := Lib.hid (HST2.out rt hrt)
    cases rt with
    | true =>
      have x1' : W.cell? ⟨Bx, 1, none⟩ = some (.int .i64 4) := x1
      clear x1
      have HS3 : Hid (∀ pre', pre' = pre ++ [x] → pre' = List.range pre'.length → pre'.length ≤ L.length → SStep (vxN V) mk g (hangG (vxN V) g1 fx true a) (plug (fsB L pre'.length) .nil) (splitZ (fsB L pre'.length)).1 (splitZ (fsB L pre'.length)).2 ∧ fx = (splitZ (fsB L pre'.length)).1.root ∧ c = (splitZ (fsB L pre'.length)).2.root) := HST2
      gi_wp2_with fail
      refine ⟨trivial, ?_⟩
      refine (CallsIn.inRound l (callsIn_wide.2 (thang4 HA3.out ⟨HFO.out.1, HFO.out.2, ha⟩ (by omega)))).mono ?_; rintro e w5 ⟨rfl, A5, O5⟩
      have HA5 := Lib.hid A5
      have HO5 := Lib.hid O5
      have HT5 := Lib.hid (HT3.out.only HA3.out O5)
      have HBa5 := Lib.hid (HBa.out.treap HA3.out O5 (by decide) (by decide))
      have HBc5 := Lib.hid (HBc.out.treap HA3.out O5 (by decide) (by decide))
      have HX5 := Lib.hid (HX3.out.treap HA3.out O5 (by decide) (by decide))
      clear A5 O5 y0 y1 y2 y3 y4 y5 tlt ca cc alt clt xlt x0 x1'
      have x0 : w5.cell? ⟨Bx, 0, none⟩ = some (.int .i64 (fx : Int)) := by rw [← HFX2.out]; exact HX5.out.cell 0
      have xlt := HX5.out.lt
      have ba := HBa5.out.cell 0
      have bc := HBc5.out.cell 0
      have fa := HBa5.out.frozen
      have fc := HBc5.out.frozen
      have alt := HBa5.out.lt
      have clt := HBc5.out.lt
      gi_wp2_with fail
      have hq5 : q < W.heap.size := by have := HNE.out.2.2; have := HI0.out; omega
      refine ⟨(keepsFrom_only HA3.out HO5.out).trans ((KeepsOthers.setCell _ _ _).from _), ?_, ?_⟩
      · rw [hq]; exact (OnlyKp HO5.out HI0.out hq5 HNE.out.1.1 HNE.out.1.2.1 HNE.out.2.1.1 HNE.out.2.1.2.1).set HNE.out.1.2.2.1 HNE.out.2.1.2.2.1 _
      · exact ⟨_, fx, c, by have := HO5.out.size; have := HI0.out; simpa [World.setCell] using (by omega : Bs < w5.heap.size), HBa5.out.set_ 0 _, HBc5.out.far (by simp) _, HFO.out.2, hc, Blk.far HT5.out (by simp) _, by rw [List.length_append, List.length_singleton, show m + 3 * nN V S + 9 * (pre.length + 1) = m + 3 * nN V S + 9 * pre.length + 9 by omega]; exact HA5.out.far HBa5.out (by decide) (by decide) _, (HO3.out.trans HO5.out).set_new (by omega) _, HS3.out _ rfl⟩
    | false =>
      have x1' : W.cell? ⟨Bx, 1, none⟩ = some (.int .i64 3) := x1
      clear x1
      have HS3 : Hid (∀ pre', pre' = pre ++ [x] → pre' = List.range pre'.length → pre'.length ≤ L.length → SStep (vxN V) mk g (hangG (vxN V) g1 fx false c) (plug (fsB L pre'.length) .nil) (splitZ (fsB L pre'.length)).1 (splitZ (fsB L pre'.length)).2 ∧ a = (splitZ (fsB L pre'.length)).1.root ∧ fx = (splitZ (fsB L pre'.length)).2.root) := HST2
      gi_wp2_with fail
      refine ⟨trivial, ?_⟩
      refine (CallsIn.inRound l (callsIn_wide.2 (thang3 HA3.out ⟨HFO.out.1, HFO.out.2, hc⟩ (by omega)))).mono ?_; rintro e w5 ⟨rfl, A5, O5⟩
      have HA5 := Lib.hid A5
      have HO5 := Lib.hid O5
      have HT5 := Lib.hid (HT3.out.only HA3.out O5)
      have HBa5 := Lib.hid (HBa.out.treap HA3.out O5 (by decide) (by decide))
      have HBc5 := Lib.hid (HBc.out.treap HA3.out O5 (by decide) (by decide))
      have HX5 := Lib.hid (HX3.out.treap HA3.out O5 (by decide) (by decide))
      clear A5 O5 y0 y1 y2 y3 y4 y5 tlt ca cc alt clt xlt x0 x1'
      have x0 : w5.cell? ⟨Bx, 0, none⟩ = some (.int .i64 (fx : Int)) := by rw [← HFX2.out]; exact HX5.out.cell 0
      have xlt := HX5.out.lt
      have ba := HBa5.out.cell 0
      have bc := HBc5.out.cell 0
      have fa := HBa5.out.frozen
      have fc := HBc5.out.frozen
      have alt := HBa5.out.lt
      have clt := HBc5.out.lt
      gi_wp2_with fail
      have hq5 : q < W.heap.size := by have := HNE.out.2.2; have := HI0.out; omega
      refine ⟨(keepsFrom_only HA3.out HO5.out).trans ((KeepsOthers.setCell _ _ _).from _), ?_, ?_⟩
      · rw [hq]; exact (OnlyKp HO5.out HI0.out hq5 HNE.out.1.1 HNE.out.1.2.1 HNE.out.2.1.1 HNE.out.2.1.2.1).set HNE.out.1.2.2.2 HNE.out.2.1.2.2.2 _
      · exact ⟨_, a, fx, by have := HO5.out.size; have := HI0.out; simpa [World.setCell] using (by omega : Bs < w5.heap.size), HBa5.out.far (by simp) _, HBc5.out.set_ 0 _, ha, HFO.out.2, Blk.far HT5.out (by simp; omega) _, by rw [List.length_append, List.length_singleton, show m + 3 * nN V S + 9 * (pre.length + 1) = m + 3 * nN V S + 9 * pre.length + 9 by omega]; exact HA5.out.far HBc5.out (by decide) (by decide) _, (HO3.out.trans HO5.out).set_new (by omega) _, HS3.out _ rfl⟩
  case done =>
    rintro D ys W hD rfl hI hK
    obtain ⟨g1, a, c, h0, hBa, hBc, ha, hc, hT, hA, hO, hst⟩ := hI
    obtain ⟨s1, s2, s3⟩ := hst (by rw [List.length_range]) (by rw [List.length_range]; exact Nat.le_refl _)
    rw [List.length_range, fsB_all] at s1 s2 s3
    rw [HPL.out] at s1
    have HS := Lib.hid (And.intro s1 (And.intro s2 s3))
    have HT3 := Lib.hid hT
    have HA3 := Lib.hid hA
    have HO3 := Lib.hid hO
    have HBa : Hid (Blk W (b + 1) 3 #[.int .i64 (a : Int)]) := Lib.hid hBa
    have HBc : Hid (Blk W (b + 1 + 1) 3 #[.int .i64 (c : Int)]) := Lib.hid hBc
    have HK := Lib.hid hK
    have HDD : Hid (Bs < D) := Lib.hid (by omega)
    obtain ⟨M, hM⟩ : ∃ M, m + 3 * nN V S + 9 * (List.range L.length).length = M := ⟨_, rfl⟩
    rw [hM] at HA3
    have hM1 : M ≤ m + 12 * nN V S := by rw [← hM, List.length_range]; have := HLL.out; omega
    obtain ⟨y0, y1, y2, y3, y4, y5⟩ := hT.cells
    have tlt := hT.lt
    have ca : W.cell? ⟨b + 1, 0, none⟩ = some (.int .i64 (a : Int)) := HBa.out.cell 0
    have alt := HBa.out.lt
    clear hT hA hO hBa hBc hst s1 s2 s3 hK hM
    gi_wp2_with fail
    refine ⟨trivial, ?_⟩
    refine (callsIn_wide.2 (tsetParent (v := 0) HA3.out ha (Nat.zero_le _) (by omega))).mono ?_; rintro e w5 ⟨rfl, A5, O5⟩
    have HA5 := Lib.hid A5
    have HO5 := Lib.hid (HO3.out.trans O5)
    have HT5 := Lib.hid (HT3.out.only HA3.out O5)
    have HBa5 := Lib.hid (HBa.out.treap HA3.out O5 (by decide) (by decide))
    have HBc5 := Lib.hid (HBc.out.treap HA3.out O5 (by decide) (by decide))
    have HK5 : Hid (w5.heap[D]? = some (.deferred (some []))) := Lib.hid ((O5.block D (Array.getElem?_eq_some_iff.1 HK.out).1 (by have := HNE.out; have := HA2.out.p_lt; omega) (by have := HA2.out.g_lt; omega)).trans HK.out)
    clear A5 O5 y0 y1 y2 y3 y4 y5 tlt ca alt HT3 HA3 HO3 HBa HBc HK
    obtain ⟨y0, y1, y2, y3, y4, y5⟩ := HT5.out.cells
    have tlt := HT5.out.lt
    have cc : w5.cell? ⟨b + 1 + 1, 0, none⟩ = some (.int .i64 (c : Int)) := HBc5.out.cell 0
    have clt := HBc5.out.lt
    gi_wp2_with fail
    refine ⟨trivial, ?_⟩
    refine (callsIn_wide.2 (tsetParent (v := 0) HA5.out hc (Nat.zero_le _) (by omega))).mono ?_; rintro e w6 ⟨rfl, A6, O6⟩
    have HA6 := Lib.hid A6
    have HO6 := Lib.hid (HO5.out.trans O6)
    have HBa6 := Lib.hid (HBa5.out.treap HA5.out O6 (by decide) (by decide))
    have HBc6 := Lib.hid (HBc5.out.treap HA5.out O6 (by decide) (by decide))
    have HK6 : Hid (w6.heap[D]? = some (.deferred (some []))) := Lib.hid ((O6.block D (Array.getElem?_eq_some_iff.1 HK5.out).1 (by have := HA2.out.p_lt; omega) (by have := HA2.out.g_lt; omega)).trans HK5.out)
    clear A6 O6 y0 y1 y2 y3 y4 y5 tlt cc clt HT5 HA5 HO5 HBa5 HBc5 HK5
    have ca : w6.cell? ⟨b + 1, 0, none⟩ = some (.int .i64 (a : Int)) := HBa6.out.cell 0
    have cc : w6.cell? ⟨b + 1 + 1, 0, none⟩ = some (.int .i64 (c : Int)) := HBc6.out.cell 0
    have fa := HBa6.out.frozen
    have fc := HBc6.out.frozen
    have alt := HBa6.out.lt
    have clt := HBc6.out.lt
    gi_wp2_with fail
    refine wpIn_wide.2 ?_
    go_region
    have HKZ : Hid (((w6.setCell ⟨b + 1, 0, none⟩ (.int .i64 (a : Int))).setCell ⟨b + 1 + 1, 0, none⟩ (.int .i64 (c : Int))).drew.heap[D]? = some (.deferred (some []))) := Lib.hid ((Below.heap_setCell (w6.setCell ⟨b + 1, 0, none⟩ (.int .i64 (a : Int))) ⟨b + 1 + 1, 0, none⟩ _ D (by have := HBB.out; have := HDD.out; simp; omega)).trans ((Below.heap_setCell w6 ⟨b + 1, 0, none⟩ _ D (by have := HBB.out; have := HDD.out; simp; omega)).trans HK6.out))
    have HBaZ : Hid (Blk ((w6.setCell ⟨b + 1, 0, none⟩ (.int .i64 (a : Int))).setCell ⟨b + 1 + 1, 0, none⟩ (.int .i64 (c : Int))).drew (b + 1) 3 #[.int .i64 (a : Int)]) := Lib.hid ((HBa6.out.set_ 0 _).far (by simp) _)
    have HBcZ : Hid (Blk ((w6.setCell ⟨b + 1, 0, none⟩ (.int .i64 (a : Int))).setCell ⟨b + 1 + 1, 0, none⟩ (.int .i64 (c : Int))).drew (b + 1 + 1) 3 #[.int .i64 (c : Int)]) := Lib.hid ((HBc6.out.far (by simp) _).set_ 0 _)
    have HAZ : Hid (TM ((w6.setCell ⟨b + 1, 0, none⟩ (.int .i64 (a : Int))).setCell ⟨b + 1 + 1, 0, none⟩ (.int .i64 (c : Int))).drew V S T p gb cap (M + 2 + 2) (setP (setP g1 a 0) c 0)) := Lib.hid ((HA6.out.far HBa6.out (by decide) (by decide) _).far (HBc6.out.far (by simp) _) (by decide) (by decide) _).drew
    have HOZ : Hid (Only p gb w ((w6.setCell ⟨b + 1, 0, none⟩ (.int .i64 (a : Int))).setCell ⟨b + 1 + 1, 0, none⟩ (.int .i64 (c : Int))).drew) := Lib.hid ((HO6.out.set_new (by omega) _).set_new (by omega) _).drew
    generalize ((w6.setCell ⟨b + 1, 0, none⟩ (.int .i64 (a : Int))).setCell ⟨b + 1 + 1, 0, none⟩ (.int .i64 (c : Int))).drew = Z at HKZ HBaZ HBcZ HAZ HOZ ⊢
    clear HBa6 HBc6 HA6 HO6 HK6 ca cc fa fc alt clt
    gi_wp2_with fail
    have HNP : Hid (D ≠ p ∧ D ≠ gb ∧ w.heap.size ≤ D) := Lib.hid ⟨by have := HA2.out.p_lt; omega, by have := HA2.out.g_lt; omega, by have := HBB.out; have := HDD.out; omega⟩
    have HBaY : Hid (Blk (Z.putObj D (.deferred none)) (b + 1) 3 #[.int .i64 (a : Int)]) := Lib.hid ((World.putObj_heap_other (by have := HBB.out; have := HDD.out; omega)).trans HBaZ.out)
    have HBcY : Hid (Blk (Z.putObj D (.deferred none)) (b + 1 + 1) 3 #[.int .i64 (c : Int)]) := Lib.hid ((World.putObj_heap_other (by have := HBB.out; have := HDD.out; omega)).trans HBcZ.out)
    have ca : (Z.putObj D (.deferred none)).cell? ⟨b + 1, 0, none⟩ = some (.int .i64 (a : Int)) := HBaY.out.cell 0
    have cc : (Z.putObj D (.deferred none)).cell? ⟨b + 1 + 1, 0, none⟩ = some (.int .i64 (c : Int)) := HBcY.out.cell 0
    have hgr := grownBy_putObj' Z D (.deferred none)
    refine ⟨by simp, .inl ⟨_, _, rfl, run_takeDeferred HKZ.out, ?_⟩⟩
    refine ⟨.tuple #[.int .i64 (a : Int), .int .i64 (c : Int)], by simp [results, Tryz.results120, go_sem, ca, cc], ?_⟩
    obtain ⟨s1, s2, s3⟩ := HS.out
    have hrow := splitZ_row L
    rw [HPL.out] at hrow
    have hnd2 := HP0.out.2.2.2
    rw [← hrow, List.nodup_append] at hnd2
    obtain ⟨d1, d2, d3, d4⟩ := split_done s1 (fun y hy => by rw [← hrow]; exact List.mem_append_left _ hy) (fun y hy => by rw [← hrow]; exact List.mem_append_right _ hy) (fun y h1 h2 => hnd2.2.2 y h1 y h2 rfl) hnd2.1 hnd2.2.1
    rw [← s2, ← s3] at d1 d2 d3 d4
    exact ⟨_, by rw [← s2, ← s3], (HAZ.out.grown hgr (by intro e; cases e; exact HNP.out.1 rfl) (by intro e; cases e; exact HNP.out.2.1 rfl)).more (by omega), HOZ.out.grown hgr (by intro i e; cases e; exact HNP.out.2.2), d1, d2, d3, d4⟩
  case stop =>
    rintro D c pre W _ _ h _
    exact h.elim
end

end Go.Proofs.YtdafnejphlcgdaaGreat

/- Contract of Merge. Printed by wip/tools/trpr.py. -/
namespace Go.Proofs.YtdafnejphlcgdaaGreat
open Go.RowKit Go.Shelf

attribute [local go_sem] Oper.semAt_some
set_option maxRecDepth 100000

section
variable {V S T : Int} {g : Mg9} {w w' w0 W W' : World} {p gb cap m : Nat} {row : Option Nat}
/-- Between two rounds of Merge. -/
def MgI (w0 : World) (b r8 Bs : Nat) (V S T : Int) (p gb cap m : Nat) (g : Mg9) (mk : Nat → Nat) (L : List Fr) (rest : Tp) (pre : List Nat) (W : World) : Prop :=
  ∃ g1 c, Bs < W.heap.size ∧ Boxed W r8 3 (.int .i64 ((c : Nat) : Int)) ∧ c ≤ nN V S ∧ TB W b V S T p ∧ TM W V S T p gb cap (m + 9 * pre.length) g1 ∧ Only p gb w0 W ∧
    (pre = List.range pre.length → pre.length ≤ L.length → MStep (vxN V) mk g g1 (plug (fsB L pre.length) rest) ∧ c = (plug (fsB L pre.length) rest).root)
theorem MgI.own {b r8 Bs : Nat} {mk : Nat → Nat} {L : List Fr} {rest : Tp} {B : Nat} (hB : w0.heap.size ≤ B) : OwnFrom B (MgI w0 b r8 Bs V S T p gb cap m g mk L rest) := fun s W W' row hs hg hr => by
  obtain ⟨g1, c, h0, h2, h4, h5, h6, h7, h8⟩ := hs
  have hr' := fun r e => (hr r e).2
  exact ⟨g1, c, Nat.lt_of_lt_of_le h0 hg.size, Blk.own h2 hg hr', h4, Blk.own h5 hg hr', h6.own_ hg hr', h7.grown hg fun i hi => by have := (hr i hi).1; omega, h8⟩

/-- A step of the way back, of a merge. -/
theorem merge_next {mk : Nat → Nat} (hm : ∀ x, mk x < 4) {t0 rest : Tp} {L : List Fr} {g1 : Mg9} {k : Nat} (hL : plug L rest = t0) (hf : ∀ f ∈ L, FrOk (vxN V) mk g f) (hz : t0.size < 65536) (hnd : t0.row.Nodup) (hn : ∀ y ∈ t0.row, y ≠ 0) (hk : k < L.length)
    (h : MStep (vxN V) mk g g1 (plug (fsB L k) rest)) : MStep (vxN V) mk g (hangG (vxN V) g1 (bkF L k).2.x (bkF L k).2.rt (plug (fsB L k) rest).root) (plug (fsB L (k + 1)) rest) := by
  have hs : t0 = plug (L.take (L.length - (k + 1))) (plug (fsB L (k + 1)) rest) := by rw [← plug_app]; unfold fsB; rw [List.take_append_drop, hL]
  have h1 : (plug (fsB L (k + 1)) rest).row.Nodup := by rw [hs] at hnd; exact plug_nodup hnd
  have h2 : ∀ y ∈ (plug (fsB L (k + 1)) rest).row, y ≠ 0 := fun y hy => hn y (by rw [hs]; exact plug_mem hy)
  have h3 : (plug (fsB L (k + 1)) rest).size < 65536 := by
    have := plug_size (L.take (L.length - (k + 1))) (plug (fsB L (k + 1)) rest)
    rw [← hs] at this; omega
  rw [fsB_succ hk] at h1 h2 h3 ⊢
  exact h.next hm (hf _ (bkF_mem hk)) h1 h2 h3
/-- The root's parent is set to none. -/
theorem merge_done {mk : Nat → Nat} {g1 : Mg9} {t : Tp} (h : MStep (vxN V) mk g g1 t) (n : t.row.Nodup) : Stands (vxN V) mk (setP g1 t.root 0) t ∧ (∀ y, y ∉ t.row → ∀ k, setP g1 t.root 0 y k = g y k) ∧ ∀ y, setP g1 t.root 0 y 5 = g y 5 := by
  refine ⟨⟨h.l.congr (fun y _ => ⟨rfl, setP_field _ _ _ _ (by decide), setP_field _ _ _ _ (by decide), setP_field _ _ _ _ (by decide)⟩) n fun y _ hne => setP_other _ _ _ hne, fun h0 => setP_same _ _ h0⟩, fun y hy k => ?_, fun y => (setP_field _ _ _ _ (by decide)).trans (h.p y)⟩
  by_cases h0 : t.root = 0
  · unfold setP; rw [if_pos h0]; exact h.o y hy k
  · rw [setP_other _ _ _ fun e => hy (by rw [e]; exact Tp.root_mem h0)]; exact h.o y hy k

/-- What Merge leaves. -/
def MergeD (V S T : Int) (p gb cap m : Nat) (g : Mg9) (mk : Nat → Nat) (ta tb : Tp) (w : World) (e : Ending) (w' : World) : Prop :=
  ∃ g' t, e = .returned (.int .i64 ((t.root : Nat) : Int)) ∧ TM w' V S T p gb cap m g' ∧ Only p gb w w' ∧ Stands (vxN V) mk g' t ∧ t.row = ta.row ++ tb.row ∧ (Hp (fun z => g z 5) ta → Hp (fun z => g z 5) tb → Hp (fun z => g z 5) t) ∧ (∀ y, y ∉ t.row → ∀ k, g' y k = g y k) ∧ ∀ y, g' y 5 = g y 5

set_option maxHeartbeats 4000000 in
theorem tmerge (A : TM w V S T p gb cap m g) {ta tb : Tp} {mk : Nat → Nat} (hmk : ∀ x, mk x < 4) (hLa : Loose (vxN V) mk g ta) (hLb : Loose (vxN V) mk g tb) (hz : ta.size + tb.size ≤ nN V S) (hnd : (ta.row ++ tb.row).Nodup) (hna : ∀ y ∈ ta.row, y ≠ 0 ∧ y ≤ nN V S) (hnb : ∀ y ∈ tb.row, y ≠ 0 ∧ y ≤ nN V S) (hm : m ≤ 970000) :
    Calls Tryz.prog 115 #[vTr V S T p, .int .i64 (ta.root : Int), .int .i64 (tb.root : Int)] w (MergeD V S T p gb cap (m + 12 * nN V S + 2) g mk ta tb w) := by
  have hn560 := nN_le A.hR
  have HA := Lib.hid A
  have HMK := Lib.hid hmk
  have HP0 : Hid (Loose (vxN V) mk g ta ∧ Loose (vxN V) mk g tb ∧ ta.size + tb.size ≤ nN V S ∧ (∀ y ∈ ta.row, y ≠ 0 ∧ y ≤ nN V S) ∧ (∀ y ∈ tb.row, y ≠ 0 ∧ y ≤ nN V S) ∧ (ta.row ++ tb.row).Nodup) := Lib.hid ⟨hLa, hLb, hz, hna, hnb, hnd⟩
  clear hLa hLb hz hna hnb A hmk hnd
  refine (callsIn_wide (n := 10)).1 ?_
  refine callsIn_of_wp_marks Tryz.func115 rfl trivial ?_ rfl
  simp only [Tryz.ntmps115, List.size_toArray, List.length_cons, List.length_nil, Nat.reduceAdd, Nat.reduceSub, Array.replicate_succ, Array.replicate_zero, List.push_toArray, List.append_toArray, List.nil_append, List.cons_append]
  gi_wp2_with fail
  have HT : Hid (TB (w.alloc (.cells #[.int .i64 V, .int .i64 S, .int .i64 T, .iface 84 (pmV p), .int .i64 1, .int .i64 0] 43)) w.heap.size V S T p) := Lib.hid (TB.new w V S T p)
  have HA0 := Lib.hid (HA.out.alloc (.cells #[.int .i64 V, .int .i64 S, .int .i64 T, .iface 84 (pmV p), .int .i64 1, .int .i64 0] 43))
  have HO0 := Lib.hid ((Only.refl p gb w).alloc (.cells #[.int .i64 V, .int .i64 S, .int .i64 T, .iface 84 (pmV p), .int .i64 1, .int .i64 0] 43))
  have HWS : Hid (w.heap.size < (w.alloc (.cells #[.int .i64 V, .int .i64 S, .int .i64 T, .iface 84 (pmV p), .int .i64 1, .int .i64 0] 43)).heap.size) := Lib.hid (by simp)
  generalize hwb : w.heap.size = b at HT HWS ⊢
  generalize w.alloc (.cells #[.int .i64 V, .int .i64 S, .int .i64 T, .iface 84 (pmV p), .int .i64 1, .int .i64 0] 43) = W0 at HT HA0 HO0 HWS ⊢
  refine ⟨trivial, ?_⟩
  refine (callsIn_wide.2 (twayB HA0.out HP0.out.1 HP0.out.2.1 HP0.out.2.2.1 HP0.out.2.2.2.1 HP0.out.2.2.2.2.1 (by omega))).mono ?_; rintro e w1 ⟨v, L, rest, rfl, hM, R1, A1, O1⟩
  obtain ⟨av, vc, rfl⟩ := R1.slice
  have hpr := hM.row
  have hfr := hM.frames HMK.out HP0.out.1 HP0.out.2.1 (by have := HP0.out.2.2.1; omega) (by have := HP0.out.2.2.1; omega) (fun y hy => (HP0.out.2.2.2.1 y hy).1) (fun y hy => (HP0.out.2.2.2.2.1 y hy).1)
  have HHP : Hid (Hp (fun z => g z 5) ta → Hp (fun z => g z 5) tb → Hp (fun z => g z 5) (plug L rest)) := Lib.hid fun h1 h2 => hM.hp h1 h2 fun x hx hx' => by
    have := HP0.out.2.2.2.2.2
    rw [List.nodup_append] at this
    exact this.2.2 x hx x hx' rfl
  obtain ⟨t0, ht0⟩ : ∃ t0, plug L rest = t0 := ⟨_, rfl⟩
  rw [ht0] at hpr HHP
  have HPL := Lib.hid ht0
  have HROW := Lib.hid hpr
  have HFR := Lib.hid hfr
  have HSZ : Hid (t0.size ≤ nN V S) := Lib.hid (by have := HP0.out.2.2.1; unfold Tp.size at this ⊢; rw [hpr, List.length_append]; exact this)
  have HND : Hid t0.row.Nodup := Lib.hid (by rw [hpr]; exact HP0.out.2.2.2.2.2)
  have HNN : Hid (∀ y ∈ t0.row, y ≠ 0 ∧ y ≤ nN V S) := Lib.hid fun y hy => by
    rw [hpr] at hy
    rcases List.mem_append.1 hy with h | h
    · exact HP0.out.2.2.2.1 y h
    · exact HP0.out.2.2.2.2.1 y h
  have HLL : Hid (L.length ≤ nN V S) := Lib.hid (by have := plug_size L rest; rw [ht0] at this; have := HSZ.out; omega)
  have HFX : Hid (∀ f ∈ L, 1 ≤ f.x ∧ f.x ≤ nN V S) := Lib.hid fun f hf => by
    have h1 := plug_fr (t := rest) hf
    rw [ht0] at h1
    have := HNN.out _ h1; omega
  have HRN : Hid (rest.root ≤ nN V S) := Lib.hid (root_le fun y hy => HNN.out y (by rw [← ht0]; exact plug_mem hy))
  have HT1 := Lib.hid ((HT.out.only HA0.out O1).alloc (.cells #[.int .i64 ((rest.root : Nat) : Int)] 3))
  have HA1 := Lib.hid (A1.alloc (.cells #[.int .i64 ((rest.root : Nat) : Int)] 3))
  have HO1 := Lib.hid ((HO0.out.trans O1).alloc (.cells #[.int .i64 ((rest.root : Nat) : Int)] 3))
  have HR1 := Lib.hid (R1.alloc (.cells #[.int .i64 ((rest.root : Nat) : Int)] 3))
  have HB1 : Hid (Blk (w1.alloc (.cells #[.int .i64 ((rest.root : Nat) : Int)] 3)) w1.heap.size 3 #[.int .i64 ((rest.root : Nat) : Int)]) := Lib.hid (Blk.new _ _ _)
  have HW01 : Hid (b ≤ w1.heap.size) := Lib.hid (by have := O1.size; have := HWS.out; omega)
  clear hM hpr hfr ht0 R1 A1 O1 HT HA0 HO0 HA HWS
  obtain ⟨c0, hc0⟩ : ∃ c0, rest.root = c0 := ⟨_, rfl⟩
  have HC0 := Lib.hid hc0
  rw [hc0] at HT1 HA1 HO1 HR1 HB1 HRN
  rw [hc0]
  clear hc0
  gi_wp2_with fail
  refine ⟨trivial, ?_⟩
  refine (backward_in Fence.wide _ trivial rfl _ _ _ _).mono ?_; rintro e w2 ⟨rfl, rfl⟩
  gi_wp2_with fail
  generalize hr8 : w1.heap.size = r8 at HB1 HW01 ⊢
  have hsz1 : (w1.alloc (.cells #[.int .i64 (c0 : Int)] 3)).heap.size = r8 + 1 := by simp [hr8]
  generalize w1.alloc (.cells #[.int .i64 (c0 : Int)] 3) = Wa at HT1 HA1 HO1 HR1 HB1 hsz1 ⊢
  obtain ⟨Bs, hBs⟩ : ∃ Bs, r8 + 1 = Bs := ⟨_, rfl⟩
  obtain ⟨W2, hW2⟩ : ∃ W2, Wa.alloc (.cells #[.slice av L.length vc] 182) = W2 := ⟨_, rfl⟩
  have HX1 : Hid (Blk W2 Bs 182 #[.slice av L.length vc]) := Lib.hid (by rw [← hW2, ← hBs, ← hsz1]; exact Blk.new _ _ _)
  have HR2 : Hid (RowW W2 W0.heap.size (.slice av L.length vc) L) := Lib.hid (by rw [← hW2]; exact HR1.out.alloc _)
  have HT2 : Hid (TB W2 b V S T p) := Lib.hid (by rw [← hW2]; exact HT1.out.alloc _)
  have HB2 : Hid (Blk W2 r8 3 #[.int .i64 (c0 : Int)]) := Lib.hid (by rw [← hW2]; exact HB1.out.alloc _)
  have HA2 : Hid (TM W2 V S T p gb cap (m + 3 * nN V S) g) := Lib.hid (by rw [← hW2]; exact HA1.out.alloc _)
  have HO2 : Hid (Only p gb w W2) := Lib.hid (by rw [← hW2]; exact HO1.out.alloc _)
  obtain ⟨q, hq⟩ : ∃ q, wayBlk (.slice av L.length vc) Bs = q := ⟨_, rfl⟩
  have hs2 : W2.heap.size = Bs + 1 := by rw [← hW2, ← hBs]; simp [hsz1]
  have HNE : Hid ((Bs ≠ p ∧ Bs ≠ gb ∧ Bs ≠ r8) ∧ (q ≠ p ∧ q ≠ gb ∧ q ≠ r8) ∧ q ≤ Bs) := Lib.hid (by
    have p1 := HA1.out.p_lt
    have p2 := HA1.out.g_lt
    have p3 := HB1.out.lt
    have hb1 : Bs ≠ p ∧ Bs ≠ gb ∧ Bs ≠ r8 := ⟨by omega, by omega, by omega⟩
    refine ⟨hb1, ?_⟩
    rw [← hq]
    unfold wayBlk
    cases e : (Value.slice av L.length vc).ownBlock with
    | none => exact ⟨hb1, Nat.le_refl _⟩
    | some r =>
      have n1 := HR1.out.ne_t HA1.out
      have n2 := HR1.out.ne_blk HB1.out (by decide)
      have n4 := (HR1.out.lt r e).2
      rw [e] at n1 n2
      exact ⟨⟨fun h => n1.1 (by rw [← h]; rfl), fun h => n1.2 (by rw [← h]; rfl), fun h => n2 (by rw [← h]; rfl)⟩, by show r ≤ Bs; omega⟩)
  have HNR : Hid (r8 ≠ p ∧ r8 ≠ gb ∧ p < Bs ∧ gb < Bs) := Lib.hid (by
    have p1 := HA1.out.p_lt
    have p2 := HA1.out.g_lt
    obtain ⟨⟨_, h3⟩, ⟨_, h4⟩⟩ := HA1.out.blk
    exact ⟨HB1.out.ne_ h3 (by decide), HB1.out.ne_ h4 (by decide), by omega, by omega⟩)
  rw [hW2, hBs]
  clear HT1 HB1 HA1 HO1 HR1 hW2
  refine wpIn_rangeFunc_ownH (w := W2) rfl (by omega) (gf := 157) (lb := #[.pointer (some ⟨Bs, 0, none⟩)]) rfl trivial (enters_of Tryz.func157 (by kernel_rfl) rfl)
    (back_stops Fence.wide (10 - 1) trivial rfl (by omega) Bs W0.heap.size _ L (by have := HLL.out; omega) W2 HX1.out HR2.out) KpB.trans
    (fun W l o o' hl _ _ _ => ⟨World.putObj_heap_other (by omega), World.putObj_heap_other (by rw [hq]; have := HNE.out.2.2; omega)⟩) (Below.refl _ _) (fun _ => rfl)
    (MgI w b r8 Bs V S T p gb cap (m + 3 * nN V S) g mk L rest) (fun _ _ _ => False) (MgI.own (by have := HO2.out.size; omega)) (fun _ _ _ _ _ hs _ _ => hs)
    ⟨g, c0, by omega, HB2.out, HRN.out, HT2.out, HA2.out, HO2.out, fun _ _ => ⟨by rw [List.length_nil, fsB_zero]; exact MStep.refl HFR.out.2 HA2.out.z, by rw [List.length_nil, fsB_zero]; exact HC0.out.symm⟩⟩
    (fun k a' W => ∃ Bx, Blk W Bx 189 #[.int .i64 ((bkF L k).2.x : Int), .int .i64 (sd (bkF L k).2.rt : Int)] ∧ a' = { tmps := #[vTr V S T p, .int .i64 (ta.root : Int), .int .i64 (tb.root : Int), .pointer (some ⟨b, 0, none⟩), undef, undef, .int .i64 0, .slice av L.length vc, .pointer (some ⟨r8, 0, none⟩), undef, .pointer (some ⟨Bx, 0, none⟩), .tuple #[.slice av L.length vc, .int .i64 (c0 : Int)], vTr V S T p, .int .i64 (ta.root : Int), .int .i64 (tb.root : Int), .tuple #[.slice av L.length vc, .int .i64 (c0 : Int)], .slice av L.length vc, .int .i64 (c0 : Int), .slice av L.length vc, .func (.func 157) #[] #[.pointer (some ⟨Bs, 0, none⟩)], .int .i64 ((bkF L k).1 : Int), vTn (bkF L k).2.x (sd (bkF L k).2.rt), undef, undef, undef, undef, undef, undef, undef, undef, undef, undef], defers := [] })
    (fun k a' _ X Y row hs hg hr => by obtain ⟨Bx, h1, h2⟩ := hs; exact ⟨Bx, Blk.own h1 hg (fun r e => (hr r e).2), h2⟩)
    ?assign ?body ?done ?stop
  case assign =>
    rintro l pre x W K hI hK
    gi_wp2_with fail
    have hBW : Bs < W.heap.size := by obtain ⟨_, _, h0, _⟩ := hI; exact h0
    exact hK _ _ ((KeepsOthers.alloc _ _).from _) ⟨Below.heap_alloc W _ _ hBW, Below.heap_alloc W _ _ (by rw [hq]; have := HNE.out.2.2; omega)⟩ ((MgI.own (w0 := w) (B := W2.heap.size) (by have := HO2.out.size; omega)).alloc _ hI) ⟨W.heap.size, Blk.new _ _ _, rfl⟩
  case body =>
    rintro l pre x a' W hl ⟨r, hr⟩ hI ⟨Bx, hX, rfl⟩ hlt
    obtain ⟨g1, c, h0, hBc, hc, hT, hA, hO, hst⟩ := hI
    have hbase : w.heap.size ≤ r8 := by have := HW01.out; omega
    have HT3 := Lib.hid hT
    have HA3 := Lib.hid hA
    have HO3 := Lib.hid hO
    have HBc : Hid (Blk W r8 3 #[.int .i64 (c : Int)]) := Lib.hid hBc
    have HX3 := Lib.hid hX
    have HI0 := Lib.hid h0
    have HFO := Lib.hid (bkF_ok (nN_pos hA.hR) HFX.out x)
    have HPN : Hid (pre.length < L.length) := Lib.hid hlt
    have hMM : m + 3 * nN V S + 9 * pre.length ≤ 990000 := by have := HLL.out; omega
    obtain ⟨y0, y1, y2, y3, y4, y5⟩ := hT.cells
    have tlt := hT.lt
    have cc : W.cell? ⟨r8, 0, none⟩ = some (.int .i64 (c : Int)) := HBc.out.cell 0
    have clt := HBc.out.lt
    have xlt := hX.lt
    have x0 : W.cell? ⟨Bx, 0, none⟩ = some (.int .i64 ((bkF L x).2.x : Int)) := hX.cell 0
    have x1 : W.cell? ⟨Bx, 1, none⟩ = some (.int .i64 (sd (bkF L x).2.rt : Int)) := hX.cell 1
    have HST2 : Hid (∀ pre', pre' = pre ++ [x] → pre' = List.range pre'.length → pre'.length ≤ L.length → MStep (vxN V) mk g (hangG (vxN V) g1 (bkF L x).2.x (bkF L x).2.rt c) (plug (fsB L pre'.length) rest) ∧ (bkF L x).2.x = (plug (fsB L pre'.length) rest).root) := Lib.hid (by
      rintro pre' rfl hp hpl
      rw [List.length_append, List.length_singleton] at hp hpl ⊢
      rw [List.range_succ] at hp
      obtain ⟨hp1, hp2⟩ := List.append_inj' hp rfl
      have hx : x = pre.length := by simpa using hp2
      obtain ⟨s1, s2⟩ := hst hp1 (by omega)
      have hn2 := merge_next HMK.out (g1 := g1) (k := pre.length) HPL.out HFR.out.1 (by have := HSZ.out; omega) HND.out (fun y hy => (HNN.out y hy).1) (by omega) s1
      rw [hx]
      rw [← s2] at hn2
      refine ⟨hn2, ?_⟩
      rw [fsB_succ (by omega)]
      exact (Fr.join_root _ _).symm)
    obtain ⟨fx, hfx⟩ : ∃ fx, (bkF L x).2.x = fx := ⟨_, rfl⟩
    have HFX2 := Lib.hid hfx
    rw [hfx] at x0 HFO HST2
    rw [hfx]
    clear hT hA hO hBc hX hst h0 hlt
    generalize hrt : (bkF L x).2.rt = rt at x1 HST2 ⊢
    cases rt with
    | true =>
      have x1' : W.cell? ⟨Bx, 1, none⟩ = some (.int .i64 4) := x1
      clear x1
      gi_wp2_with fail
      refine ⟨trivial, ?_⟩
      refine (CallsIn.inRound l (callsIn_wide.2 (thang4 HA3.out ⟨HFO.out.1, HFO.out.2, hc⟩ (by omega)))).mono ?_; rintro e w5 ⟨rfl, A5, O5⟩
      have HA5 := Lib.hid A5
      have HO5 := Lib.hid O5
      have HT5 := Lib.hid (HT3.out.only HA3.out O5)
      have HBc5 := Lib.hid (HBc.out.treap HA3.out O5 (by decide) (by decide))
      have HX5 := Lib.hid (HX3.out.treap HA3.out O5 (by decide) (by decide))
      clear A5 O5 y0 y1 y2 y3 y4 y5 tlt cc clt xlt x0 x1'
      have x0 : w5.cell? ⟨Bx, 0, none⟩ = some (.int .i64 (fx : Int)) := by rw [← HFX2.out]; exact HX5.out.cell 0
      have xlt := HX5.out.lt
      have bc := HBc5.out.cell 0
      have fc := HBc5.out.frozen
      have clt := HBc5.out.lt
      gi_wp2_with fail
      have hq5 : q < W.heap.size := by have := HNE.out.2.2; have := HI0.out; omega
      refine ⟨(keepsFrom_only HA3.out HO5.out).trans ((KeepsOthers.setCell _ _ _).from _), ?_, ?_⟩
      · rw [hq]; exact (OnlyKp HO5.out HI0.out hq5 HNE.out.1.1 HNE.out.1.2.1 HNE.out.2.1.1 HNE.out.2.1.2.1).set HNE.out.1.2.2 HNE.out.2.1.2.2 _
      · exact ⟨_, fx, by have := HO5.out.size; have := HI0.out; simpa [World.setCell] using (by omega : Bs < w5.heap.size), HBc5.out.set_ 0 _, HFO.out.2, Blk.far HT5.out (Blk.ne_ HT5.out HBc5.out (by decide)) _, by rw [List.length_append, List.length_singleton, show m + 3 * nN V S + 9 * (pre.length + 1) = m + 3 * nN V S + 9 * pre.length + 9 by omega]; exact HA5.out.far HBc5.out (by decide) (by decide) _, (HO3.out.trans HO5.out).set_new hbase _, HST2.out _ rfl⟩
    | false =>
      have x1' : W.cell? ⟨Bx, 1, none⟩ = some (.int .i64 3) := x1
      clear x1
      gi_wp2_with fail
      refine ⟨trivial, ?_⟩
      refine (CallsIn.inRound l (callsIn_wide.2 (thang3 HA3.out ⟨HFO.out.1, HFO.out.2, hc⟩ (by omega)))).mono ?_; rintro e w5 ⟨rfl, A5, O5⟩
      have HA5 := Lib.hid A5
      have HO5 := Lib.hid O5
      have HT5 := Lib.hid (HT3.out.only HA3.out O5)
      have HBc5 := Lib.hid (HBc.out.treap HA3.out O5 (by decide) (by decide))
      have HX5 := Lib.hid (HX3.out.treap HA3.out O5 (by decide) (by decide))
      clear A5 O5 y0 y1 y2 y3 y4 y5 tlt cc clt xlt x0 x1'
      have x0 : w5.cell? ⟨Bx, 0, none⟩ = some (.int .i64 (fx : Int)) := by rw [← HFX2.out]; exact HX5.out.cell 0
      have xlt := HX5.out.lt
      have bc := HBc5.out.cell 0
      have fc := HBc5.out.frozen
      have clt := HBc5.out.lt
      gi_wp2_with fail
      have hq5 : q < W.heap.size := by have := HNE.out.2.2; have := HI0.out; omega
      refine ⟨(keepsFrom_only HA3.out HO5.out).trans ((KeepsOthers.setCell _ _ _).from _), ?_, ?_⟩
      · rw [hq]; exact (OnlyKp HO5.out HI0.out hq5 HNE.out.1.1 HNE.out.1.2.1 HNE.out.2.1.1 HNE.out.2.1.2.1).set HNE.out.1.2.2 HNE.out.2.1.2.2 _
      · exact ⟨_, fx, by have := HO5.out.size; have := HI0.out; simpa [World.setCell] using (by omega : Bs < w5.heap.size), HBc5.out.set_ 0 _, HFO.out.2, Blk.far HT5.out (Blk.ne_ HT5.out HBc5.out (by decide)) _, by rw [List.length_append, List.length_singleton, show m + 3 * nN V S + 9 * (pre.length + 1) = m + 3 * nN V S + 9 * pre.length + 9 by omega]; exact HA5.out.far HBc5.out (by decide) (by decide) _, (HO3.out.trans HO5.out).set_new hbase _, HST2.out _ rfl⟩
  case done =>
    rintro D ys W hD rfl hI hK
    obtain ⟨g1, c, h0, hBc, hc, hT, hA, hO, hst⟩ := hI
    obtain ⟨s1, s2⟩ := hst (by rw [List.length_range]) (by rw [List.length_range]; exact Nat.le_refl _)
    rw [List.length_range, fsB_all, HPL.out] at s1 s2
    have HS := Lib.hid (And.intro s1 s2)
    have HT3 := Lib.hid hT
    have HA3 := Lib.hid hA
    have HO3 := Lib.hid hO
    have HBc : Hid (Blk W r8 3 #[.int .i64 (c : Int)]) := Lib.hid hBc
    have HK := Lib.hid hK
    have HDD : Hid (Bs < D) := Lib.hid (by omega)
    obtain ⟨M, hM⟩ : ∃ M, m + 3 * nN V S + 9 * (List.range L.length).length = M := ⟨_, rfl⟩
    rw [hM] at HA3
    have hM1 : M ≤ m + 12 * nN V S := by rw [← hM, List.length_range]; have := HLL.out; omega
    obtain ⟨y0, y1, y2, y3, y4, y5⟩ := hT.cells
    have tlt := hT.lt
    have cc : W.cell? ⟨r8, 0, none⟩ = some (.int .i64 (c : Int)) := HBc.out.cell 0
    have clt := HBc.out.lt
    clear hT hA hO hBc hst s1 s2 hK hM
    gi_wp2_with fail
    refine ⟨trivial, ?_⟩
    refine (callsIn_wide.2 (tsetParent (v := 0) HA3.out hc (Nat.zero_le _) (by omega))).mono ?_; rintro e w6 ⟨rfl, A6, O6⟩
    have HA6 := Lib.hid A6
    have HO6 := Lib.hid (HO3.out.trans O6)
    have HBc6 := Lib.hid (HBc.out.treap HA3.out O6 (by decide) (by decide))
    have HK6 : Hid (w6.heap[D]? = some (.deferred (some []))) := Lib.hid ((O6.block D (Array.getElem?_eq_some_iff.1 HK.out).1 (by have := HNR.out; have := HDD.out; omega) (by have := HNR.out; have := HDD.out; omega)).trans HK.out)
    clear A6 O6 y0 y1 y2 y3 y4 y5 tlt cc clt HT3 HA3 HO3 HBc HK
    have cc : w6.cell? ⟨r8, 0, none⟩ = some (.int .i64 (c : Int)) := HBc6.out.cell 0
    have clt := HBc6.out.lt
    gi_wp2_with fail
    have HNP : Hid (D ≠ p ∧ D ≠ gb ∧ w.heap.size ≤ D) := Lib.hid ⟨by have := HNR.out; have := HDD.out; omega, by have := HNR.out; have := HDD.out; omega, by have := HW01.out; have := HDD.out; omega⟩
    have hgr := grownBy_putObj' w6 D (.deferred none)
    refine ⟨by simp, .inl ⟨_, _, rfl, run_takeDeferred HK6.out, ?_⟩⟩
    refine ⟨_, results_tmp rfl _ _ _, ?_⟩
    obtain ⟨s1, s2⟩ := HS.out
    obtain ⟨d1, d3, d4⟩ := merge_done s1 HND.out
    rw [← s2] at d1 d3 d4
    exact ⟨_, t0, by rw [← s2]; rfl, (HA6.out.grown hgr (by intro e; cases e; exact HNP.out.1 rfl) (by intro e; cases e; exact HNP.out.2.1 rfl)).more (by omega), HO6.out.grown hgr (by intro i e; cases e; exact HNP.out.2.2), d1, HROW.out, HHP.out, d3, d4⟩
  case stop =>
    rintro D c pre W _ _ h _
    exact h.elim
end

end Go.Proofs.YtdafnejphlcgdaaGreat

/- Contract of List. Printed by wip/tools/trps.py. -/
namespace Go.Proofs.YtdafnejphlcgdaaGreat
open Go.RowKit

set_option maxRecDepth 100000

/-- A slice cut behind. -/
theorem LI.cut {w : World} {a : Option Addr} {n cap y : Nat} {l : List Nat} (h : LI w (.slice a (n + 1) cap) (l ++ [y])) : LI w (.slice a n cap) l := by
  obtain ⟨a', cap', e, h1, h2, h3, h4⟩ := h
  injection e with e1 e2 e3
  subst e1 e3
  have hn : n = l.length := by simpa using e2
  subst hn
  refine ⟨a, cap, rfl, h1, by simp at h2; omega, h3, fun hc => ?_⟩
  obtain ⟨b, off, zs, rfl, hz, hs, hx⟩ := h4 hc
  exact ⟨b, off, zs, rfl, hz, hs, fun k x hk => hx k x (by rw [List.getElem?_append_left (List.getElem?_eq_some_iff.1 hk).1]; exact hk)⟩


end Go.Proofs.YtdafnejphlcgdaaGreat

/- The reference: contracts of above and Root. Printed by wip/tools/trpt.py. -/
namespace Go.Proofs.YtdafnejphlcgdaaGreat
open Go.RowKit

set_option maxRecDepth 100000

section
variable {w w' W : World} {b n : Nat} {pri mk : Nat → Nat} {vx : Nat → Bool}
theorem below_drewN {B : Nat} {a : World} (h : Below B a w) (k : Nat) : Below B a (w.drewN k) := ⟨h.os, h.tape, h.output, h.size, h.block⟩
end

end Go.Proofs.YtdafnejphlcgdaaGreat

/- The reference: contract of Root. Printed by wip/tools/trpu.py. -/
namespace Go.Proofs.YtdafnejphlcgdaaGreat
open Go.RowKit

set_option maxRecDepth 100000

section
variable {w w' W : World} {b pb n cp : Nat} {vr vm vv : Value} {pri : Nat → Nat}
/-- A row's two numbers. -/
theorem LI.two {v : Value} {l : List Nat} (h : LI w v l) {i j : Nat} (hi : i < l.length) (hj : j < l.length) : ∃ rb off cap, v = .slice (some ⟨rb, off, none⟩) l.length cap ∧ l.length ≤ cap ∧ rb < w.heap.size ∧ ∃ zs, Blk w rb 3 zs ∧ zs[off + i]? = some (.int .i64 ((l[i]?.getD 0 : Nat) : Int)) ∧ zs[off + j]? = some (.int .i64 ((l[j]?.getD 0 : Nat) : Int)) := by
  obtain ⟨a, cap, rfl, h1, h2, h3, h4⟩ := h
  obtain ⟨b, off, zs, rfl, hz, hs, hx⟩ := h4 (by omega)
  exact ⟨b, off, cap, rfl, h2, hz.lt, zs, hz, hx i _ (by rw [List.getElem?_eq_getElem hi]; rfl), hx j _ (by rw [List.getElem?_eq_getElem hj]; rfl)⟩

end

end Go.Proofs.YtdafnejphlcgdaaGreat

/- The reference: contract of tree. Printed by wip/tools/trpv.py. -/
namespace Go.Proofs.YtdafnejphlcgdaaGreat
open Go.RowKit

set_option maxRecDepth 100000

/-- What nodes must have: parent, left, right, size, vertices, marks, all. -/
abbrev Rec7 := Nat → Nat → Nat

end Go.Proofs.YtdafnejphlcgdaaGreat

/- Rows of rows in memory; the reference: contracts of Sum and Nodes. Printed by wip/tools/trpw.py. -/
namespace Go.Proofs.YtdafnejphlcgdaaGreat
open Go.RowKit

set_option maxRecDepth 100000



end Go.Proofs.YtdafnejphlcgdaaGreat

/- The reference: contract of Nodes. Printed by wip/tools/trpx.py. -/
namespace Go.Proofs.YtdafnejphlcgdaaGreat
open Go.RowKit

set_option maxRecDepth 100000


end Go.Proofs.YtdafnejphlcgdaaGreat

/- The law's play in memory; contracts of row and without. Printed by wip/tools/trpy.py. -/
namespace Go.Proofs.YtdafnejphlcgdaaGreat
open Go.RowKit

set_option maxRecDepth 100000

/-- Where a play lies. -/
structure PK9 where
  V : Int
  S : Int
  T : Int
  q : Nat
  p : Nat
  gb : Nat
  cap : Nat
  pb : Nat
  mb : Nat
  vb : Nat
  cp : Nat
  cm : Nat
  cv : Nat
  base : Nat
abbrev PK9.n (K : PK9) : Nat := nN K.V K.S
/-- Which of all numbers are vertices' (none is no vertex). -/
def vx0 (V : Int) (x : Nat) : Bool := decide (x ≠ 0) && vxN V x
theorem cntV_vx {vx vx' : Nat → Bool} : ∀ {l : List Nat}, (∀ x ∈ l, vx' x = vx x) → cntV vx' l = cntV vx l
  | [], _ => rfl
  | x :: l, h => by rw [cntV_cons, cntV_cons, h x (by simp), cntV_vx fun y hy => h y (by simp [hy])]
theorem Loose.vx {vx vx' : Nat → Bool} {mk : Nat → Nat} {g : Mg9} : ∀ {t : Tp}, Loose vx mk g t → (∀ x ∈ t.row, vx' x = vx x) → Loose vx' mk g t
  | .nil, _, _ => trivial
  | .node l x r, h, h1 => by
    obtain ⟨a, b, c, d, e, hl, hr⟩ := h
    exact ⟨a, b, by rw [c, sumT_node, sumT_node, cntV_vx h1], d, e, Loose.vx hl fun y hy => h1 y (by simp [Tp.row, hy]), Loose.vx hr fun y hy => h1 y (by simp [Tp.row, hy])⟩
/-- .. and what is right of it. -/
structure FI (V S : Int) (g : Mg9) (mk : Nat → Nat) (ts : List Tp) : Prop where
  hm : ∀ x, mk x < 4
  st : ∀ t ∈ ts, Stands (vxN V) mk g t ∧ Hp (fun z => g z 5) t ∧ t ≠ .nil
  nd : (ts.flatMap Tp.row).Nodup
  al : ∀ x, (x ≠ 0 ∧ x ≤ nN V S) ↔ ∃ t ∈ ts, x ∈ t.row

section
variable {w w' W : World} {K : PK9} {m m' : Nat} {g g' : Mg9} {mk : Nat → Nat} {ts : List Tp} {vr : Value} {vs : List Value}
theorem flat_len {V S : Int} (h : FI V S g mk ts) : (ts.flatMap Tp.row).length ≤ nN V S := by
  have h1 : (ts.flatMap Tp.row) ⊆ List.range' 1 (nN V S) := fun x hx => by
    obtain ⟨t, ht, hx⟩ := List.mem_flatMap.1 hx
    have := (h.al x).2 ⟨t, ht, hx⟩
    exact List.mem_range'.2 ⟨x - 1, by omega, by omega⟩
  have := h.nd.length_le_of_subset h1
  simpa using this
theorem FI.size {V S : Int} (h : FI V S g mk ts) {t : Tp} (ht : t ∈ ts) : t.size ≤ nN V S := by
  refine Nat.le_trans ?_ (flat_len h)
  obtain ⟨a, b, rfl⟩ := List.append_of_mem ht
  rw [List.flatMap_append, List.flatMap_cons]
  simp [Tp.size]; omega
theorem FI.len {V S : Int} (h : FI V S g mk ts) : ts.length ≤ nN V S := by
  refine Nat.le_trans ?_ (flat_len h)
  have h2 : ∀ l : List Tp, (∀ t ∈ l, t ≠ .nil) → l.length ≤ (l.flatMap Tp.row).length := by
    intro l
    induction l with
    | nil => simp
    | cons t l ih =>
      intro hl
      have := ih fun t' ht => hl t' (List.mem_cons_of_mem _ ht)
      rw [List.flatMap_cons, List.length_append, List.length_cons]
      have h0 : t.row ≠ [] := fun e => hl t (List.mem_cons_self ..) (Tp.row_eq_nil e)
      have := List.length_pos_iff.2 h0
      omega
  exact h2 ts fun t ht => (h.st t ht).2.2
theorem FI.nodes {V S : Int} (h : FI V S g mk ts) {t : Tp} (ht : t ∈ ts) : ∀ y ∈ t.row, y ≠ 0 ∧ y ≤ nN V S := fun y hy => (h.al y).2 ⟨t, ht, hy⟩
theorem FI.one {V S : Int} (h : FI V S g mk ts) {t : Tp} (ht : t ∈ ts) : t.row.Nodup := by
  have := h.nd
  obtain ⟨a, b, rfl⟩ := List.append_of_mem ht
  rw [List.flatMap_append, List.flatMap_cons, List.nodup_append, List.nodup_append] at this
  exact this.2.1.1

/-- A list without two places. -/
def wo {α : Type} (i k : Nat) : Nat → List α → List α
  | _, [] => []
  | j, x :: l => if j ≠ i ∧ j ≠ k then x :: wo i k (j + 1) l else wo i k (j + 1) l
end

end Go.Proofs.YtdafnejphlcgdaaGreat

/- The law's play: contracts of without and parent. Printed by wip/tools/trpz.py. -/
namespace Go.Proofs.YtdafnejphlcgdaaGreat
open Go.RowKit

set_option maxRecDepth 100000


end Go.Proofs.YtdafnejphlcgdaaGreat
