/- Ga: what BiPSound leans on. Printed by wip/tools/slim13.py. -/
import Derived.Test.YtaooglagddphnaaSZB
import Derived.Maps.Own
import Derived.WideKeyPair
import Derived.Test.YtaooglagddphnaaSZC
import Derived.Test.YtaooglagddphnaaSZF

namespace Go.Proofs.Ytaooglagddphnaa
open Go.RowKit

set_option maxRecDepth 100000

/-- The cell of two vertices; a slot's cell. -/
def eC (V S T : Int) (u v : Nat) : Nat := (edgeF V S T (u : Int) (v : Int)).toNat
def sC (S T : Int) (s k : Nat) : Nat := (slotF S T (s : Int) (k : Int)).toNat
def cellsE (V S T : Int) : Nat := (cn V S T).toNat
section
variable {V S T : Int} {u v u' v' s s' k k' : Nat}
theorem cellsE_int (h : Rt V S T) : ((cellsE V S T : Nat) : Int) = cn V S T := by
  have := sizes h
  have h1 := this.vn1; have h2 := this.pr1; have h3 := this.nd1; have h4 := h.s1; have h5 := h.t1
  unfold cellsE cn; omega
theorem eC_spec (hu : (u : Int) < V) (hv : (v : Int) < V) (hne : u ≠ v) : edgeF V S T (u : Int) (v : Int) = o4 V S T + (ahF V (min (u : Int) v) + max (u : Int) v - min (u : Int) v - 1) ∧ 0 ≤ ahF V (min (u : Int) v) + max (u : Int) v - min (u : Int) v - 1 ∧ ahF V (min (u : Int) v) + max (u : Int) v - min (u : Int) v - 1 < pr V :=
  (edge_spec (V := V) (S := S) (T := T) u v).1 (by omega)
theorem o4_pos (h : Rt V S T) : 0 ≤ o4 V S T := by
  have := (sizes h).vn1; have h4 := h.s1; have h5 := h.t1
  unfold o4; omega
theorem eC_int (h : Rt V S T) (hu : (u : Int) < V) (hv : (v : Int) < V) (hne : u ≠ v) : edgeF V S T (u : Int) (v : Int) = ((eC V S T u v : Nat) : Int) := by
  have h1 := eC_spec (S := S) (T := T) hu hv hne
  have h2 := o4_pos h
  unfold eC; omega
theorem eC_lo (h : Rt V S T) (hu : (u : Int) < V) (hv : (v : Int) < V) (hne : u ≠ v) : o4 V S T ≤ ((eC V S T u v : Nat) : Int) ∧ ((eC V S T u v : Nat) : Int) < o4 V S T + pr V := by
  have h1 := eC_spec (S := S) (T := T) hu hv hne
  have h2 := eC_int h hu hv hne
  omega
theorem eC_lt (h : Rt V S T) (hu : (u : Int) < V) (hv : (v : Int) < V) (hne : u ≠ v) : eC V S T u v < cellsE V S T := by
  have h1 := eC_lo h hu hv hne
  have h2 := cellsE_int h
  have h3 := (sizes h).nd1
  unfold cn at h2; unfold o4 at h1; omega
theorem sC_spec (hs : (s : Int) < S) (hk : k < 7) : slotF S T (s : Int) (k : Int) = T + 1 + s * 7 + k := if_pos (by omega)
theorem sC_int (h : Rt V S T) (hs : (s : Int) < S) (hk : k < 7) : slotF S T (s : Int) (k : Int) = ((sC S T s k : Nat) : Int) := by
  have h1 := sC_spec (T := T) hs hk
  have h2 := h.t1
  unfold sC; omega
theorem sC_lt (h : Rt V S T) (hs : (s : Int) < S) (hk : k < 7) : sC S T s k < cellsE V S T := by
  have h1 := sC_spec (T := T) hs hk
  have h2 := sC_int h hs hk
  have h3 := cellsE_int h
  have := sizes h
  have h4 := this.vn1; have h5 := this.pr1; have h6 := this.nd1
  unfold cn at h3; omega
end

/-- An edge, and its slot. -/
structure E1 where
  s : Nat
  u : Nat
  v : Nat
  l : Nat
  t : Bool
def bN (b : Bool) : Nat := if b then 1 else 0
theorem bN_le (b : Bool) : bN b ≤ 1 := by cases b <;> decide
/-- What the cell of an edge's vertices has. -/
def eV (s : Nat) (t : Bool) : Int := (((s + 1) * 2 + bN t : Nat) : Int)
def nV (u v : Nat) : Int := ((u * 256 + v : Nat) : Int)
/-- The memory tells just these edges. -/
structure ER (V S T : Int) (f : Nat → Int) (l : List E1) : Prop where
  ok : ∀ e ∈ l, e.u < e.v ∧ (e.v : Int) < V ∧ (e.s : Int) < S ∧ (e.l : Int) < lv V
  un : l.Pairwise fun a b => a.s ≠ b.s ∧ ¬ (a.u = b.u ∧ a.v = b.v)
  is : ∀ e ∈ l, f (eC V S T e.u e.v) = eV e.s e.t ∧ f (sC S T e.s 1) = nV e.u e.v ∧ f (sC S T e.s 2) = (e.l : Int)
  no : ∀ u v : Nat, u < v → (v : Int) < V → (∀ e ∈ l, ¬ (e.u = u ∧ e.v = v)) → f (eC V S T u v) = 0
section
variable {V S T : Int} {f : Nat → Int} {l : List E1} {x y : E1} {i j : Nat}
/-- Memory without edges. -/
theorem ER.nil (h : ∀ k, f k = 0) : ER V S T f [] := ⟨fun _ h => (nomatch h), List.Pairwise.nil, fun _ h => (nomatch h), fun _ _ _ _ _ => h _⟩
theorem mem_set_of {α : Type} {l : List α} {i : Nat} {x y : α} (h : y ∈ l.set i x) : y = x ∨ ∃ j, j ≠ i ∧ l[j]? = some y := by
  obtain ⟨j, hj⟩ := List.mem_iff_getElem?.1 h
  rw [List.getElem?_set] at hj
  split at hj
  · split at hj
    · injection hj with hj; exact .inl hj.symm
    · cases hj
  · exact .inr ⟨j, fun e => by simp_all, hj⟩
end
end Go.Proofs.Ytaooglagddphnaa

namespace Go.Proofs.Ytaooglagddphnaa
open Go.RowKit

set_option maxRecDepth 100000

/-- A memory of a lay's cells. -/
def EM (w : World) (V S T : Int) (p gb cap m : Nat) (f : Nat → Int) : Prop := Rt V S T ∧ ∃ c, Ar w p gb (cellsE V S T) cap c f ∧ CB c m
section
variable {w w' w0 : World} {V S T : Int} {p gb cap m m' b k : Nat} {f : Nat → Int}
theorem EM.hR (h : EM w V S T p gb cap m f) : Rt V S T := h.1
theorem EM.below (h : EM w V S T p gb cap m f) (hb : Below w.heap.size w w') : EM w' V S T p gb cap m f := by
  obtain ⟨h1, c, A, C⟩ := h
  exact ⟨h1, c, A.below hb (Nat.le_refl _), C⟩
theorem EM.drew (h : EM w V S T p gb cap m f) : EM w.drew V S T p gb cap m f := h.below (Below.refl _ _).drew
theorem EM.more (h : EM w V S T p gb cap m f) (hm : m ≤ m') : EM w V S T p gb cap m' f := by
  obtain ⟨h1, c, A, C⟩ := h
  exact ⟨h1, c, A, C.more hm⟩
theorem EM.p_lt (h : EM w V S T p gb cap m f) : p < w.heap.size := by obtain ⟨_, _, A, _⟩ := h; exact A.p_lt
theorem EM.g_lt (h : EM w V S T p gb cap m f) : gb < w.heap.size := by obtain ⟨_, _, A, _⟩ := h; exact A.g_lt
theorem Blk.em {q : Nat} {ty : TypeId} {cs : Array Value} (h : Blk w q ty cs) (A : EM w V S T p gb cap m f) (ho : Only p gb w w') (h1 : ty ≠ 118) (h2 : ty ≠ 51) : Blk w' q ty cs := by
  obtain ⟨_, _, A, _⟩ := A
  obtain ⟨zs, hz, _⟩ := A.cells
  exact h.only ho (Blk.ne_ h A.own h1) (Blk.ne_ h hz h2)
theorem em_store (h : EM w V S T p gb cap m f) (hk : k < cellsE V S T) {x : Int} (hx0 : 0 ≤ x) (hx1 : x ≤ 18446744073709551615) (hb : m ≤ 100000000) {kI : Int} (hI : kI = (k : Int)) :
    Calls Try.prog 166 #[pmV p, .int .i64 kI, .int .u64 x] w fun e w' => e = .returned (.tuple #[]) ∧ EM w' V S T p gb cap (m + 1) (upd f k x) ∧ Only p gb w w' := by
  subst hI
  obtain ⟨h1, c, A, C⟩ := h
  refine (pm_store A hk hx0 hx1 C hb).mono ?_
  rintro e w' ⟨rfl, A2, O2⟩
  exact ⟨rfl, ⟨h1, _, A2, C.upd 1⟩, O2⟩
end

end Go.Proofs.Ytaooglagddphnaa

namespace Go.Proofs.Ytaooglagddphnaa
open Go.RowKit

set_option maxRecDepth 100000

/-- Block b is a map of at most n entries: these. -/
def FM (k : TypeId) (w : World) (b n : Nat) (G : Value → Value → Prop) : Prop :=
  ∃ es clock, w.heap[b]? = some (.map es clock) ∧ es.size ≤ n ∧ (∀ e ∈ es.toList, ∃ l, keyOf Try.prog k e.key = some l) ∧ es.toList.Pairwise (fun a c => a.key ≠ c.key) ∧ ∀ key val, G key val ↔ ∃ e ∈ es.toList, e.key = key ∧ e.val = val
section
variable {k t e : TypeId} {w w' : World} {b n : Nat} {G G' : Value → Value → Prop} {key v z : Value} {kl : Lit}
theorem FM.made (k : TypeId) (w : World) : FM k (w.alloc (.map #[] 0)) w.heap.size 0 fun _ _ => False :=
  ⟨#[], 0, (MapKept.heap_alloc w _).1, Nat.le_refl _, by simp, by simp, by simp⟩
theorem FM.lt (h : FM k w b n G) : b < w.heap.size := by
  obtain ⟨es, clock, hb, _⟩ := h
  exact (Array.getElem?_eq_some_iff.1 hb).1
theorem FM.keep (h : FM k w b n G) (hb : w'.heap[b]? = w.heap[b]?) : FM k w' b n G := by
  obtain ⟨es, clock, h1, r⟩ := h
  exact ⟨es, clock, hb.trans h1, r⟩
theorem FM.ne_blk (h : FM k w b n G) {i : Nat} {ty : TypeId} {cs : Array Value} (hi : Blk w i ty cs) : b ≠ i := by
  rintro rfl
  obtain ⟨es, clock, h1, _⟩ := h
  unfold Blk at hi
  rw [hi] at h1
  cases h1
theorem FM.look_some (c : Bool) (h : FM k w b n G) (K : Go.Maps.Keyed Try.prog k) (ht : Try.prog.underlying t = some (.map k e)) (hkey : keyOf Try.prog k key = some kl) (hG : G key v) :
    (Instr.lookup t (.map (some b)) key c).run Try.prog w = .ok (if c then .tuple #[v, .bool true] else v) w := by
  obtain ⟨es, clock, hb, _, h1, h2, h3⟩ := h
  obtain ⟨e1, m1, k1, v1⟩ := (h3 key v).1 hG
  rcases K.find w hkey es.toList h1 with ⟨_, f2⟩ | ⟨j, e0, f1, f2, f3⟩
  · exact absurd k1 (f2 e1 m1)
  · have m0 : e0 ∈ es.toList := List.mem_of_getElem? f2
    have e01 : e0 = e1 := by
      obtain ⟨i, hi⟩ := List.mem_iff_getElem?.1 m1
      rcases Nat.lt_trichotomy i j with c | c | c
      · have ⟨g1, g2⟩ := List.getElem?_eq_some_iff.1 hi
        have ⟨g3, g4⟩ := List.getElem?_eq_some_iff.1 f2
        have := List.pairwise_iff_getElem.1 h2 i j g1 g3 c
        rw [g2, g4, k1, f3] at this; exact absurd rfl this
      · subst c; rw [hi] at f2; injection f2 with f2; exact f2.symm
      · have ⟨g1, g2⟩ := List.getElem?_eq_some_iff.1 hi
        have ⟨g3, g4⟩ := List.getElem?_eq_some_iff.1 f2
        have := List.pairwise_iff_getElem.1 h2 j i g3 g1 c
        rw [g2, g4, k1, f3] at this; exact absurd rfl this
    have hv : e0.val = v := by rw [e01]; exact v1
    simp [Instr.lookup, run_underlying ht, MapKept.run_getObj_map hb, K.check w _ hkey, f1, Result.andThen, hv]
theorem FM.store (h : FM k w b n G) (K : Go.Maps.Keyed Try.prog k) (ht : Try.prog.underlying t = some (.map k e)) (hkey : keyOf Try.prog k key = some kl) (hG : ∀ x u, G' x u ↔ (x = key ∧ u = v) ∨ (x ≠ key ∧ G x u)) :
    ∃ w', (Instr.mapUpdate t (.map (some b)) key v).run Try.prog w = .ok () w' ∧ FM k w' b (n + 1) G' ∧ w.grownBy w' (some b) := by
  obtain ⟨es, clock, hb, hsz, h1, h2, h3⟩ := h
  have gr : ∀ o, w.grownBy (ChangeMaps.setBlock w b o) (some b) := fun o => ⟨rfl, rfl, rfl, by simp [ChangeMaps.setBlock], fun i _ hi => ChangeMaps.heap_setBlock_other hb _ (fun e => hi (by rw [e]))⟩
  rcases K.find w hkey es.toList h1 with ⟨f1, f2⟩ | ⟨j, e0, f1, f2, f3⟩
  · refine ⟨ChangeMaps.setBlock w b (.map (es.push ⟨key, v, clock⟩) (clock + 1)), ?_, ⟨es.push ⟨key, v, clock⟩, clock + 1, ChangeMaps.heap_setBlock_same hb _, by simp; omega, ?_, ?_, ?_⟩, gr _⟩
    · simp [Instr.mapUpdate, run_underlying ht, MapKept.run_getObj_map hb, K.check w false hkey, f1, MapKept.run_setObj_map _ hb, Result.andThen, ChangeMaps.setBlock]
    · intro x hx
      simp only [Array.toList_push, List.mem_append, List.mem_singleton] at hx
      rcases hx with hx | rfl
      · exact h1 x hx
      · exact ⟨_, hkey⟩
    · rw [Array.toList_push]
      exact List.pairwise_append.2 ⟨h2, List.pairwise_singleton _ _, fun a ha c hc => by rw [List.mem_singleton.1 hc]; exact f2 a ha⟩
    · intro x u
      rw [hG, h3, Array.toList_push]
      constructor
      · rintro (⟨e1, e2⟩ | ⟨_, y, hy, e1, e2⟩)
        · exact ⟨_, List.mem_append_right _ (List.mem_singleton.2 rfl), e1.symm, e2.symm⟩
        · exact ⟨y, List.mem_append_left _ hy, e1, e2⟩
      · rintro ⟨y, hy, e1, e2⟩
        rcases List.mem_append.1 hy with hy | hy
        · exact .inr ⟨fun e => f2 y hy (e1.trans e), y, hy, e1, e2⟩
        · rw [List.mem_singleton.1 hy] at e1 e2; exact .inl ⟨e1.symm, e2.symm⟩
  · have hj : es[j]? = some e0 := by simpa using f2
    have hjl := (List.getElem?_eq_some_iff.1 f2).1
    have hlist : (es.modify j (fun e' => { e' with key := key, val := v })).toList = es.toList.set j { e0 with key := key, val := v } := by rw [Array.toList_modify, ChangeMaps.modify_eq_set _ _ _ _ f2]
    have other : ∀ i y, i ≠ j → es.toList[i]? = some y → y.key ≠ key := fun i y hi hy e => by
      have ⟨g1, g2⟩ := List.getElem?_eq_some_iff.1 hy
      have ⟨g3, g4⟩ := List.getElem?_eq_some_iff.1 f2
      rcases Nat.lt_or_gt_of_ne hi with c | c
      · have := List.pairwise_iff_getElem.1 h2 i j g1 g3 c
        rw [g2, g4, e, f3] at this; exact this rfl
      · have := List.pairwise_iff_getElem.1 h2 j i g3 g1 c
        rw [g2, g4, e, f3] at this; exact this rfl
    refine ⟨ChangeMaps.setBlock w b (.map (es.modify j (fun e' => { e' with key := key, val := v })) clock), ?_, ⟨_, clock, ChangeMaps.heap_setBlock_same hb _, by simp; omega, ?_, ?_, ?_⟩, gr _⟩
    · simp [Instr.mapUpdate, run_underlying ht, MapKept.run_getObj_map hb, K.check w false hkey, f1, hj, f3, K.stays w hkey, MapKept.run_setObj_map _ hb, Result.andThen, ChangeMaps.setBlock]
    · intro x hx
      rw [hlist] at hx
      rcases mem_set_of hx with rfl | ⟨i, _, hi⟩
      · exact ⟨_, hkey⟩
      · exact h1 x (List.mem_of_getElem? hi)
    · rw [hlist, List.pairwise_iff_getElem]
      intro i1 i2 g1 g2 hlt
      rw [List.length_set] at g1 g2
      rw [List.getElem_set, List.getElem_set]
      by_cases c1 : j = i1
      · rw [if_pos c1, if_neg (by omega)]
        exact fun e => other i2 _ (by omega) (List.getElem?_eq_getElem g2) e.symm
      · rw [if_neg c1]
        by_cases c2 : j = i2
        · rw [if_pos c2]
          exact fun e => other i1 _ (by omega) (List.getElem?_eq_getElem g1) e
        · rw [if_neg c2]; exact List.pairwise_iff_getElem.1 h2 i1 i2 g1 g2 hlt
    · intro x u
      rw [hG, h3, hlist]
      constructor
      · rintro (⟨e1, e2⟩ | ⟨hne, y, hy, e1, e2⟩)
        · exact ⟨_, List.mem_iff_getElem?.2 ⟨j, List.getElem?_set_self hjl⟩, e1.symm, e2.symm⟩
        · obtain ⟨i, hi⟩ := List.mem_iff_getElem?.1 hy
          have hij : i ≠ j := fun e => by
            subst e; rw [f2] at hi; injection hi with hi; subst hi; exact hne (e1.symm.trans f3)
          exact ⟨y, List.mem_iff_getElem?.2 ⟨i, by rw [List.getElem?_set_ne (Ne.symm hij)]; exact hi⟩, e1, e2⟩
      · rintro ⟨y, hy, e1, e2⟩
        rcases mem_set_of hy with rfl | ⟨i, hij, hi⟩
        · exact .inl ⟨e1.symm, e2.symm⟩
        · exact .inr ⟨fun e => other i y hij hi (e1.trans e), y, List.mem_of_getElem? hi, e1, e2⟩
end
end Go.Proofs.Ytaooglagddphnaa

namespace Go.Proofs.Ytaooglagddphnaa
open Go.RowKit

theorem LI.at {w : World} {a : Option Addr} {n c k x : Nat} {l : List Nat} (h : LI w (.slice a n c) l) (hx : l[k]? = some x) : ∃ b off, a = some ⟨b, off, none⟩ ∧ w.cell? ⟨b, off + k, none⟩ = some (.int .i64 (x : Int)) := by
  obtain ⟨a', cap, e, h1, h2, h3, h4⟩ := h
  injection e with e1 e2 e3
  subst e1 e3
  have hk := (List.getElem?_eq_some_iff.1 hx).1
  obtain ⟨b, off, zs, rfl, hz, hs, he⟩ := h4 (by omega)
  exact ⟨b, off, rfl, (hz.cell (off + k)).trans (he k x hx)⟩
end Go.Proofs.Ytaooglagddphnaa

namespace Go.Proofs.Ytaooglagddphnaa
open Go.RowKit

set_option maxRecDepth 100000

/-- A cell that is no node's. -/
def rs (V S : Int) (g : Mg9) (i : Nat) : Int := (g (nN V S + 1 + i) 5 : Int)
section
variable {V S T : Int} {w w' : World} {p gb cap m m' : Nat} {f f' : Nat → Int} {g : Mg9} {ls : List E1}
theorem far_node (h : Rt V S T) {i : Nat} (hi : (i : Int) < o5 V S T) : ∀ x k, 1 ≤ x → x ≤ nN V S → 2 ≤ k → k ≤ 6 → i ≠ cN V S T x k := by
  intro x k h1 _ _ _ e
  have := cN_int (k := k) h h1
  omega
theorem Rl.rest (r : Rl V S T f g) (hR : Rt V S T) {i : Nat} (hi : (i : Int) < o5 V S T) : f i = rs V S g i := r.o i (far_node hR hi)
theorem o5_cells (h : Rt V S T) {i : Nat} (hi : (i : Int) < o5 V S T) : i < cellsE V S T := by
  have h1 := cellsE_int h
  have h2 := (sizes h).nd1
  have h3 : cn V S T = o5 V S T + nd V S * 7 := by unfold cn o5; omega
  omega
/-- Edges are told by cells that are no node's. -/
theorem ER.beside (h : ER V S T f ls) (hR : Rt V S T) (he : ∀ i : Nat, (i : Int) < o5 V S T → f' i = f i) : ER V S T f' ls := by
  have e1 : ∀ u v : Nat, (u : Int) < V → (v : Int) < V → u ≠ v → f' (eC V S T u v) = f (eC V S T u v) := fun u v hu hv hne => he _ (by
    have := eC_lo hR hu hv hne
    have e : o4 V S T + pr V = o5 V S T := by unfold o4 o5; omega
    omega)
  have e2 : ∀ s k : Nat, (s : Int) < S → k < 7 → f' (sC S T s k) = f (sC S T s k) := fun s k hs hk => he _ (by
    have h1 := sC_spec (T := T) hs hk
    have h2 := sC_int hR hs hk
    have h3 := (sizes hR).vn1
    have h4 := (sizes hR).pr1
    unfold o5
    omega)
  refine ⟨h.ok, h.un, fun e hx => ?_, fun u v huv hv hn => ?_⟩
  · obtain ⟨a, b, c, d⟩ := h.ok e hx
    rw [e1 e.u e.v (by omega) b (by omega), e2 e.s 1 c (by omega), e2 e.s 2 c (by omega)]
    exact h.is e hx
  · rw [e1 u v (by omega) hv (by omega)]; exact h.no u v huv hv hn
end
end Go.Proofs.Ytaooglagddphnaa

namespace Go.Proofs.Ytaooglagddphnaa
open Go.RowKit

set_option maxRecDepth 100000

section
variable {V S T : Int} {w w' : World} {p gb cap m m' s u v l : Nat} {t t2 : Bool} {f f' : Nat → Int} {g g' g2 : Mg9} {ls : List E1} {mk : Nat → Nat} {ts : List Tp}
theorem sC_o5 {k : Nat} (hR : Rt V S T) (hs : (s : Int) < S) (hk : k < 7) : ((sC S T s k : Nat) : Int) < o5 V S T := by
  have h1 := sC_spec (T := T) hs hk
  have h2 := sC_int hR hs hk
  have h3 := (sizes hR).vn1
  have h4 := (sizes hR).pr1
  unfold o5
  omega
end
end Go.Proofs.Ytaooglagddphnaa

namespace Go.Proofs.Ytaooglagddphnaa
open Go.RowKit

/-- A side's cells. (Sides as cells have them: from 1 on.) -/
def nxC (S T : Int) (x : Nat) : Nat := sC S T ((x - 1) / 2) (3 + (x - 1) % 2)
def pvC (S T : Int) (x : Nat) : Nat := sC S T ((x - 1) / 2) (5 + (x - 1) % 2)
def hC (V S T : Int) (v l : Nat) : Nat := (headF V S T (v : Int) (l : Int)).toNat
/-- From a, at x, through l, to b, at y. -/
def Part (S T : Int) (f : Nat → Int) : Nat → Nat → List Nat → Nat → Nat → Prop
  | a, x, [], b, y => a = b ∧ x = y
  | a, x, z :: l, b, y => x = z ∧ z ≠ 0 ∧ f (pvC S T z) = (a : Int) ∧ ∃ n : Nat, f (nxC S T z) = (n : Int) ∧ Part S T f z n l b y
section
variable {S T : Int} {f f' : Nat → Int} {a x b y c z n : Nat} {l l1 l2 : List Nat}
theorem Part.cong : ∀ {l : List Nat} {a x : Nat}, Part S T f a x l b y → (∀ z ∈ l, f' (pvC S T z) = f (pvC S T z) ∧ f' (nxC S T z) = f (nxC S T z)) → Part S T f' a x l b y
  | [], _, _, h, _ => h
  | z :: l, a, x, ⟨h1, h2, h3, n, h4, h5⟩, e => ⟨h1, h2, (e z (by simp)).1.trans h3, n, (e z (by simp)).2.trans h4, h5.cong fun z' hz => e z' (by simp [hz])⟩
theorem Part.split : ∀ {l1 : List Nat} {a x : Nat}, Part S T f a x (l1 ++ l2) c z → ∃ b y, Part S T f a x l1 b y ∧ Part S T f b y l2 c z
  | [], a, x, h => ⟨a, x, ⟨rfl, rfl⟩, h⟩
  | _ :: _, _, _, ⟨h1, h2, h3, n, h4, h5⟩ => by
    obtain ⟨b, y, h6, h7⟩ := h5.split
    exact ⟨b, y, ⟨h1, h2, h3, n, h4, h6⟩, h7⟩
/-- The one that one comes from is the last one of what was gone through. -/
theorem Part.last : ∀ {l : List Nat} {a x : Nat}, Part S T f a x l b y → b = l.getLast?.getD a
  | [], _, _, ⟨h, _⟩ => h.symm
  | z :: l, a, x, ⟨_, _, _, n, _, h5⟩ => by
    have := h5.last
    rw [this, List.getLast?_cons]
    cases l.getLast? <;> rfl
theorem Part.head' (h : Part S T f a x l b 0) : x = l.headD 0 := by
  cases l with
  | nil => exact h.2
  | cons z l => exact h.1
end
end Go.Proofs.Ytaooglagddphnaa
