/- Ga: what LfPSmaller leans on. Printed by wip/tools/slim13.py. -/
import Derived.Test.YtdafnejphlcgdaaGreatSaZB
import Derived.Test.YtdafnejphlcgdaaGreatSaZC
import Derived.Test.YtdafnejphlcgdaaGreatSaZF
import Derived.Maps.Own
import Derived.WideKeyPair

namespace Go.Proofs.YtdafnejphlcgdaaGreat
open Go.RowKit

theorem LI.at {w : World} {a : Option Addr} {n c k x : Nat} {l : List Nat} (h : LI w (.slice a n c) l) (hx : l[k]? = some x) : ∃ b off, a = some ⟨b, off, none⟩ ∧ w.cell? ⟨b, off + k, none⟩ = some (.int .i64 (x : Int)) := by
  obtain ⟨a', cap, e, h1, h2, h3, h4⟩ := h
  injection e with e1 e2 e3
  subst e1 e3
  have hk := (List.getElem?_eq_some_iff.1 hx).1
  obtain ⟨b, off, zs, rfl, hz, hs, he⟩ := h4 (by omega)
  exact ⟨b, off, rfl, (hz.cell (off + k)).trans (he k x hx)⟩
end Go.Proofs.YtdafnejphlcgdaaGreat

namespace Go.Proofs.YtdafnejphlcgdaaGreat
open Go.RowKit

set_option maxRecDepth 100000

/-- The cell of two vertices; a slot's cell. -/
def eC (V S T : Int) (u v : Nat) : Nat := (edgeF V S T (u : Int) (v : Int)).toNat
def sC (S T : Int) (s k : Nat) : Nat := (slotF S T (s : Int) (k : Int)).toNat
def cellsE (V S T : Int) : Nat := (cn V S T).toNat
section
variable {V S T : Int} {u v u' v' s s' k k' : Nat}
theorem cellsE_int (h : Rt V S T) : ((cellsE V S T : Nat) : Int) = cn V S T := by
  have := sizes h
  have h1 := this.vn1; have h2 := this.pr1; have h3 := this.nd1; have h4 := h.s1; have h5 := h.t1
  unfold cellsE cn; omega
theorem eC_spec (hu : (u : Int) < V) (hv : (v : Int) < V) (hne : u ≠ v) : edgeF V S T (u : Int) (v : Int) = o4 V S T + (ahF V (min (u : Int) v) + max (u : Int) v - min (u : Int) v - 1) ∧ 0 ≤ ahF V (min (u : Int) v) + max (u : Int) v - min (u : Int) v - 1 ∧ ahF V (min (u : Int) v) + max (u : Int) v - min (u : Int) v - 1 < pr V :=
  (edge_spec (V := V) (S := S) (T := T) u v).1 (by omega)
theorem o4_pos (h : Rt V S T) : 0 ≤ o4 V S T := by
  have := (sizes h).vn1; have h4 := h.s1; have h5 := h.t1
  unfold o4; omega
theorem eC_int (h : Rt V S T) (hu : (u : Int) < V) (hv : (v : Int) < V) (hne : u ≠ v) : edgeF V S T (u : Int) (v : Int) = ((eC V S T u v : Nat) : Int) := by
  have h1 := eC_spec (S := S) (T := T) hu hv hne
  have h2 := o4_pos h
  unfold eC; omega
theorem eC_lo (h : Rt V S T) (hu : (u : Int) < V) (hv : (v : Int) < V) (hne : u ≠ v) : o4 V S T ≤ ((eC V S T u v : Nat) : Int) ∧ ((eC V S T u v : Nat) : Int) < o4 V S T + pr V := by
  have h1 := eC_spec (S := S) (T := T) hu hv hne
  have h2 := eC_int h hu hv hne
  omega
theorem eC_lt (h : Rt V S T) (hu : (u : Int) < V) (hv : (v : Int) < V) (hne : u ≠ v) : eC V S T u v < cellsE V S T := by
  have h1 := eC_lo h hu hv hne
  have h2 := cellsE_int h
  have h3 := (sizes h).nd1
  unfold cn at h2; unfold o4 at h1; omega
theorem eC_turn (u v : Nat) : eC V S T u v = eC V S T v u := by
  have e1 : min (u : Int) v = min (v : Int) u := by omega
  have e2 : max (u : Int) v = max (v : Int) u := by omega
  unfold eC edgeF
  rw [e1, e2]
  by_cases h : (u : Int) = v
  · rw [h]
  · have : (v : Int) ≠ u := fun e => h e.symm
    simp [h, this]
theorem eC_minmax (u v : Nat) : eC V S T (min u v) (max u v) = eC V S T u v := by
  by_cases h : u ≤ v
  · rw [Nat.min_eq_left h, Nat.max_eq_right h]
  · rw [Nat.min_eq_right (by omega), Nat.max_eq_left (by omega), eC_turn]
theorem eC_inj (h : Rt V S T) (hu : (u : Int) < V) (hv : (v : Int) < V) (hne : u < v) (hu' : (u' : Int) < V) (hv' : (v' : Int) < V) (hne' : u' < v') (e : eC V S T u v = eC V S T u' v') : u = u' ∧ v = v' := by
  have h1 := eC_int h hu hv (by omega)
  have h2 := eC_int h hu' hv' (by omega)
  have e2 : edgeF V S T (u : Int) v = edgeF V S T (u' : Int) v' := by rw [h1, h2, e]
  have h3 := edge_inj (by omega) e2
  have h4 := (eC_spec (S := S) (T := T) hu hv (by omega)).1
  have h5 := (eC_spec (S := S) (T := T) hu' hv' (by omega)).1
  rw [h4, h5, h3] at e2
  omega
theorem sC_spec (hs : (s : Int) < S) (hk : k < 7) : slotF S T (s : Int) (k : Int) = T + 1 + s * 7 + k := if_pos (by omega)
theorem sC_int (h : Rt V S T) (hs : (s : Int) < S) (hk : k < 7) : slotF S T (s : Int) (k : Int) = ((sC S T s k : Nat) : Int) := by
  have h1 := sC_spec (T := T) hs hk
  have h2 := h.t1
  unfold sC; omega
theorem sC_lt (h : Rt V S T) (hs : (s : Int) < S) (hk : k < 7) : sC S T s k < cellsE V S T := by
  have h1 := sC_spec (T := T) hs hk
  have h2 := sC_int h hs hk
  have h3 := cellsE_int h
  have := sizes h
  have h4 := this.vn1; have h5 := this.pr1; have h6 := this.nd1
  unfold cn at h3; omega
theorem sC_inj (h : Rt V S T) (hs : (s : Int) < S) (hk : k < 7) (hs' : (s' : Int) < S) (hk' : k' < 7) (e : sC S T s k = sC S T s' k') : s = s' ∧ k = k' := by
  have h1 := sC_spec (T := T) hs hk
  have h2 := sC_int h hs hk
  have h3 := sC_spec (T := T) hs' hk'
  have h4 := sC_int h hs' hk'
  omega
theorem sC_eC (h : Rt V S T) (hs : (s : Int) < S) (hk : k < 7) (hu : (u : Int) < V) (hv : (v : Int) < V) (hne : u ≠ v) : sC S T s k ≠ eC V S T u v := fun e => by
  have h1 := sC_spec (T := T) hs hk
  have h2 := sC_int h hs hk
  have h3 := eC_lo h hu hv hne
  have h4 := (sizes h).vn1
  unfold o4 at h3; omega
end

/-- An edge, and its slot. -/
structure E1 where
  s : Nat
  u : Nat
  v : Nat
  l : Nat
  t : Bool
def bN (b : Bool) : Nat := if b then 1 else 0
theorem bN_le (b : Bool) : bN b ≤ 1 := by cases b <;> decide
/-- What the cell of an edge's vertices has. -/
def eV (s : Nat) (t : Bool) : Int := (((s + 1) * 2 + bN t : Nat) : Int)
def nV (u v : Nat) : Int := ((u * 256 + v : Nat) : Int)
/-- The memory tells just these edges. -/
structure ER (V S T : Int) (f : Nat → Int) (l : List E1) : Prop where
  ok : ∀ e ∈ l, e.u < e.v ∧ (e.v : Int) < V ∧ (e.s : Int) < S ∧ (e.l : Int) < lv V
  un : l.Pairwise fun a b => a.s ≠ b.s ∧ ¬ (a.u = b.u ∧ a.v = b.v)
  is : ∀ e ∈ l, f (eC V S T e.u e.v) = eV e.s e.t ∧ f (sC S T e.s 1) = nV e.u e.v ∧ f (sC S T e.s 2) = (e.l : Int)
  no : ∀ u v : Nat, u < v → (v : Int) < V → (∀ e ∈ l, ¬ (e.u = u ∧ e.v = v)) → f (eC V S T u v) = 0
section
variable {V S T : Int} {f : Nat → Int} {l : List E1} {x y : E1} {i j : Nat}
theorem ER.slot1 (h : ER V S T f l) (hi : l[i]? = some x) (hj : l[j]? = some y) (e : x.s = y.s) : i = j := by
  rcases Nat.lt_trichotomy i j with c | c | c
  · have ⟨h1, e1⟩ := List.getElem?_eq_some_iff.1 hi
    have ⟨h2, e2⟩ := List.getElem?_eq_some_iff.1 hj
    have := (List.pairwise_iff_getElem.1 h.un i j h1 h2 c).1
    rw [e1, e2] at this; exact absurd e this
  · exact c
  · have ⟨h1, e1⟩ := List.getElem?_eq_some_iff.1 hi
    have ⟨h2, e2⟩ := List.getElem?_eq_some_iff.1 hj
    have := (List.pairwise_iff_getElem.1 h.un j i h2 h1 c).1
    rw [e1, e2] at this; exact absurd e.symm this
theorem ER.pair1 (h : ER V S T f l) (hi : l[i]? = some x) (hj : l[j]? = some y) (e1 : x.u = y.u) (e2 : x.v = y.v) : i = j := by
  rcases Nat.lt_trichotomy i j with c | c | c
  · have ⟨h1, q1⟩ := List.getElem?_eq_some_iff.1 hi
    have ⟨h2, q2⟩ := List.getElem?_eq_some_iff.1 hj
    have := (List.pairwise_iff_getElem.1 h.un i j h1 h2 c).2
    rw [q1, q2] at this; exact absurd ⟨e1, e2⟩ this
  · exact c
  · have ⟨h1, q1⟩ := List.getElem?_eq_some_iff.1 hi
    have ⟨h2, q2⟩ := List.getElem?_eq_some_iff.1 hj
    have := (List.pairwise_iff_getElem.1 h.un j i h2 h1 c).2
    rw [q1, q2] at this; exact absurd ⟨e1.symm, e2.symm⟩ this
/-- Memory without edges. -/
theorem ER.nil (h : ∀ k, f k = 0) : ER V S T f [] := ⟨fun _ h => (nomatch h), List.Pairwise.nil, fun _ h => (nomatch h), fun _ _ _ _ _ => h _⟩
/-- What Put stores. -/
def putF (V S T : Int) (f : Nat → Int) (e : E1) : Nat → Int := upd (upd (upd f (sC S T e.s 1) (nV e.u e.v)) (sC S T e.s 2) (e.l : Int)) (eC V S T e.u e.v) (eV e.s e.t)
theorem ER.put (h : ER V S T f l) (hR : Rt V S T) (h1 : x.u < x.v) (h2 : (x.v : Int) < V) (h3 : (x.s : Int) < S) (h4 : (x.l : Int) < lv V) (hs : ∀ e ∈ l, e.s ≠ x.s) (hp : ∀ e ∈ l, ¬ (e.u = x.u ∧ e.v = x.v)) : ER V S T (putF V S T f x) (l ++ [x]) := by
  refine ⟨fun e he => ?_, List.pairwise_append.2 ⟨h.un, List.pairwise_singleton _ _, fun a ha b hb => ?_⟩, fun e he => ?_, fun u v huv hv hn => ?_⟩
  · rcases List.mem_append.1 he with he | he
    · exact h.ok e he
    · rw [List.mem_singleton.1 he]; exact ⟨h1, h2, h3, h4⟩
  · rw [List.mem_singleton.1 hb]; exact ⟨hs a ha, hp a ha⟩
  · unfold putF
    rcases List.mem_append.1 he with he | he
    · obtain ⟨o1, o2, o3, o4⟩ := h.ok e he
      obtain ⟨i1, i2, i3⟩ := h.is e he
      have n1 : eC V S T e.u e.v ≠ eC V S T x.u x.v := fun q => hp e he (eC_inj hR (by omega) o2 o1 (by omega) h2 h1 q)
      have n2 : eC V S T e.u e.v ≠ sC S T x.s 2 := fun q => sC_eC hR h3 (by decide) (by omega) o2 (by omega) q.symm
      have n3 : eC V S T e.u e.v ≠ sC S T x.s 1 := fun q => sC_eC hR h3 (by decide) (by omega) o2 (by omega) q.symm
      have m1 : ∀ k, k < 7 → sC S T e.s k ≠ eC V S T x.u x.v := fun k hk => sC_eC hR o3 hk (by omega) h2 (by omega)
      have m2 : ∀ k j, k < 7 → j < 7 → sC S T e.s k ≠ sC S T x.s j := fun k j hk hj q => hs e he (sC_inj hR o3 hk h3 hj q).1
      refine ⟨?_, ?_, ?_⟩
      · rw [upd_other _ _ n1, upd_other _ _ n2, upd_other _ _ n3]; exact i1
      · rw [upd_other _ _ (m1 1 (by decide)), upd_other _ _ (m2 1 2 (by decide) (by decide)), upd_other _ _ (m2 1 1 (by decide) (by decide))]; exact i2
      · rw [upd_other _ _ (m1 2 (by decide)), upd_other _ _ (m2 2 2 (by decide) (by decide)), upd_other _ _ (m2 2 1 (by decide) (by decide))]; exact i3
    · rw [List.mem_singleton.1 he]
      have m1 : ∀ k, k < 7 → sC S T x.s k ≠ eC V S T x.u x.v := fun k hk => sC_eC hR h3 hk (by omega) h2 (by omega)
      refine ⟨upd_same _ _ _, ?_, ?_⟩
      · rw [upd_other _ _ (m1 1 (by decide)), upd_other _ _ (fun q => by have := (sC_inj hR h3 (by decide) h3 (by decide) q).2; omega), upd_same]
      · rw [upd_other _ _ (m1 2 (by decide)), upd_same]
  · unfold putF
    have n1 : eC V S T u v ≠ eC V S T x.u x.v := fun q => hn x (by simp) ((eC_inj hR (by omega) hv huv (by omega) h2 h1 q).elim fun a b => ⟨a.symm, b.symm⟩)
    have n2 : ∀ k, k < 7 → eC V S T u v ≠ sC S T x.s k := fun k hk q => sC_eC hR h3 hk (by omega) hv (by omega) q.symm
    rw [upd_other _ _ n1, upd_other _ _ (n2 2 (by decide)), upd_other _ _ (n2 1 (by decide))]
    exact h.no u v huv hv fun e he => hn e (List.mem_append_left _ he)
theorem ER.cong {f' : Nat → Int} (h : ER V S T f l) (hf : ∀ k, f' k = f k) : ER V S T f' l := by
  have : f' = f := funext hf
  rw [this]; exact h
theorem mem_erase_of {α : Type} {l : List α} {k : Nat} {x : α} (h : x ∈ l.eraseIdx k) : ∃ i, i ≠ k ∧ l[i]? = some x := by
  obtain ⟨i, hi⟩ := List.mem_iff_getElem?.1 h
  rw [List.getElem?_eraseIdx] at hi
  split at hi
  · exact ⟨i, by omega, hi⟩
  · exact ⟨i + 1, by omega, hi⟩
theorem mem_erase_is {α : Type} {l : List α} {k i : Nat} {x : α} (h : l[i]? = some x) (hne : i ≠ k) : x ∈ l.eraseIdx k := by
  rw [List.mem_iff_getElem?]
  by_cases c : i < k
  · exact ⟨i, by rw [List.getElem?_eraseIdx, if_pos c]; exact h⟩
  · exact ⟨i - 1, by rw [List.getElem?_eraseIdx, if_neg (by omega), show i - 1 + 1 = i by omega]; exact h⟩
/-- Remove, where there is one. -/
theorem ER.remove (h : ER V S T f l) (hR : Rt V S T) (hi : l[i]? = some x) : ER V S T (upd f (eC V S T x.u x.v) 0) (l.eraseIdx i) := by
  have hx := List.mem_of_getElem? hi
  obtain ⟨x1, x2, x3, x4⟩ := h.ok x hx
  have sub : ∀ e ∈ l.eraseIdx i, e ∈ l := fun e he => List.mem_of_mem_eraseIdx he
  refine ⟨fun e he => h.ok e (sub e he), h.un.sublist (List.eraseIdx_sublist l i), fun e he => ?_, fun u v huv hv hn => ?_⟩
  · obtain ⟨j, hj, ej⟩ := mem_erase_of he
    obtain ⟨o1, o2, o3, o4⟩ := h.ok e (sub e he)
    obtain ⟨i1, i2, i3⟩ := h.is e (sub e he)
    have n1 : eC V S T e.u e.v ≠ eC V S T x.u x.v := fun q => by
      have := eC_inj hR (by omega) o2 o1 (by omega) x2 x1 q
      exact hj (h.pair1 ej hi this.1 this.2)
    rw [upd_other _ _ n1, upd_other _ _ (sC_eC hR o3 (by decide) (by omega) x2 (by omega)), upd_other _ _ (sC_eC hR o3 (by decide) (by omega) x2 (by omega))]
    exact ⟨i1, i2, i3⟩
  · by_cases q : u = x.u ∧ v = x.v
    · rw [q.1, q.2, upd_same]
    · rw [upd_other _ _ fun e => q (eC_inj hR (by omega) hv huv (by omega) x2 x1 e)]
      refine h.no u v huv hv fun e he hq => ?_
      obtain ⟨j, hj⟩ := List.mem_iff_getElem?.1 he
      by_cases c : j = i
      · subst c; rw [hi] at hj; injection hj with hj; subst hj; exact q ⟨hq.1.symm, hq.2.symm⟩
      · exact hn e (mem_erase_is hj c) hq
theorem mem_set_of {α : Type} {l : List α} {i : Nat} {x y : α} (h : y ∈ l.set i x) : y = x ∨ ∃ j, j ≠ i ∧ l[j]? = some y := by
  obtain ⟨j, hj⟩ := List.mem_iff_getElem?.1 h
  rw [List.getElem?_set] at hj
  split at hj
  · split at hj
    · injection hj with hj; exact .inl hj.symm
    · cases hj
  · exact .inr ⟨j, fun e => by simp_all, hj⟩
theorem un_set (h : l.Pairwise fun a b => a.s ≠ b.s ∧ ¬ (a.u = b.u ∧ a.v = b.v)) (hi : l[i]? = some x) (e1 : y.s = x.s) (e2 : y.u = x.u) (e3 : y.v = x.v) : (l.set i y).Pairwise fun a b => a.s ≠ b.s ∧ ¬ (a.u = b.u ∧ a.v = b.v) := by
  have hx := (List.getElem?_eq_some_iff.1 hi)
  rw [List.pairwise_iff_getElem] at h ⊢
  intro a b ha hb hab
  rw [List.length_set] at ha hb
  have := h a b ha hb hab
  rw [List.getElem_set, List.getElem_set]
  by_cases c : i = a
  · subst c
    rw [if_pos rfl, if_neg (by omega), e1, e2, e3]
    rw [hx.2] at this; exact this
  · rw [if_neg c]
    by_cases d : i = b
    · subst d
      rw [if_pos rfl, e1, e2, e3]
      rw [hx.2] at this; exact this
    · rw [if_neg d]; exact this
/-- Turn. -/
theorem ER.turn (h : ER V S T f l) (hR : Rt V S T) (hi : l[i]? = some x) (t : Bool) : ER V S T (upd f (eC V S T x.u x.v) (eV x.s t)) (l.set i { x with t := t }) := by
  have hx := List.mem_of_getElem? hi
  obtain ⟨x1, x2, x3, x4⟩ := h.ok x hx
  refine ⟨fun e he => ?_, un_set h.un hi rfl rfl rfl, fun e he => ?_, fun u v huv hv hn => ?_⟩
  · rcases mem_set_of he with rfl | ⟨j, hj, ej⟩
    · exact ⟨x1, x2, x3, x4⟩
    · exact h.ok e (List.mem_of_getElem? ej)
  · rcases mem_set_of he with rfl | ⟨j, hj, ej⟩
    · obtain ⟨i1, i2, i3⟩ := h.is x hx
      exact ⟨upd_same _ _ _, by rw [upd_other _ _ (sC_eC hR x3 (by decide) (by omega) x2 (by omega))]; exact i2, by rw [upd_other _ _ (sC_eC hR x3 (by decide) (by omega) x2 (by omega))]; exact i3⟩
    · have he' := List.mem_of_getElem? ej
      obtain ⟨o1, o2, o3, o4⟩ := h.ok e he'
      obtain ⟨i1, i2, i3⟩ := h.is e he'
      have n1 : eC V S T e.u e.v ≠ eC V S T x.u x.v := fun q => by
        have := eC_inj hR (by omega) o2 o1 (by omega) x2 x1 q
        exact hj (h.pair1 ej hi this.1 this.2)
      rw [upd_other _ _ n1, upd_other _ _ (sC_eC hR o3 (by decide) (by omega) x2 (by omega)), upd_other _ _ (sC_eC hR o3 (by decide) (by omega) x2 (by omega))]
      exact ⟨i1, i2, i3⟩
  · have hil := (List.getElem?_eq_some_iff.1 hi).1
    have mx : { x with t := t } ∈ l.set i { x with t := t } := List.mem_iff_getElem?.2 ⟨i, by rw [List.getElem?_set_self hil]⟩
    have q := hn _ mx
    rw [upd_other _ _ fun e => q ((eC_inj hR (by omega) hv huv (by omega) x2 x1 e).elim fun a b => ⟨a.symm, b.symm⟩)]
    refine h.no u v huv hv fun e he hq => ?_
    obtain ⟨j, hj⟩ := List.mem_iff_getElem?.1 he
    by_cases c : j = i
    · subst c; rw [hi] at hj; injection hj with hj; subst hj; exact q hq
    · exact hn e (List.mem_iff_getElem?.2 ⟨j, by rw [List.getElem?_set_ne (Ne.symm c)]; exact hj⟩) hq
/-- Lift. -/
theorem ER.lift (h : ER V S T f l) (hR : Rt V S T) (hi : l[i]? = some x) {k : Nat} (hk : (k : Int) < lv V) : ER V S T (upd f (sC S T x.s 2) (k : Int)) (l.set i { x with l := k }) := by
  have hx := List.mem_of_getElem? hi
  obtain ⟨x1, x2, x3, x4⟩ := h.ok x hx
  refine ⟨fun e he => ?_, un_set h.un hi rfl rfl rfl, fun e he => ?_, fun u v huv hv hn => ?_⟩
  · rcases mem_set_of he with rfl | ⟨j, hj, ej⟩
    · exact ⟨x1, x2, x3, hk⟩
    · exact h.ok e (List.mem_of_getElem? ej)
  · rcases mem_set_of he with rfl | ⟨j, hj, ej⟩
    · obtain ⟨i1, i2, i3⟩ := h.is x hx
      exact ⟨by rw [upd_other _ _ (fun q => sC_eC (u := x.u) (v := x.v) hR x3 (by decide) (by omega) x2 (by omega) q.symm)]; exact i1, by rw [upd_other _ _ (fun q => by have := (sC_inj hR x3 (by decide) x3 (by decide) q).2; omega)]; exact i2, upd_same _ _ _⟩
    · have he' := List.mem_of_getElem? ej
      obtain ⟨o1, o2, o3, o4⟩ := h.ok e he'
      obtain ⟨i1, i2, i3⟩ := h.is e he'
      have ns : ∀ k, k < 7 → sC S T e.s k ≠ sC S T x.s 2 := fun k hk q => hj (h.slot1 ej hi (sC_inj hR o3 hk x3 (by decide) q).1)
      rw [upd_other _ _ (fun q => sC_eC hR x3 (by decide) (by omega) o2 (by omega) q.symm), upd_other _ _ (ns 1 (by decide)), upd_other _ _ (ns 2 (by decide))]
      exact ⟨i1, i2, i3⟩
  · have hil := (List.getElem?_eq_some_iff.1 hi).1
    have mx : { x with l := k } ∈ l.set i { x with l := k } := List.mem_iff_getElem?.2 ⟨i, by rw [List.getElem?_set_self hil]⟩
    have q := hn _ mx
    rw [upd_other _ _ fun e => sC_eC hR x3 (by decide) (by omega) hv (by omega) e.symm]
    refine h.no u v huv hv fun e he hq => ?_
    obtain ⟨j, hj⟩ := List.mem_iff_getElem?.1 he
    by_cases c : j = i
    · subst c; rw [hi] at hj; injection hj with hj; subst hj; exact q hq
    · exact hn e (List.mem_iff_getElem?.2 ⟨j, by rw [List.getElem?_set_ne (Ne.symm c)]; exact hj⟩) hq
end
end Go.Proofs.YtdafnejphlcgdaaGreat

namespace Go.Proofs.YtdafnejphlcgdaaGreat
open Go.RowKit

set_option maxRecDepth 100000

/-- A memory of a lay's cells. -/
def EM (w : World) (V S T : Int) (p gb cap m : Nat) (f : Nat → Int) : Prop := Rt V S T ∧ ∃ c, Ar w p gb (cellsE V S T) cap c f ∧ CB c m
/-- Edges' value. -/
abbrev vE (V S T : Int) (p : Nat) : Value := .agg #[.int .i64 V, .int .i64 S, .int .i64 T, .iface 84 (pmV p)]
/-- .. in a block of its own. -/
def EdB (w : World) (b : Nat) (V S T : Int) (p : Nat) : Prop := Blk w b 47 #[.int .i64 V, .int .i64 S, .int .i64 T, .iface 84 (pmV p)]
section
variable {w w' w0 : World} {V S T : Int} {p gb cap m m' b k : Nat} {f : Nat → Int}
theorem EM.hR (h : EM w V S T p gb cap m f) : Rt V S T := h.1
theorem EM.below (h : EM w V S T p gb cap m f) (hb : Below w.heap.size w w') : EM w' V S T p gb cap m f := by
  obtain ⟨h1, c, A, C⟩ := h
  exact ⟨h1, c, A.below hb (Nat.le_refl _), C⟩
theorem EM.drew (h : EM w V S T p gb cap m f) : EM w.drew V S T p gb cap m f := h.below (Below.refl _ _).drew
theorem EM.more (h : EM w V S T p gb cap m f) (hm : m ≤ m') : EM w V S T p gb cap m' f := by
  obtain ⟨h1, c, A, C⟩ := h
  exact ⟨h1, c, A, C.more hm⟩
theorem EM.p_lt (h : EM w V S T p gb cap m f) : p < w.heap.size := by obtain ⟨_, _, A, _⟩ := h; exact A.p_lt
theorem EM.g_lt (h : EM w V S T p gb cap m f) : gb < w.heap.size := by obtain ⟨_, _, A, _⟩ := h; exact A.g_lt
theorem Blk.em {q : Nat} {ty : TypeId} {cs : Array Value} (h : Blk w q ty cs) (A : EM w V S T p gb cap m f) (ho : Only p gb w w') (h1 : ty ≠ 127) (h2 : ty ≠ 88) : Blk w' q ty cs := by
  obtain ⟨_, _, A, _⟩ := A
  obtain ⟨zs, hz, _⟩ := A.cells
  exact h.only ho (Blk.ne_ h A.own h1) (Blk.ne_ h hz h2)
theorem EM.far (h : EM w V S T p gb cap m f) {q j : Nat} {ty : TypeId} {cs : Array Value} (hq : Blk w q ty cs) (h1 : ty ≠ 127) (h2 : ty ≠ 88) (u : Value) : EM (w.setCell ⟨q, j, none⟩ u) V S T p gb cap m f := by
  obtain ⟨hR, c, A, C⟩ := h
  obtain ⟨zs, hz, _⟩ := A.cells
  exact ⟨hR, c, A.q_far (Blk.ne_ hq A.own h1) (Blk.ne_ hq hz h2) u, C⟩
theorem em_load (h : EM w V S T p gb cap m f) (hk : k < cellsE V S T) (hb : m ≤ 1000000) {kI : Int} (hI : kI = (k : Int)) :
    Calls Tryz.prog 182 #[pmV p, .int .i64 kI] w fun e w' => e = .returned (.int .u64 (f k)) ∧ EM w' V S T p gb cap (m + 1) f ∧ Only p gb w w' := by
  subst hI
  obtain ⟨h1, c, A, C⟩ := h
  refine (pm_load A hk C hb).mono ?_
  rintro e w' ⟨rfl, A2, O2⟩
  exact ⟨rfl, ⟨h1, _, A2, C.upd 0⟩, O2⟩
theorem em_store (h : EM w V S T p gb cap m f) (hk : k < cellsE V S T) {x : Int} (hx0 : 0 ≤ x) (hx1 : x ≤ 18446744073709551615) (hb : m ≤ 1000000) {kI : Int} (hI : kI = (k : Int)) :
    Calls Tryz.prog 183 #[pmV p, .int .i64 kI, .int .u64 x] w fun e w' => e = .returned (.tuple #[]) ∧ EM w' V S T p gb cap (m + 1) (upd f k x) ∧ Only p gb w w' := by
  subst hI
  obtain ⟨h1, c, A, C⟩ := h
  refine (pm_store A hk hx0 hx1 C hb).mono ?_
  rintro e w' ⟨rfl, A2, O2⟩
  exact ⟨rfl, ⟨h1, _, A2, C.upd 1⟩, O2⟩
theorem EdB.new (w : World) (V S T : Int) (p : Nat) : EdB (w.alloc (.cells #[.int .i64 V, .int .i64 S, .int .i64 T, .iface 84 (pmV p)] 47)) w.heap.size V S T p := Blk.new _ _ _
theorem EdB.lt (h : EdB w b V S T p) : b < w.heap.size := Blk.lt h
theorem EdB.below (h : EdB w b V S T p) (hb : Below w.heap.size w w') : EdB w' b V S T p := Blk.below h hb (Blk.lt h)
theorem EdB.drew (h : EdB w b V S T p) : EdB w.drew b V S T p := h
theorem EdB.only (h : EdB w b V S T p) (A : EM w V S T p gb cap m f) (ho : Only p gb w w') : EdB w' b V S T p := Blk.em h A ho (by decide) (by decide)
theorem EdB.cells (h : EdB w b V S T p) : w.cell? ⟨b, 0, none⟩ = some (.int .i64 V) ∧ w.cell? ⟨b, 1, none⟩ = some (.int .i64 S) ∧ w.cell? ⟨b, 2, none⟩ = some (.int .i64 T) ∧ w.cell? ⟨b, 3, none⟩ = some (.iface 84 (pmV p)) :=
  ⟨Blk.cell h 0, Blk.cell h 1, Blk.cell h 2, Blk.cell h 3⟩
theorem EdB.rule (b : Nat) (V S T : Int) (p : Nat) : ∀ W : World, EdB W b V S T p → W.cell? ⟨b, 0, none⟩ = some (.int .i64 V) ∧ W.cell? ⟨b, 1, none⟩ = some (.int .i64 S) ∧ W.cell? ⟨b, 2, none⟩ = some (.int .i64 T) ∧ W.cell? ⟨b, 3, none⟩ = some (.iface 84 (pmV p)) := fun _ h => h.cells
/-- In a call: the box of the edges, their memory, and what was there. -/
structure EX (w0 W : World) (b : Nat) (V S T : Int) (p gb cap m : Nat) (f : Nat → Int) : Prop where
  e : EdB W b V S T p
  m : EM W V S T p gb cap m f
  o : Only p gb w0 W
theorem EX.below (h : EX w0 w b V S T p gb cap m f) (hb : Below w.heap.size w w') : EX w0 w' b V S T p gb cap m f := ⟨h.e.below hb, h.m.below hb, h.o.trans (Only.of_below hb)⟩
theorem EX.drew (h : EX w0 w b V S T p gb cap m f) : EX w0 w.drew b V S T p gb cap m f := h.below (Below.refl _ _).drew
theorem EX.next {f' : Nat → Int} (h : EX w0 w b V S T p gb cap m f) (hm : EM w' V S T p gb cap m' f') (ho : Only p gb w w') : EX w0 w' b V S T p gb cap m' f' := ⟨h.e.only h.m ho, hm, h.o.trans ho⟩
theorem EX.new (h : EM w V S T p gb cap m f) : EX w (w.alloc (.cells #[.int .i64 V, .int .i64 S, .int .i64 T, .iface 84 (pmV p)] 47)) w.heap.size V S T p gb cap m f :=
  ⟨EdB.new _ _ _ _ _, h.below ((Below.refl _ _).alloc (Nat.le_refl _) _), (Only.refl _ _ _).alloc _⟩
end

section
variable {V S T : Int} {p : Nat}
theorem hasSlot_yes (hR : Rt V S T) {x : Int} (h0 : 0 ≤ x) (h1 : x < S) (w : World) :
    Calls Tryz.prog 121 #[vE V S T p, .int .i64 x] w fun e w' => e = .returned (.bool true) ∧ Below w.heap.size w w' := by
  have hs : slotF S T x 1 = T + 1 + x * 7 + 1 := if_pos (by omega)
  have HS := Lib.hid hs
  have hg : (0 : Int) ≤ T + 1 + x * 7 + 1 := by have := hR.t1; omega
  clear hs
  go_enter Tryz.func121, Tryz.ntmps121
  go_wp2_with fail
  refine (ends_yes V S T x hR _).mono ?_; rintro e w1 ⟨rfl, hb1⟩; rw [HS.out]
  go_wp2_with fail
  go_ret
  exact ⟨rfl, keepL ((Below.refl _ _).alloc (Nat.le_refl _) _) hb1⟩
theorem hasLevel_yes (hR : Rt V S T) {x : Int} (h0 : 0 ≤ x) (h1 : x < lv V) (w : World) :
    Calls Tryz.prog 69 #[vE V S T p, .int .i64 x] w fun e w' => e = .returned (.bool true) ∧ Below w.heap.size w w' := by
  go_enter Tryz.func69, Tryz.ntmps69
  go_wp2_with fail
  refine (levels_yes V S T hR _).mono ?_; rintro e w1 ⟨rfl, hb1⟩
  go_wp2_with fail
  go_ret
  exact ⟨rfl, keepL ((Below.refl _ _).alloc (Nat.le_refl _) _) hb1⟩
end
end Go.Proofs.YtdafnejphlcgdaaGreat

namespace Go.Proofs.YtdafnejphlcgdaaGreat
open Go.RowKit

set_option maxRecDepth 100000

section
variable {w w' w0 : World} {V S T : Int} {p gb cap m u v s : Nat} {f : Nat → Int} {t : Bool}
theorem find_yes (h : EM w V S T p gb cap m f) (hu : (u : Int) < V) (hv : (v : Int) < V) (hne : u ≠ v) (hs : (s : Int) < S) (hf : f (eC V S T u v) = eV s t) (hm : m ≤ 1000000) :
    Calls Tryz.prog 123 #[vE V S T p, .int .i64 (u : Int), .int .i64 (v : Int)] w fun e w' => e = .returned (.tuple #[.int .i64 (s : Int), .bool t, .bool true]) ∧ EM w' V S T p gb cap (m + 1) f ∧ Only p gb w w' := by
  have ml := methp_load
  have H := Lib.hid (EX.new h)
  have HR := Lib.hid h.hR
  have HK := Lib.hid (eC_int h.hR hu hv hne)
  have HL := Lib.hid (eC_lt h.hR hu hv hne)
  have HF := Lib.hid hf
  clear h hf
  have hk0 : (0 : Int) ≤ ((eC V S T u v : Nat) : Int) := Int.natCast_nonneg _
  generalize eC V S T u v = k at HK HL HF hk0
  go_enter Tryz.func123, Tryz.ntmps123
  go_wp2_with fail
  generalize w.alloc (.cells #[.int .i64 V, .int .i64 S, .int .i64 T, .iface 84 (pmV p)] 47) = w1 at H ⊢
  generalize w.heap.size = b at H ⊢
  refine (edge_yes V S T (u : Int) (v : Int) HR.out _).mono ?_; rintro e w2 ⟨rfl, hb2⟩; rw [HK.out]
  have H2 := Lib.hid (H.out.below hb2)
  clear H hb2
  obtain ⟨c0, c1, c2, c3⟩ := H2.out.e.cells
  have blt := H2.out.e.lt
  go_wp2_with fail
  refine (em_load H2.out.m HL.out hm rfl).mono ?_; rintro e w3 ⟨rfl, A3, O3⟩; rw [HF.out, eV]
  have H3 := Lib.hid (H2.out.next A3 O3)
  clear H2 A3 O3 c0 c1 c2 c3 blt
  obtain ⟨c0, c1, c2, c3⟩ := H3.out.e.cells
  have blt := H3.out.e.lt
  have sI : (s : Int) < 48 := by have := HR.out.s2; omega
  have hq : (((s + 1) * 2 + bN t : Nat) : Int) / 2 = (s : Int) + 1 := by have := bN_le t; omega
  have s0 : (0 : Int) ≤ (s : Int) := Int.natCast_nonneg _
  have hand : (bits .and .u64 (((s + 1) * 2 + bN t : Nat) : Int) 1 != 0) = t := by
    rw [and_1 _ (by omega) (by have := bN_le t; omega), show (((s + 1) * 2 + bN t : Nat) : Int) % 2 = bN t by have := bN_le t; omega]
    cases t <;> rfl
  generalize (s + 1) * 2 + bN t = n at hq hand ⊢
  go_wp2_with fail
  refine (hasSlot_yes HR.out s0 hs _).mono ?_; rintro e w4 ⟨rfl, hb4⟩
  have H4 := Lib.hid (H3.out.below hb4)
  clear H3 hb4 c0 c1 c2 c3 blt
  go_wp2_with fail
  go_ret3
  exact ⟨rfl, H4.out.m, H4.out.o⟩
theorem or_256 {a b : Nat} (ha : a < 16) (hb : b < 16) : bits .or .i64 ((a : Int) * 256) (b : Int) = nV a b := by
  have key : ∀ a < 16, ∀ b < 16, bits .or .i64 ((a : Nat) * 256 : Int) ((b : Nat) : Int) = ((a * 256 + b : Nat) : Int) := by decide +kernel
  exact key a ha b hb
theorem set_any (h : EM w V S T p gb cap m f) (hu : (u : Int) < V) (hv : (v : Int) < V) (hne : u ≠ v) (hs : (s : Int) < S) (hm : m ≤ 1000000) :
    Calls Tryz.prog 127 #[vE V S T p, .int .i64 (s : Int), .int .i64 (u : Int), .int .i64 (v : Int), .bool t] w fun e w' => e = .returned (.tuple #[]) ∧ EM w' V S T p gb cap (m + 1) (upd f (eC V S T u v) (eV s t)) ∧ Only p gb w w' := by
  have ms := methp_store
  have mn := nilp_store
  have H := Lib.hid (EX.new h)
  have HR := Lib.hid h.hR
  have HK := Lib.hid (eC_int h.hR hu hv hne)
  have HL := Lib.hid (eC_lt h.hR hu hv hne)
  have sI : (s : Int) < 48 := by have := h.hR.s2; omega
  have s0 : (0 : Int) ≤ (s : Int) := Int.natCast_nonneg _
  have e0 : eV s t = ((s : Int) + 1) * 2 + bN t := by unfold eV; omega
  have HE0 : Hid (0 ≤ eV s t ∧ eV s t ≤ 18446744073709551615) := Lib.hid (by have := bN_le t; omega)
  have hor : bits .or .u64 (((s : Int) + 1) * 2) 1 = ((s : Int) + 1) * 2 + 1 := or_1 _ (by omega) (by omega)
  clear h
  have hk0 : (0 : Int) ≤ ((eC V S T u v : Nat) : Int) := Int.natCast_nonneg _
  generalize eC V S T u v = k at HK HL hk0
  cases t
  · as_aux_lemma =>
    have e1 : eV s false = ((s : Int) + 1) * 2 := by rw [e0]; show _ + ((0 : Nat) : Int) = _; omega
    have HE1 := Lib.hid e1
    clear e0 e1
    go_enter Tryz.func127, Tryz.ntmps127
    go_wp2_with fail
    generalize w.alloc (.cells #[.int .i64 V, .int .i64 S, .int .i64 T, .iface 84 (pmV p)] 47) = w1 at H ⊢
    generalize w.heap.size = b at H ⊢
    obtain ⟨c0, c1, c2, c3⟩ := H.out.e.cells
    have blt := H.out.e.lt
    have HD := Lib.hid H.out.drew
    have hrule := EdB.rule b V S T p
    go_region_held3 (fun W => EdB W b V S T p) (first | (with_reducible assumption) | (with_reducible exact H3.out.e) | (with_reducible exact H2.out.e) | (with_reducible exact HD.out.e))
      (first
        | (go_at_call 91; ((with_reducible refine (edge_yes V S T (u : Int) (v : Int) HR.out _).mono ?_); rintro e w2 ⟨rfl, hb2⟩; rw [HK.out]; have H2 := Lib.hid (HD.out.below hb2)))
        | ((with_reducible refine (em_store (x := ((s : Int) + 1) * 2) H2.out.m HL.out (by omega) (by omega) hm rfl).mono ?_); rintro e w3 ⟨rfl, A3, O3⟩; have H3 := Lib.hid (H2.out.next A3 O3))
        | fail)
    go_wp2_with fail
    go_end0
    exact ⟨rfl, by rw [HE1.out]; exact H3.out.m, H3.out.o⟩
  · as_aux_lemma =>
    have e1 : eV s true = ((s : Int) + 1) * 2 + 1 := by rw [e0]; rfl
    have HE1 := Lib.hid e1
    clear e0 e1
    go_enter Tryz.func127, Tryz.ntmps127
    go_wp2_with fail
    generalize w.alloc (.cells #[.int .i64 V, .int .i64 S, .int .i64 T, .iface 84 (pmV p)] 47) = w1 at H ⊢
    generalize w.heap.size = b at H ⊢
    obtain ⟨c0, c1, c2, c3⟩ := H.out.e.cells
    have blt := H.out.e.lt
    have HD := Lib.hid H.out.drew
    have hrule := EdB.rule b V S T p
    go_region_held3 (fun W => EdB W b V S T p) (first | (with_reducible assumption) | (with_reducible exact H3.out.e) | (with_reducible exact H2.out.e) | (with_reducible exact HD.out.e))
      (first
        | (go_at_call 91; ((with_reducible refine (edge_yes V S T (u : Int) (v : Int) HR.out _).mono ?_); rintro e w2 ⟨rfl, hb2⟩; rw [HK.out]; have H2 := Lib.hid (HD.out.below hb2)))
        | ((with_reducible refine (em_store (x := ((s : Int) + 1) * 2 + 1) H2.out.m HL.out (by omega) (by omega) hm rfl).mono ?_); rintro e w3 ⟨rfl, A3, O3⟩; have H3 := Lib.hid (H2.out.next A3 O3))
        | fail)
    go_wp2_with fail
    go_end0
    exact ⟨rfl, by rw [HE1.out]; exact H3.out.m, H3.out.o⟩
theorem remove_any (h : EM w V S T p gb cap m f) (hu : (u : Int) < V) (hv : (v : Int) < V) (hne : u ≠ v) (hm : m ≤ 1000000) :
    Calls Tryz.prog 39 #[vE V S T p, .int .i64 (u : Int), .int .i64 (v : Int)] w fun e w' => e = .returned (.tuple #[]) ∧ EM w' V S T p gb cap (m + 1) (upd f (eC V S T u v) 0) ∧ Only p gb w w' := by
  have ms := methp_store
  have H := Lib.hid (EX.new h)
  have HR := Lib.hid h.hR
  have HK := Lib.hid (eC_int h.hR hu hv hne)
  have HL := Lib.hid (eC_lt h.hR hu hv hne)
  clear h
  have hk0 : (0 : Int) ≤ ((eC V S T u v : Nat) : Int) := Int.natCast_nonneg _
  generalize eC V S T u v = k at HK HL hk0
  go_enter Tryz.func39, Tryz.ntmps39
  go_wp2_with fail
  generalize w.alloc (.cells #[.int .i64 V, .int .i64 S, .int .i64 T, .iface 84 (pmV p)] 47) = w1 at H ⊢
  generalize w.heap.size = b at H ⊢
  refine (edge_yes V S T (u : Int) (v : Int) HR.out _).mono ?_; rintro e w2 ⟨rfl, hb2⟩; rw [HK.out]
  have H2 := Lib.hid (H.out.below hb2)
  clear H hb2
  obtain ⟨c0, c1, c2, c3⟩ := H2.out.e.cells
  have blt := H2.out.e.lt
  go_wp2_with fail
  refine (em_store H2.out.m HL.out (by omega) (by omega) hm rfl).mono ?_; rintro e w3 ⟨rfl, A3, O3⟩
  have H3 := Lib.hid (H2.out.next A3 O3)
  clear H2 A3 O3 c0 c1 c2 c3 blt
  go_wp2_with fail
  go_end0
  exact ⟨rfl, H3.out.m, H3.out.o⟩
end
end Go.Proofs.YtdafnejphlcgdaaGreat

namespace Go.Proofs.YtdafnejphlcgdaaGreat
open Go.RowKit

set_option maxRecDepth 100000

section
variable {w w' w0 : World} {V S T : Int} {p gb cap m m' u v s l b r : Nat} {f f' : Nat → Int} {t : Bool}
theorem nV_bd {a b : Nat} (ha : a < 16) (hb : b < 16) : 0 ≤ nV a b ∧ nV a b ≤ 65535 := by unfold nV; omega
set_option maxHeartbeats 2000000 in
theorem put_any (h : EM w V S T p gb cap m f) (hu : (u : Int) < V) (hv : (v : Int) < V) (hne : u ≠ v) (hs : (s : Int) < S) (hl : (l : Int) < lv V) (hm : m ≤ 900000) :
    Calls Tryz.prog 82 #[vE V S T p, .int .i64 (s : Int), .int .i64 (u : Int), .int .i64 (v : Int), .int .i64 (l : Int), .bool t] w fun e w' => e = .returned (.tuple #[]) ∧ EM w' V S T p gb cap (m + 3) (putF V S T f ⟨s, min u v, max u v, l, t⟩) ∧ Only p gb w w' := by
  have ms := methp_store
  have mn := nilp_store
  have H := Lib.hid (EX.new h)
  have HR := Lib.hid h.hR
  have HK := Lib.hid (eC_int h.hR hu hv hne)
  have HP : Hid ((u : Int) < V ∧ (v : Int) < V ∧ u ≠ v ∧ (s : Int) < S ∧ (l : Int) < lv V) := Lib.hid ⟨hu, hv, hne, hs, hl⟩
  have H1 : Hid (slotF S T (s : Int) 1 = ((sC S T s 1 : Nat) : Int)) := Lib.hid (sC_int h.hR hs (k := 1) (by decide))
  have H2 : Hid (slotF S T (s : Int) 2 = ((sC S T s 2 : Nat) : Int)) := Lib.hid (sC_int h.hR hs (k := 2) (by decide))
  have HL1 := Lib.hid (sC_lt h.hR hs (k := 1) (by decide))
  have HL2 := Lib.hid (sC_lt h.hR hs (k := 2) (by decide))
  have u16 : u < 16 := by have := h.hR.v2; omega
  have v16 : v < 16 := by have := h.hR.v2; omega
  have l5 : (l : Int) < 5 := by have := (lv_bd V).2; omega
  have l0 : (0 : Int) ≤ (l : Int) := Int.natCast_nonneg _
  have s0 : (0 : Int) ≤ (s : Int) := Int.natCast_nonneg _
  obtain ⟨a, ha⟩ : ∃ a, min u v = a := ⟨_, rfl⟩
  obtain ⟨b9, hb9⟩ : ∃ a, max u v = a := ⟨_, rfl⟩
  have mI : (if v < u then (v : Int) else (u : Int)) = (a : Int) := by split <;> omega
  have xI : (if u < v then (v : Int) else (u : Int)) = (b9 : Int) := by split <;> omega
  have a16 : (a : Int) < 16 := by omega
  have b16 : (b9 : Int) < 16 := by omega
  have hor := or_256 (a := a) (b := b9) (by omega) (by omega)
  obtain ⟨N, hN⟩ : ∃ N, nV a b9 = N := ⟨_, rfl⟩
  have HN := Lib.hid hN
  rw [hN] at hor
  have hn0 : 0 ≤ N ∧ N ≤ 65535 := by rw [← hN]; exact nV_bd (by omega) (by omega)
  obtain ⟨n0, n1⟩ := hn0
  have a0 : (0 : Int) ≤ (a : Int) := Int.natCast_nonneg _
  have wq1 : IntKind.i64.wrap ((a : Int) * 256) = (a : Int) * 256 := IntWalk.i64_in _ (by omega)
  have wq3 : IntKind.u64.wrap (l : Int) = (l : Int) := IntWalk.u64_in _ (by omega)
  have wq2 : IntKind.u64.wrap N = N := IntWalk.u64_in _ (by omega)
  have HAB : Hid (eC V S T a b9 = eC V S T u v) := Lib.hid (by rw [← ha, ← hb9]; exact eC_minmax u v)
  rw [ha, hb9]
  clear h hN hu hv hne hs hl ha hb9
  have hk0 : (0 : Int) ≤ ((eC V S T u v : Nat) : Int) := Int.natCast_nonneg _
  go_enter Tryz.func82, Tryz.ntmps82
  go_wp2_with fail
  generalize w.alloc (.cells #[.int .i64 V, .int .i64 S, .int .i64 T, .iface 84 (pmV p)] 47) = w1 at H ⊢
  generalize w.heap.size = b at H ⊢
  refine (edge_yes V S T (u : Int) (v : Int) HR.out _).mono ?_; rintro e w2 ⟨rfl, hb2⟩; rw [HK.out]
  have H3 := Lib.hid (H.out.below hb2)
  clear H hb2
  obtain ⟨c0, c1, c2, c3⟩ := H3.out.e.cells
  have blt := H3.out.e.lt
  go_wp2_with fail
  refine (hasSlot_yes HR.out s0 HP.out.2.2.2.1 _).mono ?_; rintro e w4 ⟨rfl, hb4⟩
  have H4 := Lib.hid (H3.out.below hb4)
  clear H3 hb4 c0 c1 c2 c3 blt
  obtain ⟨c0, c1, c2, c3⟩ := H4.out.e.cells
  have blt := H4.out.e.lt
  go_wp2_with fail
  refine (hasLevel_yes HR.out l0 HP.out.2.2.2.2 _).mono ?_; rintro e w5 ⟨rfl, hb5⟩
  have H5 := Lib.hid (H4.out.below hb5)
  clear H4 hb5 c0 c1 c2 c3 blt
  obtain ⟨c0, c1, c2, c3⟩ := H5.out.e.cells
  have blt := H5.out.e.lt
  go_wp2_with fail
  have HD := Lib.hid H5.out.drew
  have hrule := EdB.rule b V S T p
  go_region_held3 (fun W => EdB W b V S T p) (first | (with_reducible assumption) | (with_reducible exact H7.out.e) | (with_reducible exact H6.out.e) | (with_reducible exact HD.out.e))
    (first
      | (go_at_call 122; ((with_reducible refine (ends_yes V S T (s : Int) HR.out _).mono ?_); rintro e w2 ⟨rfl, hb2⟩; rw [H1.out]; have H6 := Lib.hid (HD.out.below hb2)))
      | ((with_reducible refine (em_store (x := N) H6.out.m HL1.out n0 (by omega) (by omega) rfl).mono ?_); rintro e w3 ⟨rfl, A3, O3⟩; have H7 := Lib.hid (H6.out.next A3 O3))
      | fail)
  all_goals
    clear c0 c1 c2 c3 blt hrule A3 O3 HD H5 H6 hb2
    obtain ⟨c0, c1, c2, c3⟩ := H7.out.e.cells
    have blt := H7.out.e.lt
    go_wp2_with fail
    have HD := Lib.hid H7.out.drew
    have hrule := EdB.rule b V S T p
    go_region_held3 (fun W => EdB W b V S T p) (first | (with_reducible assumption) | (with_reducible exact H9.out.e) | (with_reducible exact H8.out.e) | (with_reducible exact HD.out.e))
      (first
        | (go_at_call 70; ((with_reducible refine (level_yes V S T (s : Int) HR.out _).mono ?_); rintro e w2 ⟨rfl, hb2⟩; rw [H2.out]; have H8 := Lib.hid (HD.out.below hb2)))
        | ((with_reducible refine (em_store (x := (l : Int)) H8.out.m HL2.out l0 (by omega) (by omega) rfl).mono ?_); rintro e w3 ⟨rfl, A3, O3⟩; have H9 := Lib.hid (H8.out.next A3 O3))
        | fail)
    clear c0 c1 c2 c3 blt hrule A3 O3 HD H7 H8 hb2
    obtain ⟨c0, c1, c2, c3⟩ := H9.out.e.cells
    have blt := H9.out.e.lt
    go_wp2_with fail
    refine (set_any H9.out.m HP.out.1 HP.out.2.1 HP.out.2.2.1 HP.out.2.2.2.1 (by omega)).mono ?_; rintro e w7 ⟨rfl, A7, O7⟩
    have H10 := Lib.hid (H9.out.next A7 O7)
    clear A7 O7 c0 c1 c2 c3 blt H9
    go_wp2_with fail
    go_end0
    exact ⟨rfl, by unfold putF; dsimp only; rw [HAB.out, HN.out]; exact H10.out.m, H10.out.o⟩
/-- In a call that tells an edge: its result's block, too. -/
structure EO (w0 W : World) (b r : Nat) (V S T : Int) (p gb cap m : Nat) (f : Nat → Int) : Prop where
  ex : EX w0 W b V S T p gb cap m f
  rb : ∃ x0 x1 x2 x3, Blk W r 99 #[x0, x1, x2, x3]
  hn : w0.heap.size ≤ r
theorem EO.below (h : EO w0 w b r V S T p gb cap m f) (hb : Below w.heap.size w w') : EO w0 w' b r V S T p gb cap m f := by
  obtain ⟨h1, ⟨x0, x1, x2, x3, h2⟩, h3⟩ := h
  exact ⟨h1.below hb, ⟨x0, x1, x2, x3, h2.below hb h2.lt⟩, h3⟩
theorem EO.drew (h : EO w0 w b r V S T p gb cap m f) : EO w0 w.drew b r V S T p gb cap m f := h.below (Below.refl _ _).drew
theorem EO.next (h : EO w0 w b r V S T p gb cap m f) (hm : EM w' V S T p gb cap m' f') (ho : Only p gb w w') : EO w0 w' b r V S T p gb cap m' f' := by
  obtain ⟨h1, ⟨x0, x1, x2, x3, h2⟩, h3⟩ := h
  exact ⟨h1.next hm ho, ⟨x0, x1, x2, x3, h2.em h1.m ho (by decide) (by decide)⟩, h3⟩
theorem EO.new (h : EM w V S T p gb cap m f) : EO w ((w.alloc (.cells #[.int .i64 V, .int .i64 S, .int .i64 T, .iface 84 (pmV p)] 47)).alloc (.cells #[.int .i64 0, .int .i64 0, .int .i64 0, .bool false] 99)) w.heap.size (w.heap.size + 1) V S T p gb cap m f := by
  refine ⟨(EX.new h).below ((Below.refl _ _).alloc (Nat.le_refl _) _), ⟨.int .i64 0, .int .i64 0, .int .i64 0, .bool false, ?_⟩, by omega⟩
  exact new_next w _ _ _ _
theorem EO.set (h : EO w0 w b r V S T p gb cap m f) (i : Nat) (u : Value) : EO w0 (w.setCell ⟨r, i, none⟩ u) b r V S T p gb cap m f := by
  obtain ⟨⟨h1, h1m, h1o⟩, ⟨x0, x1, x2, x3, h2⟩, h3⟩ := h
  refine ⟨⟨?_, h1m.far h2 (by decide) (by decide) u, h1o.set_new h3 u⟩, ?_, h3⟩
  · exact Blk.far h1 (Blk.ne_ h1 h2 (by decide)) u
  · have h4 := h2.set_ i u
    rcases i with _ | _ | _ | _ | i
    · exact ⟨_, _, _, _, h4⟩
    · exact ⟨_, _, _, _, h4⟩
    · exact ⟨_, _, _, _, h4⟩
    · exact ⟨_, _, _, _, h4⟩
    · refine ⟨x0, x1, x2, x3, ?_⟩
      rwa [Array.setIfInBounds_eq_of_size_le (by simp)] at h4
/-- What its regions read. -/
def SO (W : World) (b r : Nat) (V S T : Int) (p : Nat) : Prop := EdB W b V S T p ∧ ∃ x0 x1 x2 x3, Blk W r 99 #[x0, x1, x2, x3]
theorem EO.so (h : EO w0 w b r V S T p gb cap m f) : SO w b r V S T p := ⟨h.ex.e, h.rb⟩
theorem SO.set (h : SO w b r V S T p) (y0 y1 y2 y3 : Value) : SO ((((w.setCell ⟨r, 0, none⟩ y0).setCell ⟨r, 1, none⟩ y1).setCell ⟨r, 2, none⟩ y2).setCell ⟨r, 3, none⟩ y3) b r V S T p := by
  obtain ⟨h1, x0, x1, x2, x3, h2⟩ := h
  have hn := Blk.ne_ h1 h2 (by decide)
  exact ⟨Blk.far (Blk.far (Blk.far (Blk.far h1 hn _) hn _) hn _) hn _, _, _, _, _, h2.four y0 y1 y2 y3⟩
theorem SO.drew (h : SO w b r V S T p) : SO w.drew b r V S T p := h
theorem SO.rule (b r : Nat) (V S T : Int) (p : Nat) : ∀ W : World, SO W b r V S T p → (W.cell? ⟨b, 0, none⟩ = some (.int .i64 V) ∧ W.cell? ⟨b, 1, none⟩ = some (.int .i64 S) ∧ W.cell? ⟨b, 2, none⟩ = some (.int .i64 T) ∧ W.cell? ⟨b, 3, none⟩ = some (.iface 84 (pmV p))) ∧
    (W.cell? ⟨r, 0, none⟩ = some (zAt W r 0) ∧ W.cell? ⟨r, 1, none⟩ = some (zAt W r 1) ∧ W.cell? ⟨r, 2, none⟩ = some (zAt W r 2) ∧ W.cell? ⟨r, 3, none⟩ = some (zAt W r 3)) ∧
    (W.frozen? ⟨r, 0, none⟩ = false ∧ W.frozen? ⟨r, 1, none⟩ = false ∧ W.frozen? ⟨r, 2, none⟩ = false ∧ W.frozen? ⟨r, 3, none⟩ = false) := by
  rintro W ⟨h1, x0, x1, x2, x3, h2⟩
  have z : ∀ i v, #[x0, x1, x2, x3][i]? = some v → W.cell? ⟨r, i, none⟩ = some (zAt W r i) := fun i v hv => by
    have := (h2.cell i).trans hv
    unfold zAt; rw [this]; rfl
  exact ⟨h1.cells, ⟨z 0 x0 rfl, z 1 x1 rfl, z 2 x2 rfl, z 3 x3 rfl⟩, h2.frozen 0, h2.frozen 1, h2.frozen 2, h2.frozen 3⟩
end
end Go.Proofs.YtdafnejphlcgdaaGreat

namespace Go.Proofs.YtdafnejphlcgdaaGreat
open Go.RowKit

set_option maxRecDepth 100000

/-- An edge's value. -/
abbrev vEd (u v l : Nat) (t : Bool) : Value := .agg #[.int .i64 (u : Int), .int .i64 (v : Int), .int .i64 (l : Int), .bool t]
section
variable {w w' w0 : World} {V S T : Int} {p gb cap m m' u v s l b r : Nat} {f f' : Nat → Int} {t : Bool}
theorem EO.rlt (h : EO w0 w b r V S T p gb cap m f) : r < w.heap.size := by obtain ⟨_, _, _, _, h⟩ := h.rb; exact h.lt
/-- A slot's edge stands in memory. -/
structure At (V S T : Int) (f : Nat → Int) (s u v l : Nat) (t : Bool) : Prop where
  uv : u < v
  hv : (v : Int) < V
  hs : (s : Int) < S
  hl : (l : Int) < lv V
  e : f (eC V S T u v) = eV s t
  e1 : f (sC S T s 1) = nV u v
  e2 : f (sC S T s 2) = (l : Int)
theorem ER.at {l : List E1} {x : E1} (h : ER V S T f l) (hx : x ∈ l) : At V S T f x.s x.u x.v x.l x.t := by
  obtain ⟨h1, h2, h3, h4⟩ := h.ok x hx
  obtain ⟨h5, h6, h7⟩ := h.is x hx
  exact ⟨h1, h2, h3, h4, h5, h6, h7⟩
set_option maxHeartbeats 2000000 in
theorem of_yes11 (h : EM w V S T p gb cap m f) (hA : At V S T f s u v l t) (hm : m ≤ 900000) :
    Calls Tryz.prog 68 #[vE V S T p, .int .i64 (s : Int)] w fun e w' => e = .returned (.tuple #[vEd u v l t, .bool true]) ∧ EM w' V S T p gb cap (m + 3) f ∧ Only p gb w w' := by
  have ml := methp_load
  have mn := nilp_load
  have H := Lib.hid (EO.new h)
  have HR := Lib.hid h.hR
  have HAt := Lib.hid hA
  have H1 : Hid (slotF S T (s : Int) 1 = ((sC S T s 1 : Nat) : Int)) := Lib.hid (sC_int h.hR hA.hs (k := 1) (by decide))
  have H2 : Hid (slotF S T (s : Int) 2 = ((sC S T s 2 : Nat) : Int)) := Lib.hid (sC_int h.hR hA.hs (k := 2) (by decide))
  have HL1 := Lib.hid (sC_lt (T := T) h.hR hA.hs (k := 1) (by decide))
  have HL2 := Lib.hid (sC_lt (T := T) h.hR hA.hs (k := 2) (by decide))
  have s0 : (0 : Int) ≤ (s : Int) := Int.natCast_nonneg _
  have u0 : (0 : Int) ≤ (u : Int) := Int.natCast_nonneg _
  have v0 : (0 : Int) ≤ (v : Int) := Int.natCast_nonneg _
  have l0 : (0 : Int) ≤ (l : Int) := Int.natCast_nonneg _
  have u16 : (u : Int) < 16 := by have := h.hR.v2; have := hA.uv; have := hA.hv; omega
  have v16 : (v : Int) < 16 := by have := h.hR.v2; have := hA.hv; omega
  have l5 : (l : Int) < 5 := by have := (lv_bd V).2; have := hA.hl; omega
  have wl : IntKind.i64.wrap (l : Int) = (l : Int) := IntWalk.i64_in _ (by omega)
  obtain ⟨n, hn⟩ : ∃ n, u * 256 + v = n := ⟨_, rfl⟩
  have HN : Hid (f (sC S T s 1) = ((n : Nat) : Int)) := Lib.hid (by rw [hA.e1, ← hn]; rfl)
  have q1 : ((n : Nat) : Int) / 256 = (u : Int) := by omega
  have q2 : bits .and .u64 ((n : Nat) : Int) 255 = (v : Int) := by rw [and_255 _ (by omega) (by omega)]; omega
  have HF2 := Lib.hid hA.e2
  clear h hn hA
  go_enter Tryz.func68, Tryz.ntmps68
  go_wp2_with fail
  generalize (w.alloc (.cells #[.int .i64 V, .int .i64 S, .int .i64 T, .iface 84 (pmV p)] 47)).alloc (.cells #[.int .i64 0, .int .i64 0, .int .i64 0, .bool false] 99) = w1 at H ⊢
  have hr9 : Hid (w.heap.size ≤ w.heap.size + 1) := Lib.hid (Nat.le_succ _)
  generalize w.heap.size + 1 = r at H hr9 ⊢
  generalize hbz : w.heap.size = b at H hr9 ⊢
  refine (hasSlot_yes HR.out s0 HAt.out.hs _).mono ?_; rintro e w2 ⟨rfl, hb2⟩
  have H3 := Lib.hid (H.out.below hb2)
  clear H hb2
  obtain ⟨⟨c0, c1, c2, c3⟩, ⟨d0, d1, d2, d3⟩, d4, d5, d6, d7⟩ := SO.rule _ _ _ _ _ _ _ H3.out.so
  have blt := H3.out.ex.e.lt
  have rlt := H3.out.rlt
  go_wp2_with fail
  clear c0 c1 c2 c3 d0 d1 d2 d3 d4 d5 d6 d7 blt rlt
  have HD := Lib.hid H3.out.drew
  obtain ⟨⟨c0, c1, c2, c3⟩, ⟨d0, d1, d2, d3⟩, d4, d5, d6, d7⟩ := SO.rule _ _ _ _ _ _ _ HD.out.so
  have blt := HD.out.ex.e.lt
  have rlt := HD.out.rlt
  have hrule := SO.rule b r V S T p
  go_region_held3 (fun W => SO W b r V S T p) (first | (with_reducible assumption) | (with_reducible exact H5.out.so) | (with_reducible exact H4.out.so) | (with_reducible exact HD.out.so))
    (first
      | (go_at_call 122; ((with_reducible refine (ends_yes V S T (s : Int) HR.out _).mono ?_); rintro e w2 ⟨rfl, hb2⟩; rw [H1.out]; have H4 := Lib.hid (HD.out.below hb2)))
      | ((with_reducible refine (em_load H4.out.ex.m HL1.out (by omega) rfl).mono ?_); rintro e w3 ⟨rfl, A3, O3⟩; rw [HN.out]; have H5 := Lib.hid (H4.out.next A3 O3))
      | fail)
  clear c0 c1 c2 c3 d0 d1 d2 d3 d4 d5 d6 d7 blt rlt
  clear hrule A3 O3 HD H3 H4 hb2
  obtain ⟨⟨c0, c1, c2, c3⟩, ⟨d0, d1, d2, d3⟩, d4, d5, d6, d7⟩ := SO.rule _ _ _ _ _ _ _ H5.out.so
  have blt := H5.out.ex.e.lt
  have rlt := H5.out.rlt
  go_wp2_with fail
  refine (find_yes H5.out.ex.m (by have := HAt.out.uv; have := HAt.out.hv; omega) HAt.out.hv (by have := HAt.out.uv; omega) HAt.out.hs HAt.out.e (by omega)).mono ?_; rintro e w6 ⟨rfl, A6, O6⟩
  have H6 := Lib.hid (H5.out.next A6 O6)
  clear A6 O6 H5
  clear c0 c1 c2 c3 d0 d1 d2 d3 d4 d5 d6 d7 blt rlt
  obtain ⟨⟨c0, c1, c2, c3⟩, ⟨d0, d1, d2, d3⟩, d4, d5, d6, d7⟩ := SO.rule _ _ _ _ _ _ _ H6.out.so
  have blt := H6.out.ex.e.lt
  have rlt := H6.out.rlt
  have sne : ((s : Int) != (s : Int)) = false := bne_self_eq_false _
  go_wp2_with fail
  clear c0 c1 c2 c3 d0 d1 d2 d3 d4 d5 d6 d7 blt rlt
  have HD := Lib.hid H6.out.drew
  obtain ⟨⟨c0, c1, c2, c3⟩, ⟨d0, d1, d2, d3⟩, d4, d5, d6, d7⟩ := SO.rule _ _ _ _ _ _ _ HD.out.so
  have blt := HD.out.ex.e.lt
  have rlt := HD.out.rlt
  have hrule := SO.rule b r V S T p
  go_region_held3 (fun W => SO W b r V S T p) (first | (with_reducible assumption) | (with_reducible exact SO.set H8.out.so _ _ _ _) | (with_reducible exact H8.out.so) | (with_reducible exact H7.out.so) | (with_reducible exact HD.out.so))
    (first
      | (go_at_call 70; ((with_reducible refine (level_yes V S T (s : Int) HR.out _).mono ?_); rintro e w2 ⟨rfl, hb2⟩; rw [H2.out]; have H7 := Lib.hid (HD.out.below hb2)))
      | ((with_reducible refine (em_load H7.out.ex.m HL2.out (by omega) rfl).mono ?_); rintro e w3 ⟨rfl, A3, O3⟩; rw [HF2.out]; have H8 := Lib.hid (H7.out.next A3 O3))
      | fail)
  have H9 := Lib.hid ((((H8.out.set 0 (.int .i64 (u : Int))).set 1 (.int .i64 (v : Int))).set 2 (.int .i64 (l : Int))).set 3 (.bool t))
  clear c0 c1 c2 c3 d0 d1 d2 d3 d4 d5 d6 d7 blt rlt
  obtain ⟨x0, x1, x2, x3, hblk⟩ := H8.out.rb
  have hb4 := hblk.four (.int .i64 (u : Int)) (.int .i64 (v : Int)) (.int .i64 (l : Int)) (.bool t)
  have d0 := hb4.cell 0
  have d1 := hb4.cell 1
  have d2 := hb4.cell 2
  have d3 := hb4.cell 3
  clear hrule hb2 A3 O3 H6 H7 HD hblk hb4
  go_wp2_with fail
  exact bodyPost_ret (v := .tuple #[vEd u v l t, .bool true]) (by simp [results, Tryz.results68, go_sem, d0, d1, d2, d3]) rfl ⟨rfl, H9.out.ex.m, H9.out.ex.o⟩
end
end Go.Proofs.YtdafnejphlcgdaaGreat

namespace Go.Proofs.YtdafnejphlcgdaaGreat
open Go.RowKit

set_option maxRecDepth 100000

section
variable {w w' w0 : World} {V S T : Int} {p gb cap m m' u v s l b r k : Nat} {f f' : Nat → Int} {t t2 : Bool}
set_option maxHeartbeats 2000000 in
theorem get_yes11 (h : EM w V S T p gb cap m f) (hA : At V S T f s u v l t) (hm : m ≤ 900000) :
    Calls Tryz.prog 48 #[vE V S T p, .int .i64 (s : Int)] w fun e w' => e = .returned (vEd u v l t) ∧ EM w' V S T p gb cap (m + 3) f ∧ Only p gb w w' := by
  have H := Lib.hid (EO.new h)
  have HAt := Lib.hid hA
  clear h hA
  go_enter Tryz.func48, Tryz.ntmps48
  go_wp2_with fail
  generalize (w.alloc (.cells #[.int .i64 V, .int .i64 S, .int .i64 T, .iface 84 (pmV p)] 47)).alloc (.cells #[.int .i64 0, .int .i64 0, .int .i64 0, .bool false] 99) = w1 at H ⊢
  generalize w.heap.size + 1 = r at H ⊢
  generalize w.heap.size = b at H ⊢
  refine (of_yes11 H.out.ex.m HAt.out hm).mono ?_; rintro e w2 ⟨rfl, A2, O2⟩
  have H2 := Lib.hid (H.out.next A2 O2)
  clear H A2 O2
  obtain ⟨⟨c0, c1, c2, c3⟩, ⟨d0, d1, d2, d3⟩, d4, d5, d6, d7⟩ := SO.rule _ _ _ _ _ _ _ H2.out.so
  have blt := H2.out.ex.e.lt
  have rlt := H2.out.rlt
  go_wp2_with fail
  clear c0 c1 c2 c3 d0 d1 d2 d3 d4 d5 d6 d7 blt rlt
  obtain ⟨x0, x1, x2, x3, hblk⟩ := H2.out.rb
  have hb4 := (hblk.four (.int .i64 (u : Int)) (.int .i64 (v : Int)) (.int .i64 (l : Int)) (.bool t)).alloc (.cells #[.int .i64 (u : Int), .int .i64 (v : Int), .int .i64 (l : Int), .bool t] 99)
  have d0 := hb4.cell 0
  have d1 := hb4.cell 1
  have d2 := hb4.cell 2
  have d3 := hb4.cell 3
  have H9 := Lib.hid (((((H2.out.set 0 (.int .i64 (u : Int))).set 1 (.int .i64 (v : Int))).set 2 (.int .i64 (l : Int))).set 3 (.bool t)).below ((Below.refl _ _).alloc (Nat.le_refl _) (.cells #[.int .i64 (u : Int), .int .i64 (v : Int), .int .i64 (l : Int), .bool t] 99)))
  exact bodyPost_ret (v := vEd u v l t) (by simp [results, Tryz.results48, go_sem, d0, d1, d2, d3]) rfl ⟨rfl, H9.out.ex.m, H9.out.ex.o⟩
set_option maxHeartbeats 2000000 in
theorem turn_yes11 (h : EM w V S T p gb cap m f) (hA : At V S T f s u v l t) (hm : m ≤ 900000) :
    Calls Tryz.prog 72 #[vE V S T p, .int .i64 (s : Int), .bool t2] w fun e w' => e = .returned (.tuple #[]) ∧ EM w' V S T p gb cap (m + 4) (upd f (eC V S T u v) (eV s t2)) ∧ Only p gb w w' := by
  have H := Lib.hid (EX.new h)
  have HAt := Lib.hid hA
  clear h hA
  go_enter Tryz.func72, Tryz.ntmps72
  go_wp2_with fail
  generalize w.alloc (.cells #[.int .i64 V, .int .i64 S, .int .i64 T, .iface 84 (pmV p)] 47) = w1 at H ⊢
  generalize w.heap.size = b at H ⊢
  refine (of_yes11 H.out.m HAt.out hm).mono ?_; rintro e w2 ⟨rfl, A2, O2⟩
  have H2 := Lib.hid (H.out.next A2 O2)
  clear H A2 O2
  obtain ⟨c0, c1, c2, c3⟩ := H2.out.e.cells
  have blt := H2.out.e.lt
  go_wp2_with fail
  have H3 := Lib.hid (H2.out.below ((Below.refl _ _).alloc (Nat.le_refl _) (.cells #[.int .i64 (u : Int), .int .i64 (v : Int), .int .i64 (l : Int), .bool t] 99)))
  refine (set_any H3.out.m (by have := HAt.out.uv; have := HAt.out.hv; omega) HAt.out.hv (by have := HAt.out.uv; omega) HAt.out.hs (by omega)).mono ?_; rintro e w4 ⟨rfl, A4, O4⟩
  have H4 := Lib.hid (H3.out.next A4 O4)
  clear H2 H3 A4 O4 c0 c1 c2 c3 blt
  go_wp2_with fail
  go_end0
  exact ⟨rfl, H4.out.m, H4.out.o⟩
set_option maxHeartbeats 2000000 in
theorem lift_yes11 (h : EM w V S T p gb cap m f) (hA : At V S T f s u v l t) (hk : (k : Int) < lv V) (hm : m ≤ 900000) :
    Calls Tryz.prog 26 #[vE V S T p, .int .i64 (s : Int), .int .i64 (k : Int)] w fun e w' => e = .returned (.tuple #[]) ∧ EM w' V S T p gb cap (m + 4) (upd f (sC S T s 2) (k : Int)) ∧ Only p gb w w' := by
  have ms := methp_store
  have mn := nilp_store
  have H := Lib.hid (EX.new h)
  have HR := Lib.hid h.hR
  have HAt := Lib.hid hA
  have HK := Lib.hid hk
  have H2i : Hid (slotF S T (s : Int) 2 = ((sC S T s 2 : Nat) : Int)) := Lib.hid (sC_int h.hR hA.hs (k := 2) (by decide))
  have HL2 := Lib.hid (sC_lt (T := T) h.hR hA.hs (k := 2) (by decide))
  have k0 : (0 : Int) ≤ (k : Int) := Int.natCast_nonneg _
  have k5 : (k : Int) < 5 := by have := (lv_bd V).2; omega
  have wq3 : IntKind.u64.wrap (k : Int) = (k : Int) := IntWalk.u64_in _ (by omega)
  clear h hA hk
  go_enter Tryz.func26, Tryz.ntmps26
  go_wp2_with fail
  generalize w.alloc (.cells #[.int .i64 V, .int .i64 S, .int .i64 T, .iface 84 (pmV p)] 47) = w1 at H ⊢
  generalize w.heap.size = b at H ⊢
  refine (of_yes11 H.out.m HAt.out hm).mono ?_; rintro e w2 ⟨rfl, A2, O2⟩
  have H2 := Lib.hid (H.out.next A2 O2)
  clear H A2 O2
  obtain ⟨c0, c1, c2, c3⟩ := H2.out.e.cells
  have blt := H2.out.e.lt
  go_wp2_with fail
  have H3 := Lib.hid (H2.out.below ((Below.refl _ _).alloc (Nat.le_refl _) (.cells #[.int .i64 (u : Int), .int .i64 (v : Int), .int .i64 (l : Int), .bool t] 99)))
  refine (hasLevel_yes HR.out k0 HK.out _).mono ?_; rintro e w5 ⟨rfl, hb5⟩
  have H5 := Lib.hid (H3.out.below hb5)
  clear H2 H3 hb5 c0 c1 c2 c3 blt
  obtain ⟨c0, c1, c2, c3⟩ := H5.out.e.cells
  have blt := H5.out.e.lt
  go_wp2_with fail
  have HD := Lib.hid H5.out.drew
  have hrule := EdB.rule b V S T p
  go_region_held3 (fun W => EdB W b V S T p) (first | (with_reducible assumption) | (with_reducible exact H7.out.e) | (with_reducible exact H6.out.e) | (with_reducible exact HD.out.e))
    (first
      | (go_at_call 70; ((with_reducible refine (level_yes V S T (s : Int) HR.out _).mono ?_); rintro e w2 ⟨rfl, hb2⟩; rw [H2i.out]; have H6 := Lib.hid (HD.out.below hb2)))
      | ((with_reducible refine (em_store (x := (k : Int)) H6.out.m HL2.out k0 (by omega) (by omega) rfl).mono ?_); rintro e w3 ⟨rfl, A3, O3⟩; have H7 := Lib.hid (H6.out.next A3 O3))
      | fail)
  clear c0 c1 c2 c3 blt hrule
  go_wp2_with fail
  go_end0
  exact ⟨rfl, H7.out.m, H7.out.o⟩
end
end Go.Proofs.YtdafnejphlcgdaaGreat

namespace Go.Proofs.YtdafnejphlcgdaaGreat
open Go.RowKit

set_option maxRecDepth 100000

/-- A cell that is no node's. -/
def rs (V S : Int) (g : Mg9) (i : Nat) : Int := (g (nN V S + 1 + i) 5 : Int)
section
variable {V S T : Int} {w w' : World} {p gb cap m m' : Nat} {f f' : Nat → Int} {g : Mg9} {ls : List E1}
theorem far_node (h : Rt V S T) {i : Nat} (hi : (i : Int) < o5 V S T) : ∀ x k, 1 ≤ x → x ≤ nN V S → 2 ≤ k → k ≤ 6 → i ≠ cN V S T x k := by
  intro x k h1 _ _ _ e
  have := cN_int (k := k) h h1
  omega
theorem Rl.rest (r : Rl V S T f g) (hR : Rt V S T) {i : Nat} (hi : (i : Int) < o5 V S T) : f i = rs V S g i := r.o i (far_node hR hi)
theorem TM.em (A : TM w V S T p gb cap m g) : ∃ f, EM w V S T p gb cap m f ∧ Rl V S T f g := by
  obtain ⟨c, f, A1, C, r⟩ := A.ar
  exact ⟨f, ⟨A.hR, c, A1, C⟩, r⟩
theorem TM.of_em (E : EM w' V S T p gb cap m' f) (r : Rl V S T f g) : TM w' V S T p gb cap m' g := by
  obtain ⟨hR, c, A1, C⟩ := E
  exact ⟨hR, c, f, A1, C, r⟩
theorem o5_cells (h : Rt V S T) {i : Nat} (hi : (i : Int) < o5 V S T) : i < cellsE V S T := by
  have h1 := cellsE_int h
  have h2 := (sizes h).nd1
  have h3 : cn V S T = o5 V S T + nd V S * 7 := by unfold cn o5; omega
  omega
/-- What is turned beside the nodes turns nothing of theirs. -/
theorem TM.back (E : EM w' V S T p gb cap m' f') (r : Rl V S T f g) (hd : ∀ i : Nat, o5 V S T ≤ (i : Int) → f' i = f i) :
    ∃ g', TM w' V S T p gb cap m' g' ∧ (∀ x k, x ≤ nN V S → g' x k = g x k) ∧ ∀ i : Nat, (i : Int) < o5 V S T → rs V S g' i = f' i := by
  obtain ⟨hR, c, A1, C⟩ := E
  have gz : ∀ x k, x ≤ nN V S → (if k = 5 ∧ nN V S < x ∧ ((x - nN V S - 1 : Nat) : Int) < o5 V S T then (f' (x - nN V S - 1)).toNat else g x k) = g x k := fun x k hx => if_neg (by omega)
  have gl : ∀ i : Nat, (i : Int) < o5 V S T → (((if (5 : Nat) = 5 ∧ nN V S < nN V S + 1 + i ∧ ((nN V S + 1 + i - nN V S - 1 : Nat) : Int) < o5 V S T then (f' (nN V S + 1 + i - nN V S - 1)).toNat else g (nN V S + 1 + i) 5) : Nat) : Int) = f' i := fun i hi => by
    have e : nN V S + 1 + i - nN V S - 1 = i := by omega
    rw [e, if_pos ⟨rfl, by omega, hi⟩]
    have := (A1.fit i (o5_cells hR hi)).1
    omega
  have cd : ∀ x k, 1 ≤ x → f' (cN V S T x k) = f (cN V S T x k) := fun x k h1 => hd _ (by have := cN_int (k := k) hR h1; omega)
  refine ⟨fun x k => if k = 5 ∧ nN V S < x ∧ ((x - nN V S - 1 : Nat) : Int) < o5 V S T then (f' (x - nN V S - 1)).toNat else g x k, ⟨hR, c, f', A1, C, ⟨fun k => (gz 0 k (Nat.zero_le _)).trans (r.z k), fun x k h1 h2 h3 h4 => ?_, fun x h1 h2 h3 => ?_, fun x h1 h2 h3 => ?_, fun x hx => ?_, fun i hi => ?_⟩⟩, gz, gl⟩
  · rw [cd x k h1]; show _ = ((_ : Nat) : Int); rw [gz x k h2]; exact r.c x k h1 h2 h3 h4
  · rw [cd x 2 h1]; show _ = ((_ : Nat) : Int); rw [gz x 2 h2]; exact r.a x h1 h2 h3
  · rw [cd x 2 h1]; exact ⟨(r.p x h1 h2 h3).1, by show _ = ((_ : Nat) : Int); rw [gz x 2 h2]; exact (r.p x h1 h2 h3).2⟩
  · rw [gz x 2 hx, gz x 3 hx, gz x 4 hx]; exact r.b x hx
  · by_cases h : (i : Int) < o5 V S T
    · exact (gl i h).symm
    · rw [hd i (by omega), r.o i hi]
      have e : nN V S + 1 + i - nN V S - 1 = i := by omega
      show _ = ((_ : Nat) : Int)
      rw [e, if_neg (by omega)]
/-- Edges are told by cells that are no node's. -/
theorem ER.beside (h : ER V S T f ls) (hR : Rt V S T) (he : ∀ i : Nat, (i : Int) < o5 V S T → f' i = f i) : ER V S T f' ls := by
  have e1 : ∀ u v : Nat, (u : Int) < V → (v : Int) < V → u ≠ v → f' (eC V S T u v) = f (eC V S T u v) := fun u v hu hv hne => he _ (by
    have := eC_lo hR hu hv hne
    have e : o4 V S T + pr V = o5 V S T := by unfold o4 o5; omega
    omega)
  have e2 : ∀ s k : Nat, (s : Int) < S → k < 7 → f' (sC S T s k) = f (sC S T s k) := fun s k hs hk => he _ (by
    have h1 := sC_spec (T := T) hs hk
    have h2 := sC_int hR hs hk
    have h3 := (sizes hR).vn1
    have h4 := (sizes hR).pr1
    unfold o5
    omega)
  refine ⟨h.ok, h.un, fun e hx => ?_, fun u v huv hv hn => ?_⟩
  · obtain ⟨a, b, c, d⟩ := h.ok e hx
    rw [e1 e.u e.v (by omega) b (by omega), e2 e.s 1 c (by omega), e2 e.s 2 c (by omega)]
    exact h.is e hx
  · rw [e1 u v (by omega) hv (by omega)]; exact h.no u v huv hv hn
end
end Go.Proofs.YtdafnejphlcgdaaGreat

namespace Go.Proofs.YtdafnejphlcgdaaGreat
open Go.RowKit

set_option maxRecDepth 100000

/-- Nothing of a node is turned. -/
def Bs (V S : Int) (g g' : Mg9) : Prop := ∀ x k, x ≤ nN V S → g' x k = g x k
section
variable {V S T : Int} {w w' : World} {p gb cap m m' s u v l : Nat} {t t2 : Bool} {f f' : Nat → Int} {g g' g2 : Mg9} {ls : List E1} {mk : Nat → Nat} {ts : List Tp}
theorem Bs.refl (V S : Int) (g : Mg9) : Bs V S g g := fun _ _ _ => rfl
theorem Bs.trans (h : Bs V S g g') (h2 : Bs V S g' g2) : Bs V S g g2 := fun x k hx => (h2 x k hx).trans (h x k hx)
theorem Hp.pri_row {pri pri' : Nat → Nat} : ∀ {t : Tp}, Hp pri t → (∀ y ∈ t.row, pri' y = pri y) → Hp pri' t
  | .nil, _, _ => trivial
  | .node l x r, h, e => by
    have el : ∀ y ∈ l.row, pri' y = pri y := fun y hy => e y (by simp [Tp.row, hy])
    have ex : pri' x = pri x := e x (by simp [Tp.row])
    have er : ∀ y ∈ r.row, pri' y = pri y := fun y hy => e y (by simp [Tp.row, hy])
    refine ⟨fun y hy => ?_, fun y hy => ?_, h.2.2.1.pri_row el, h.2.2.2.pri_row er⟩
    · have := h.1 y hy; unfold ab at this ⊢; rw [ex, el y hy]; exact this
    · have := h.2.1 y hy; unfold ab at this ⊢; rw [ex, er y hy]; exact this
theorem FI.beside (h : FI V S g mk ts) (hb : Bs V S g g') : FI V S g' mk ts :=
  ⟨h.hm, fun t ht => ⟨(h.st t ht).1.same (h.one ht) fun x hx k => hb x k (h.nodes ht x hx).2, (h.st t ht).2.1.pri_row fun y hy => hb y 5 (h.nodes ht y hy).2, (h.st t ht).2.2⟩, h.nd, h.al⟩
/-- What is turned beside the nodes, told of the cells beside them. -/
theorem TM.turned {U : (Nat → Int) → Nat → Int} (hR : Rt V S T) (r : Rl V S T f g) (E : EM w' V S T p gb cap m' (U f)) (hU : ∀ a b i, a i = b i → U a i = U b i) (hd : ∀ a (i : Nat), o5 V S T ≤ (i : Int) → U a i = a i) :
    ∃ g', TM w' V S T p gb cap m' g' ∧ Bs V S g g' ∧ ∀ i : Nat, (i : Int) < o5 V S T → rs V S g' i = U (rs V S g) i := by
  obtain ⟨g', h1, h2, h3⟩ := TM.back E r (hd f)
  exact ⟨g', h1, h2, fun i hi => (h3 i hi).trans (hU _ _ i (r.rest hR hi))⟩
theorem upd_loc {k : Nat} {x : Int} (a b : Nat → Int) (i : Nat) (h : a i = b i) : upd a k x i = upd b k x i := by unfold upd; split; rfl; exact h
theorem eC_o5 (hR : Rt V S T) (hu : (u : Int) < V) (hv : (v : Int) < V) (hne : u ≠ v) : ((eC V S T u v : Nat) : Int) < o5 V S T := by
  have := eC_lo hR hu hv hne
  have e : o4 V S T + pr V = o5 V S T := by unfold o4 o5; omega
  omega
theorem sC_o5 {k : Nat} (hR : Rt V S T) (hs : (s : Int) < S) (hk : k < 7) : ((sC S T s k : Nat) : Int) < o5 V S T := by
  have h1 := sC_spec (T := T) hs hk
  have h2 := sC_int hR hs hk
  have h3 := (sizes hR).vn1
  have h4 := (sizes hR).pr1
  unfold o5
  omega
theorem upd_far {k : Nat} {x : Int} (hk : (k : Int) < o5 V S T) (a : Nat → Int) (i : Nat) (h : o5 V S T ≤ (i : Int)) : upd a k x i = a i := upd_other _ _ (by omega)
theorem tget (A : TM w V S T p gb cap m g) (hE : ER V S T (rs V S g) ls) {x : E1} (hx : x ∈ ls) (hm : m ≤ 900000) :
    Calls Tryz.prog 48 #[vE V S T p, .int .i64 (x.s : Int)] w (Did V S T p gb cap (m + 3) g (vEd x.u x.v x.l x.t) w) := by
  obtain ⟨f, E, r⟩ := A.em
  refine (get_yes11 E ((hE.beside A.hR fun i hi => r.rest A.hR hi).at hx) hm).mono ?_; rintro e w' ⟨rfl, E', O⟩
  exact ⟨rfl, .of_em E' r, O⟩
/-- A call that turns cells beside the nodes. -/
def Dur (V S T : Int) (p gb cap m : Nat) (g : Mg9) (h : Nat → Int) (r : Value) (w : World) (e : Ending) (w' : World) : Prop :=
  ∃ g', e = .returned r ∧ TM w' V S T p gb cap m g' ∧ Bs V S g g' ∧ (∀ i : Nat, (i : Int) < o5 V S T → rs V S g' i = h i) ∧ Only p gb w w'
theorem tput (A : TM w V S T p gb cap m g) (hu : (u : Int) < V) (hv : (v : Int) < V) (hne : u ≠ v) (hs : (s : Int) < S) (hl : (l : Int) < lv V) (hm : m ≤ 900000) :
    Calls Tryz.prog 82 #[vE V S T p, .int .i64 (s : Int), .int .i64 (u : Int), .int .i64 (v : Int), .int .i64 (l : Int), .bool t] w (Dur V S T p gb cap (m + 3) g (putF V S T (rs V S g) ⟨s, min u v, max u v, l, t⟩) (.tuple #[]) w) := by
  obtain ⟨f, E, r⟩ := A.em
  refine (put_any E hu hv hne hs hl hm).mono ?_; rintro e w' ⟨rfl, E', O⟩
  obtain ⟨g', h1, h2, h3⟩ := TM.turned (U := fun a => putF V S T a ⟨s, min u v, max u v, l, t⟩) A.hR r E' (fun a b i h => upd_loc _ _ _ (upd_loc _ _ _ (upd_loc _ _ _ h))) (fun a i hi =>
    (upd_far (eC_o5 A.hR (u := min u v) (v := max u v) (by omega) (by omega) (by omega)) _ i hi).trans ((upd_far (sC_o5 A.hR hs (by omega)) _ i hi).trans (upd_far (sC_o5 A.hR hs (by omega)) _ i hi)))
  exact ⟨g', rfl, h1, h2, h3, O⟩
theorem tremove (A : TM w V S T p gb cap m g) (hu : (u : Int) < V) (hv : (v : Int) < V) (hne : u ≠ v) (hm : m ≤ 1000000) :
    Calls Tryz.prog 39 #[vE V S T p, .int .i64 (u : Int), .int .i64 (v : Int)] w (Dur V S T p gb cap (m + 1) g (upd (rs V S g) (eC V S T u v) 0) (.tuple #[]) w) := by
  obtain ⟨f, E, r⟩ := A.em
  refine (remove_any E hu hv hne hm).mono ?_; rintro e w' ⟨rfl, E', O⟩
  obtain ⟨g', h1, h2, h3⟩ := TM.turned (U := fun a => upd a (eC V S T u v) 0) A.hR r E' (fun a b i h => upd_loc _ _ _ h) (fun a i hi => upd_far (eC_o5 A.hR hu hv hne) _ i hi)
  exact ⟨g', rfl, h1, h2, h3, O⟩
theorem tlift (A : TM w V S T p gb cap m g) (hE : ER V S T (rs V S g) ls) {x : E1} (hx : x ∈ ls) {k : Nat} (hk : (k : Int) < lv V) (hm : m ≤ 900000) :
    Calls Tryz.prog 26 #[vE V S T p, .int .i64 (x.s : Int), .int .i64 (k : Int)] w (Dur V S T p gb cap (m + 4) g (upd (rs V S g) (sC S T x.s 2) (k : Int)) (.tuple #[]) w) := by
  obtain ⟨f, E, r⟩ := A.em
  refine (lift_yes11 E ((hE.beside A.hR fun i hi => r.rest A.hR hi).at hx) hk hm).mono ?_; rintro e w' ⟨rfl, E', O⟩
  obtain ⟨g', h1, h2, h3⟩ := TM.turned (U := fun a => upd a (sC S T x.s 2) (k : Int)) A.hR r E' (fun a b i h => upd_loc _ _ _ h) (fun a i hi => upd_far (sC_o5 A.hR (hE.ok x hx).2.2.1 (by omega)) _ i hi)
  exact ⟨g', rfl, h1, h2, h3, O⟩
theorem tturn (A : TM w V S T p gb cap m g) (hE : ER V S T (rs V S g) ls) {x : E1} (hx : x ∈ ls) (hm : m ≤ 900000) :
    Calls Tryz.prog 72 #[vE V S T p, .int .i64 (x.s : Int), .bool t2] w (Dur V S T p gb cap (m + 4) g (upd (rs V S g) (eC V S T x.u x.v) (eV x.s t2)) (.tuple #[]) w) := by
  obtain ⟨f, E, r⟩ := A.em
  obtain ⟨o1, o2, o3, o4⟩ := hE.ok x hx
  refine (turn_yes11 E ((hE.beside A.hR fun i hi => r.rest A.hR hi).at hx) hm).mono ?_; rintro e w' ⟨rfl, E', O⟩
  obtain ⟨g', h1, h2, h3⟩ := TM.turned (U := fun a => upd a (eC V S T x.u x.v) (eV x.s t2)) A.hR r E' (fun a b i h => upd_loc _ _ _ h) (fun a i hi => upd_far (eC_o5 A.hR (by omega) o2 (by omega)) _ i hi)
  exact ⟨g', rfl, h1, h2, h3, O⟩
/-- A cell beside the nodes is loaded, stored. -/
theorem tcell (A : TM w V S T p gb cap m g) {i : Nat} (hi : (i : Int) < o5 V S T) (hm : m ≤ 1000000) :
    Calls Tryz.prog 182 #[pmV p, .int .i64 (i : Int)] w (Did V S T p gb cap (m + 1) g (.int .u64 (rs V S g i)) w) := by
  obtain ⟨c, f, A1, C, r⟩ := A.ar
  refine (pm_load A1 (o5_cells A.hR hi) C hm).mono ?_; rintro e w' ⟨rfl, A2, O⟩
  rw [r.rest A.hR hi]
  exact ⟨rfl, ⟨A.hR, _, _, A2, C.upd 0, r⟩, O⟩
theorem tcells (A : TM w V S T p gb cap m g) {i : Nat} (hi : (i : Int) < o5 V S T) {x : Int} (h0 : 0 ≤ x) (h1 : x ≤ 18446744073709551615) (hm : m ≤ 1000000) :
    Calls Tryz.prog 183 #[pmV p, .int .i64 (i : Int), .int .u64 x] w (Dur V S T p gb cap (m + 1) g (upd (rs V S g) i x) (.tuple #[]) w) := by
  obtain ⟨c, f, A1, C, r⟩ := A.ar
  refine (pm_store A1 (o5_cells A.hR hi) h0 h1 C hm).mono ?_; rintro e w' ⟨rfl, A2, O⟩
  obtain ⟨g', h1, h2, h3⟩ := TM.turned (U := fun a => upd a i x) A.hR r ⟨A.hR, _, A2, C.upd 1⟩ (fun a b i h => upd_loc _ _ _ h) (fun a i h => upd_far hi _ i h)
  exact ⟨g', rfl, h1, h2, h3, O⟩
end
end Go.Proofs.YtdafnejphlcgdaaGreat

namespace Go.Proofs.YtdafnejphlcgdaaGreat
open Go.RowKit

/-- A side's cells. (Sides as cells have them: from 1 on.) -/
def nxC (S T : Int) (x : Nat) : Nat := sC S T ((x - 1) / 2) (3 + (x - 1) % 2)
def pvC (S T : Int) (x : Nat) : Nat := sC S T ((x - 1) / 2) (5 + (x - 1) % 2)
def hC (V S T : Int) (v l : Nat) : Nat := (headF V S T (v : Int) (l : Int)).toNat
/-- From a, at x, through l, to b, at y. -/
def Part (S T : Int) (f : Nat → Int) : Nat → Nat → List Nat → Nat → Nat → Prop
  | a, x, [], b, y => a = b ∧ x = y
  | a, x, z :: l, b, y => x = z ∧ z ≠ 0 ∧ f (pvC S T z) = (a : Int) ∧ ∃ n : Nat, f (nxC S T z) = (n : Int) ∧ Part S T f z n l b y
section
variable {S T : Int} {f f' : Nat → Int} {a x b y c z n : Nat} {l l1 l2 : List Nat}
theorem Part.cong : ∀ {l : List Nat} {a x : Nat}, Part S T f a x l b y → (∀ z ∈ l, f' (pvC S T z) = f (pvC S T z) ∧ f' (nxC S T z) = f (nxC S T z)) → Part S T f' a x l b y
  | [], _, _, h, _ => h
  | z :: l, a, x, ⟨h1, h2, h3, n, h4, h5⟩, e => ⟨h1, h2, (e z (by simp)).1.trans h3, n, (e z (by simp)).2.trans h4, h5.cong fun z' hz => e z' (by simp [hz])⟩
theorem Part.join : ∀ {l1 : List Nat} {a x : Nat}, Part S T f a x l1 b y → Part S T f b y l2 c z → Part S T f a x (l1 ++ l2) c z
  | [], _, _, ⟨rfl, rfl⟩, h => h
  | _ :: _, _, _, ⟨h1, h2, h3, n, h4, h5⟩, h => ⟨h1, h2, h3, n, h4, h5.join h⟩
theorem Part.split : ∀ {l1 : List Nat} {a x : Nat}, Part S T f a x (l1 ++ l2) c z → ∃ b y, Part S T f a x l1 b y ∧ Part S T f b y l2 c z
  | [], a, x, h => ⟨a, x, ⟨rfl, rfl⟩, h⟩
  | _ :: _, _, _, ⟨h1, h2, h3, n, h4, h5⟩ => by
    obtain ⟨b, y, h6, h7⟩ := h5.split
    exact ⟨b, y, ⟨h1, h2, h3, n, h4, h6⟩, h7⟩
/-- The one that one comes from is the last one of what was gone through. -/
theorem Part.last : ∀ {l : List Nat} {a x : Nat}, Part S T f a x l b y → b = l.getLast?.getD a
  | [], _, _, ⟨h, _⟩ => h.symm
  | z :: l, a, x, ⟨_, _, _, n, _, h5⟩ => by
    have := h5.last
    rw [this, List.getLast?_cons]
    cases l.getLast? <;> rfl
theorem Part.head' (h : Part S T f a x l b 0) : x = l.headD 0 := by
  cases l with
  | nil => exact h.2
  | cons z l => exact h.1
/-- What ends a list turned: the next one of its last one, or the head. -/
theorem Part.ends : ∀ {l : List Nat} {a x : Nat}, Part S T f a x l b y → l.Nodup → (∀ z ∈ l, f' (pvC S T z) = f (pvC S T z)) → (∀ z ∈ l, z ≠ b → f' (nxC S T z) = f (nxC S T z)) → (l ≠ [] → f' (nxC S T b) = (n : Int)) → (x' : Nat) → (l = [] → x' = n) → (l ≠ [] → x' = x) → Part S T f' a x' l b n
  | [], _, _, h, _, _, _, _, x', e, _ => ⟨h.1, e rfl⟩
  | z :: l, a, x, ⟨h1, h2, h3, m, h4, h5⟩, hn, e1, e2, e3, x', _, e5 => by
    have hx' : x' = z := (e5 (by simp)).trans h1
    have hb := Part.last h5
    obtain ⟨hz, hl⟩ := List.nodup_cons.1 hn
    by_cases h0 : l = []
    · subst h0
      have hb' : b = z := hb
      subst hb'
      exact ⟨hx', h2, (e1 b (by simp)).trans h3, n, e3 (by simp), ⟨rfl, rfl⟩⟩
    · have hbl : b ∈ l := by
        rw [hb, List.getLast?_eq_some_getLast h0]; exact List.getLast_mem h0
      have hzb : z ≠ b := fun e => hz (e ▸ hbl)
      exact ⟨hx', h2, (e1 z (by simp)).trans h3, m, (e2 z (by simp) hzb).trans h4, Part.ends h5 hl (fun y hy => e1 y (by simp [hy])) (fun y hy => e2 y (by simp [hy])) (fun _ => e3 (by simp)) m (fun e => absurd e h0) (fun _ => rfl)⟩
/-- One comes first. -/
theorem Part.front (h : Part S T f 0 x l b 0) (hn : l.Nodup) (hz : z ≠ 0) (h1 : f' (pvC S T z) = 0) (h2 : f' (nxC S T z) = (x : Int)) (h3 : x ≠ 0 → f' (pvC S T x) = (z : Int))
    (e1 : ∀ y ∈ l, f' (nxC S T y) = f (nxC S T y)) (e2 : ∀ y ∈ l, y ≠ x → f' (pvC S T y) = f (pvC S T y)) : ∃ b', Part S T f' 0 z (z :: l) b' 0 := by
  cases l with
  | nil => exact ⟨z, rfl, hz, h1, x, h2, rfl, h.2⟩
  | cons y l =>
    obtain ⟨rfl, g2, g3, n, g4, g5⟩ := h
    obtain ⟨hy, hl⟩ := List.nodup_cons.1 hn
    exact ⟨b, rfl, hz, h1, x, h2, rfl, g2, h3 g2, n, (e1 x (by simp)).trans g4, g5.cong fun u hu => ⟨e2 u (by simp [hu]) fun e => hy (e ▸ hu), e1 u (by simp [hu])⟩⟩
/-- One goes out. -/
theorem Part.out {p x' : Nat} (h : Part S T f 0 x (l1 ++ z :: l2) c 0) (hn : (l1 ++ z :: l2).Nodup) (hp : p = l1.getLast?.getD 0) (hz : f (nxC S T z) = (n : Int))
    (h1 : l1 = [] → x' = n) (h2 : l1 ≠ [] → x' = x ∧ f' (nxC S T p) = (n : Int)) (h3 : n ≠ 0 → f' (pvC S T n) = (p : Int))
    (e1 : ∀ y ∈ l1, f' (pvC S T y) = f (pvC S T y)) (e2 : ∀ y ∈ l1, y ≠ p → f' (nxC S T y) = f (nxC S T y)) (e3 : ∀ y ∈ l2, f' (nxC S T y) = f (nxC S T y)) (e4 : ∀ y ∈ l2, y ≠ n → f' (pvC S T y) = f (pvC S T y)) :
    f (pvC S T z) = (p : Int) ∧ ∃ c', Part S T f' 0 x' (l1 ++ l2) c' 0 := by
  obtain ⟨b, y, g1, rfl, g2, g3, m, g4, g5⟩ := h.split
  have hb : b = p := (Part.last g1).trans hp.symm
  subst hb
  have em : m = n := by rw [g4] at hz; omega
  subst em
  obtain ⟨n1, n2, n3⟩ := List.nodup_append.1 hn
  have G := Part.ends (n := m) (x' := x') g1 n1 e1 e2 (fun e => (h2 e).2) h1 fun e => (h2 e).1
  refine ⟨g3, ?_⟩
  cases l2 with
  | nil => exact ⟨b, by rw [List.append_nil]; rw [g5.2] at G; exact G⟩
  | cons u l3 =>
    obtain ⟨rfl, k2, k3, k, k4, k5⟩ := g5
    obtain ⟨_, n4⟩ := List.nodup_cons.1 n2
    obtain ⟨n5, _⟩ := List.nodup_cons.1 n4
    exact ⟨c, G.join ⟨rfl, k2, h3 k2, k, (e3 m (by simp)).trans k4, k5.cong fun u hu => ⟨e4 u (by simp [hu]) fun e => n5 (e ▸ hu), e3 u (by simp [hu])⟩⟩⟩
end
end Go.Proofs.YtdafnejphlcgdaaGreat

namespace Go.Proofs.YtdafnejphlcgdaaGreat
open Go.RowKit
section
variable {V S T : Int} {w w' : World} {p gb cap m k x i : Nat} {g g' : Mg9} {mk : Nat → Nat} {ts : List Tp} {t : Tp}
theorem rs_same (h : ∀ y, g' y 5 = g y 5) (i : Nat) : rs V S g' i = rs V S g i := by unfold rs; rw [h]
theorem tmarkR (A : TM w V S T p gb cap m g) (hF : FI V S g mk ts) {on : Bool} (h1 : x ≠ 0) (h2 : x ≤ nN V S) (hk : k < 2) (hm : m ≤ 960000) {xa ka : Int} (hxa : xa = (x : Int)) (hka : ka = (k : Int)) :
    Calls Tryz.prog 63 #[vTr V S T p, .int .i64 xa, .int .i64 ka, .bool on] w fun e w' => ∃ g', e = .returned (.tuple #[]) ∧ TM w' V S T p gb cap (m + 7 + 7 * nN V S) g' ∧ FI V S g' (mkSet mk x k on) ts ∧ (∀ i, rs V S g' i = rs V S g i) ∧ Only p gb w w' := by
  refine (fmark A hF h1 h2 hk hm hxa hka).mono ?_
  rintro e w' ⟨g', rfl, h3, h4, h5, h6⟩
  exact ⟨g', rfl, h3, h5, rs_same h4, h6⟩
theorem tmarkedR (A : TM w V S T p gb cap m g) (hF : FI V S g mk ts) (h1 : x ≠ 0) (h2 : x ≤ nN V S) (hk : k < 2) (hm : m ≤ 980000) {xI kI : Int} (hxI : xI = (x : Int)) (hkI : kI = (k : Int)) :
    Calls Tryz.prog 61 #[vTr V S T p, .int .i64 xI, .int .i64 kI] w (Did V S T p gb cap (m + 1) g (.bool (hasB (mk x) k)) w) := by
  obtain ⟨t, ht, hx⟩ := (hF.al x).1 ⟨h1, h2⟩
  obtain ⟨i, hi⟩ := List.mem_iff_getElem?.1 ht
  exact fmarked A hF hi hx hk hm hxI hkI
end
end Go.Proofs.YtdafnejphlcgdaaGreat
