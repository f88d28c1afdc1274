/- Edges' cells in a lay, plainly; the document's list of edges, and the memory that tells it. -/
import Derived.Test.YtaooglagddphnaaZB
namespace Go.Proofs.Ytaooglagddphnaa
open Go.RowKit

set_option maxRecDepth 100000

/-- The cell of two vertices; a slot's cell. -/
def eC (V S T : Int) (u v : Nat) : Nat := (edgeF V S T (u : Int) (v : Int)).toNat
def sC (S T : Int) (s k : Nat) : Nat := (slotF S T (s : Int) (k : Int)).toNat
def cellsE (V S T : Int) : Nat := (cn V S T).toNat
section
variable {V S T : Int} {u v u' v' s s' k k' : Nat}
theorem cellsE_le (h : Rt V S T) : cellsE V S T ≤ 16384 := by
  have := sizes h
  have h1 := this.vn2; have h2 := this.pr2; have h3 := this.nd2; have h4 := h.s2; have h5 := h.t2
  unfold cellsE cn; omega
theorem cellsE_int (h : Rt V S T) : ((cellsE V S T : Nat) : Int) = cn V S T := by
  have := sizes h
  have h1 := this.vn1; have h2 := this.pr1; have h3 := this.nd1; have h4 := h.s1; have h5 := h.t1
  unfold cellsE cn; omega
theorem eC_spec (hu : (u : Int) < V) (hv : (v : Int) < V) (hne : u ≠ v) : edgeF V S T (u : Int) (v : Int) = o4 V S T + (ahF V (min (u : Int) v) + max (u : Int) v - min (u : Int) v - 1) ∧ 0 ≤ ahF V (min (u : Int) v) + max (u : Int) v - min (u : Int) v - 1 ∧ ahF V (min (u : Int) v) + max (u : Int) v - min (u : Int) v - 1 < pr V :=
  (edge_spec (V := V) (S := S) (T := T) u v).1 (by omega)
theorem o4_pos (h : Rt V S T) : 0 ≤ o4 V S T := by
  have := (sizes h).vn1; have h4 := h.s1; have h5 := h.t1
  unfold o4; omega
theorem eC_int (h : Rt V S T) (hu : (u : Int) < V) (hv : (v : Int) < V) (hne : u ≠ v) : edgeF V S T (u : Int) (v : Int) = ((eC V S T u v : Nat) : Int) := by
  have h1 := eC_spec (S := S) (T := T) hu hv hne
  have h2 := o4_pos h
  unfold eC; omega
theorem eC_lo (h : Rt V S T) (hu : (u : Int) < V) (hv : (v : Int) < V) (hne : u ≠ v) : o4 V S T ≤ ((eC V S T u v : Nat) : Int) ∧ ((eC V S T u v : Nat) : Int) < o4 V S T + pr V := by
  have h1 := eC_spec (S := S) (T := T) hu hv hne
  have h2 := eC_int h hu hv hne
  omega
theorem eC_lt (h : Rt V S T) (hu : (u : Int) < V) (hv : (v : Int) < V) (hne : u ≠ v) : eC V S T u v < cellsE V S T := by
  have h1 := eC_lo h hu hv hne
  have h2 := cellsE_int h
  have h3 := (sizes h).nd1
  unfold cn at h2; unfold o4 at h1; omega
theorem eC_turn (u v : Nat) : eC V S T u v = eC V S T v u := by
  have e1 : min (u : Int) v = min (v : Int) u := by omega
  have e2 : max (u : Int) v = max (v : Int) u := by omega
  unfold eC edgeF
  rw [e1, e2]
  by_cases h : (u : Int) = v
  · rw [h]
  · have : (v : Int) ≠ u := fun e => h e.symm
    simp [h, this]
theorem eC_minmax (u v : Nat) : eC V S T (min u v) (max u v) = eC V S T u v := by
  by_cases h : u ≤ v
  · rw [Nat.min_eq_left h, Nat.max_eq_right h]
  · rw [Nat.min_eq_right (by omega), Nat.max_eq_left (by omega), eC_turn]
theorem eC_inj (h : Rt V S T) (hu : (u : Int) < V) (hv : (v : Int) < V) (hne : u < v) (hu' : (u' : Int) < V) (hv' : (v' : Int) < V) (hne' : u' < v') (e : eC V S T u v = eC V S T u' v') : u = u' ∧ v = v' := by
  have h1 := eC_int h hu hv (by omega)
  have h2 := eC_int h hu' hv' (by omega)
  have e2 : edgeF V S T (u : Int) v = edgeF V S T (u' : Int) v' := by rw [h1, h2, e]
  have h3 := edge_inj (by omega) e2
  have h4 := (eC_spec (S := S) (T := T) hu hv (by omega)).1
  have h5 := (eC_spec (S := S) (T := T) hu' hv' (by omega)).1
  rw [h4, h5, h3] at e2
  omega
theorem sC_spec (hs : (s : Int) < S) (hk : k < 7) : slotF S T (s : Int) (k : Int) = T + 1 + s * 7 + k := if_pos (by omega)
theorem sC_int (h : Rt V S T) (hs : (s : Int) < S) (hk : k < 7) : slotF S T (s : Int) (k : Int) = ((sC S T s k : Nat) : Int) := by
  have h1 := sC_spec (T := T) hs hk
  have h2 := h.t1
  unfold sC; omega
theorem sC_lt (h : Rt V S T) (hs : (s : Int) < S) (hk : k < 7) : sC S T s k < cellsE V S T := by
  have h1 := sC_spec (T := T) hs hk
  have h2 := sC_int h hs hk
  have h3 := cellsE_int h
  have := sizes h
  have h4 := this.vn1; have h5 := this.pr1; have h6 := this.nd1
  unfold cn at h3; omega
theorem sC_inj (h : Rt V S T) (hs : (s : Int) < S) (hk : k < 7) (hs' : (s' : Int) < S) (hk' : k' < 7) (e : sC S T s k = sC S T s' k') : s = s' ∧ k = k' := by
  have h1 := sC_spec (T := T) hs hk
  have h2 := sC_int h hs hk
  have h3 := sC_spec (T := T) hs' hk'
  have h4 := sC_int h hs' hk'
  omega
theorem sC_eC (h : Rt V S T) (hs : (s : Int) < S) (hk : k < 7) (hu : (u : Int) < V) (hv : (v : Int) < V) (hne : u ≠ v) : sC S T s k ≠ eC V S T u v := fun e => by
  have h1 := sC_spec (T := T) hs hk
  have h2 := sC_int h hs hk
  have h3 := eC_lo h hu hv hne
  have h4 := (sizes h).vn1
  unfold o4 at h3; omega
end

/-- An edge, and its slot. -/
structure E1 where
  s : Nat
  u : Nat
  v : Nat
  l : Nat
  t : Bool
def bN (b : Bool) : Nat := if b then 1 else 0
theorem bN_le (b : Bool) : bN b ≤ 1 := by cases b <;> decide
/-- What the cell of an edge's vertices has. -/
def eV (s : Nat) (t : Bool) : Int := (((s + 1) * 2 + bN t : Nat) : Int)
def nV (u v : Nat) : Int := ((u * 256 + v : Nat) : Int)
/-- The memory tells just these edges. -/
structure ER (V S T : Int) (f : Nat → Int) (l : List E1) : Prop where
  ok : ∀ e ∈ l, e.u < e.v ∧ (e.v : Int) < V ∧ (e.s : Int) < S ∧ (e.l : Int) < lv V
  un : l.Pairwise fun a b => a.s ≠ b.s ∧ ¬ (a.u = b.u ∧ a.v = b.v)
  is : ∀ e ∈ l, f (eC V S T e.u e.v) = eV e.s e.t ∧ f (sC S T e.s 1) = nV e.u e.v ∧ f (sC S T e.s 2) = (e.l : Int)
  no : ∀ u v : Nat, u < v → (v : Int) < V → (∀ e ∈ l, ¬ (e.u = u ∧ e.v = v)) → f (eC V S T u v) = 0
section
variable {V S T : Int} {f : Nat → Int} {l : List E1} {x y : E1} {i j : Nat}
theorem ER.slot1 (h : ER V S T f l) (hi : l[i]? = some x) (hj : l[j]? = some y) (e : x.s = y.s) : i = j := by
  rcases Nat.lt_trichotomy i j with c | c | c
  · have ⟨h1, e1⟩ := List.getElem?_eq_some_iff.1 hi
    have ⟨h2, e2⟩ := List.getElem?_eq_some_iff.1 hj
    have := (List.pairwise_iff_getElem.1 h.un i j h1 h2 c).1
    rw [e1, e2] at this; exact absurd e this
  · exact c
  · have ⟨h1, e1⟩ := List.getElem?_eq_some_iff.1 hi
    have ⟨h2, e2⟩ := List.getElem?_eq_some_iff.1 hj
    have := (List.pairwise_iff_getElem.1 h.un j i h2 h1 c).1
    rw [e1, e2] at this; exact absurd e.symm this
theorem ER.pair1 (h : ER V S T f l) (hi : l[i]? = some x) (hj : l[j]? = some y) (e1 : x.u = y.u) (e2 : x.v = y.v) : i = j := by
  rcases Nat.lt_trichotomy i j with c | c | c
  · have ⟨h1, q1⟩ := List.getElem?_eq_some_iff.1 hi
    have ⟨h2, q2⟩ := List.getElem?_eq_some_iff.1 hj
    have := (List.pairwise_iff_getElem.1 h.un i j h1 h2 c).2
    rw [q1, q2] at this; exact absurd ⟨e1, e2⟩ this
  · exact c
  · have ⟨h1, q1⟩ := List.getElem?_eq_some_iff.1 hi
    have ⟨h2, q2⟩ := List.getElem?_eq_some_iff.1 hj
    have := (List.pairwise_iff_getElem.1 h.un j i h2 h1 c).2
    rw [q1, q2] at this; exact absurd ⟨e1.symm, e2.symm⟩ this
/-- Memory without edges. -/
theorem ER.nil (h : ∀ k, f k = 0) : ER V S T f [] := ⟨fun _ h => (nomatch h), List.Pairwise.nil, fun _ h => (nomatch h), fun _ _ _ _ _ => h _⟩
/-- What Put stores. -/
def putF (V S T : Int) (f : Nat → Int) (e : E1) : Nat → Int := upd (upd (upd f (sC S T e.s 1) (nV e.u e.v)) (sC S T e.s 2) (e.l : Int)) (eC V S T e.u e.v) (eV e.s e.t)
theorem ER.put (h : ER V S T f l) (hR : Rt V S T) (h1 : x.u < x.v) (h2 : (x.v : Int) < V) (h3 : (x.s : Int) < S) (h4 : (x.l : Int) < lv V) (hs : ∀ e ∈ l, e.s ≠ x.s) (hp : ∀ e ∈ l, ¬ (e.u = x.u ∧ e.v = x.v)) : ER V S T (putF V S T f x) (l ++ [x]) := by
  refine ⟨fun e he => ?_, List.pairwise_append.2 ⟨h.un, List.pairwise_singleton _ _, fun a ha b hb => ?_⟩, fun e he => ?_, fun u v huv hv hn => ?_⟩
  · rcases List.mem_append.1 he with he | he
    · exact h.ok e he
    · rw [List.mem_singleton.1 he]; exact ⟨h1, h2, h3, h4⟩
  · rw [List.mem_singleton.1 hb]; exact ⟨hs a ha, hp a ha⟩
  · unfold putF
    rcases List.mem_append.1 he with he | he
    · obtain ⟨o1, o2, o3, o4⟩ := h.ok e he
      obtain ⟨i1, i2, i3⟩ := h.is e he
      have n1 : eC V S T e.u e.v ≠ eC V S T x.u x.v := fun q => hp e he (eC_inj hR (by omega) o2 o1 (by omega) h2 h1 q)
      have n2 : eC V S T e.u e.v ≠ sC S T x.s 2 := fun q => sC_eC hR h3 (by decide) (by omega) o2 (by omega) q.symm
      have n3 : eC V S T e.u e.v ≠ sC S T x.s 1 := fun q => sC_eC hR h3 (by decide) (by omega) o2 (by omega) q.symm
      have m1 : ∀ k, k < 7 → sC S T e.s k ≠ eC V S T x.u x.v := fun k hk => sC_eC hR o3 hk (by omega) h2 (by omega)
      have m2 : ∀ k j, k < 7 → j < 7 → sC S T e.s k ≠ sC S T x.s j := fun k j hk hj q => hs e he (sC_inj hR o3 hk h3 hj q).1
      refine ⟨?_, ?_, ?_⟩
      · rw [upd_other _ _ n1, upd_other _ _ n2, upd_other _ _ n3]; exact i1
      · rw [upd_other _ _ (m1 1 (by decide)), upd_other _ _ (m2 1 2 (by decide) (by decide)), upd_other _ _ (m2 1 1 (by decide) (by decide))]; exact i2
      · rw [upd_other _ _ (m1 2 (by decide)), upd_other _ _ (m2 2 2 (by decide) (by decide)), upd_other _ _ (m2 2 1 (by decide) (by decide))]; exact i3
    · rw [List.mem_singleton.1 he]
      have m1 : ∀ k, k < 7 → sC S T x.s k ≠ eC V S T x.u x.v := fun k hk => sC_eC hR h3 hk (by omega) h2 (by omega)
      refine ⟨upd_same _ _ _, ?_, ?_⟩
      · rw [upd_other _ _ (m1 1 (by decide)), upd_other _ _ (fun q => by have := (sC_inj hR h3 (by decide) h3 (by decide) q).2; omega), upd_same]
      · rw [upd_other _ _ (m1 2 (by decide)), upd_same]
  · unfold putF
    have n1 : eC V S T u v ≠ eC V S T x.u x.v := fun q => hn x (by simp) ((eC_inj hR (by omega) hv huv (by omega) h2 h1 q).elim fun a b => ⟨a.symm, b.symm⟩)
    have n2 : ∀ k, k < 7 → eC V S T u v ≠ sC S T x.s k := fun k hk q => sC_eC hR h3 hk (by omega) hv (by omega) q.symm
    rw [upd_other _ _ n1, upd_other _ _ (n2 2 (by decide)), upd_other _ _ (n2 1 (by decide))]
    exact h.no u v huv hv fun e he => hn e (List.mem_append_left _ he)
theorem ER.cong {f' : Nat → Int} (h : ER V S T f l) (hf : ∀ k, f' k = f k) : ER V S T f' l := by
  have : f' = f := funext hf
  rw [this]; exact h
/-- Remove, where there is none. -/
theorem ER.remove_no {u v : Nat} (h : ER V S T f l) (huv : u < v) (hv : (v : Int) < V) (hn : ∀ e ∈ l, ¬ (e.u = u ∧ e.v = v)) : ER V S T (upd f (eC V S T u v) 0) l := by
  refine h.cong fun k => ?_
  by_cases e : k = eC V S T u v
  · rw [e, upd_same, h.no u v huv hv hn]
  · rw [upd_other _ _ e]
theorem mem_erase_of {α : Type} {l : List α} {k : Nat} {x : α} (h : x ∈ l.eraseIdx k) : ∃ i, i ≠ k ∧ l[i]? = some x := by
  obtain ⟨i, hi⟩ := List.mem_iff_getElem?.1 h
  rw [List.getElem?_eraseIdx] at hi
  split at hi
  · exact ⟨i, by omega, hi⟩
  · exact ⟨i + 1, by omega, hi⟩
theorem mem_erase_is {α : Type} {l : List α} {k i : Nat} {x : α} (h : l[i]? = some x) (hne : i ≠ k) : x ∈ l.eraseIdx k := by
  rw [List.mem_iff_getElem?]
  by_cases c : i < k
  · exact ⟨i, by rw [List.getElem?_eraseIdx, if_pos c]; exact h⟩
  · exact ⟨i - 1, by rw [List.getElem?_eraseIdx, if_neg (by omega), show i - 1 + 1 = i by omega]; exact h⟩
/-- Remove, where there is one. -/
theorem ER.remove (h : ER V S T f l) (hR : Rt V S T) (hi : l[i]? = some x) : ER V S T (upd f (eC V S T x.u x.v) 0) (l.eraseIdx i) := by
  have hx := List.mem_of_getElem? hi
  obtain ⟨x1, x2, x3, x4⟩ := h.ok x hx
  have sub : ∀ e ∈ l.eraseIdx i, e ∈ l := fun e he => List.mem_of_mem_eraseIdx he
  refine ⟨fun e he => h.ok e (sub e he), h.un.sublist (List.eraseIdx_sublist l i), fun e he => ?_, fun u v huv hv hn => ?_⟩
  · obtain ⟨j, hj, ej⟩ := mem_erase_of he
    obtain ⟨o1, o2, o3, o4⟩ := h.ok e (sub e he)
    obtain ⟨i1, i2, i3⟩ := h.is e (sub e he)
    have n1 : eC V S T e.u e.v ≠ eC V S T x.u x.v := fun q => by
      have := eC_inj hR (by omega) o2 o1 (by omega) x2 x1 q
      exact hj (h.pair1 ej hi this.1 this.2)
    rw [upd_other _ _ n1, upd_other _ _ (sC_eC hR o3 (by decide) (by omega) x2 (by omega)), upd_other _ _ (sC_eC hR o3 (by decide) (by omega) x2 (by omega))]
    exact ⟨i1, i2, i3⟩
  · by_cases q : u = x.u ∧ v = x.v
    · rw [q.1, q.2, upd_same]
    · rw [upd_other _ _ fun e => q (eC_inj hR (by omega) hv huv (by omega) x2 x1 e)]
      refine h.no u v huv hv fun e he hq => ?_
      obtain ⟨j, hj⟩ := List.mem_iff_getElem?.1 he
      by_cases c : j = i
      · subst c; rw [hi] at hj; injection hj with hj; subst hj; exact q ⟨hq.1.symm, hq.2.symm⟩
      · exact hn e (mem_erase_is hj c) hq
theorem mem_set_of {α : Type} {l : List α} {i : Nat} {x y : α} (h : y ∈ l.set i x) : y = x ∨ ∃ j, j ≠ i ∧ l[j]? = some y := by
  obtain ⟨j, hj⟩ := List.mem_iff_getElem?.1 h
  rw [List.getElem?_set] at hj
  split at hj
  · split at hj
    · injection hj with hj; exact .inl hj.symm
    · cases hj
  · exact .inr ⟨j, fun e => by simp_all, hj⟩
theorem un_set (h : l.Pairwise fun a b => a.s ≠ b.s ∧ ¬ (a.u = b.u ∧ a.v = b.v)) (hi : l[i]? = some x) (e1 : y.s = x.s) (e2 : y.u = x.u) (e3 : y.v = x.v) : (l.set i y).Pairwise fun a b => a.s ≠ b.s ∧ ¬ (a.u = b.u ∧ a.v = b.v) := by
  have hx := (List.getElem?_eq_some_iff.1 hi)
  rw [List.pairwise_iff_getElem] at h ⊢
  intro a b ha hb hab
  rw [List.length_set] at ha hb
  have := h a b ha hb hab
  rw [List.getElem_set, List.getElem_set]
  by_cases c : i = a
  · subst c
    rw [if_pos rfl, if_neg (by omega), e1, e2, e3]
    rw [hx.2] at this; exact this
  · rw [if_neg c]
    by_cases d : i = b
    · subst d
      rw [if_pos rfl, e1, e2, e3]
      rw [hx.2] at this; exact this
    · rw [if_neg d]; exact this
/-- Turn. -/
theorem ER.turn (h : ER V S T f l) (hR : Rt V S T) (hi : l[i]? = some x) (t : Bool) : ER V S T (upd f (eC V S T x.u x.v) (eV x.s t)) (l.set i { x with t := t }) := by
  have hx := List.mem_of_getElem? hi
  obtain ⟨x1, x2, x3, x4⟩ := h.ok x hx
  refine ⟨fun e he => ?_, un_set h.un hi rfl rfl rfl, fun e he => ?_, fun u v huv hv hn => ?_⟩
  · rcases mem_set_of he with rfl | ⟨j, hj, ej⟩
    · exact ⟨x1, x2, x3, x4⟩
    · exact h.ok e (List.mem_of_getElem? ej)
  · rcases mem_set_of he with rfl | ⟨j, hj, ej⟩
    · obtain ⟨i1, i2, i3⟩ := h.is x hx
      exact ⟨upd_same _ _ _, by rw [upd_other _ _ (sC_eC hR x3 (by decide) (by omega) x2 (by omega))]; exact i2, by rw [upd_other _ _ (sC_eC hR x3 (by decide) (by omega) x2 (by omega))]; exact i3⟩
    · have he' := List.mem_of_getElem? ej
      obtain ⟨o1, o2, o3, o4⟩ := h.ok e he'
      obtain ⟨i1, i2, i3⟩ := h.is e he'
      have n1 : eC V S T e.u e.v ≠ eC V S T x.u x.v := fun q => by
        have := eC_inj hR (by omega) o2 o1 (by omega) x2 x1 q
        exact hj (h.pair1 ej hi this.1 this.2)
      rw [upd_other _ _ n1, upd_other _ _ (sC_eC hR o3 (by decide) (by omega) x2 (by omega)), upd_other _ _ (sC_eC hR o3 (by decide) (by omega) x2 (by omega))]
      exact ⟨i1, i2, i3⟩
  · have hil := (List.getElem?_eq_some_iff.1 hi).1
    have mx : { x with t := t } ∈ l.set i { x with t := t } := List.mem_iff_getElem?.2 ⟨i, by rw [List.getElem?_set_self hil]⟩
    have q := hn _ mx
    rw [upd_other _ _ fun e => q ((eC_inj hR (by omega) hv huv (by omega) x2 x1 e).elim fun a b => ⟨a.symm, b.symm⟩)]
    refine h.no u v huv hv fun e he hq => ?_
    obtain ⟨j, hj⟩ := List.mem_iff_getElem?.1 he
    by_cases c : j = i
    · subst c; rw [hi] at hj; injection hj with hj; subst hj; exact q hq
    · exact hn e (List.mem_iff_getElem?.2 ⟨j, by rw [List.getElem?_set_ne (Ne.symm c)]; exact hj⟩) hq
/-- Lift. -/
theorem ER.lift (h : ER V S T f l) (hR : Rt V S T) (hi : l[i]? = some x) {k : Nat} (hk : (k : Int) < lv V) : ER V S T (upd f (sC S T x.s 2) (k : Int)) (l.set i { x with l := k }) := by
  have hx := List.mem_of_getElem? hi
  obtain ⟨x1, x2, x3, x4⟩ := h.ok x hx
  refine ⟨fun e he => ?_, un_set h.un hi rfl rfl rfl, fun e he => ?_, fun u v huv hv hn => ?_⟩
  · rcases mem_set_of he with rfl | ⟨j, hj, ej⟩
    · exact ⟨x1, x2, x3, hk⟩
    · exact h.ok e (List.mem_of_getElem? ej)
  · rcases mem_set_of he with rfl | ⟨j, hj, ej⟩
    · obtain ⟨i1, i2, i3⟩ := h.is x hx
      exact ⟨by rw [upd_other _ _ (fun q => sC_eC (u := x.u) (v := x.v) hR x3 (by decide) (by omega) x2 (by omega) q.symm)]; exact i1, by rw [upd_other _ _ (fun q => by have := (sC_inj hR x3 (by decide) x3 (by decide) q).2; omega)]; exact i2, upd_same _ _ _⟩
    · have he' := List.mem_of_getElem? ej
      obtain ⟨o1, o2, o3, o4⟩ := h.ok e he'
      obtain ⟨i1, i2, i3⟩ := h.is e he'
      have ns : ∀ k, k < 7 → sC S T e.s k ≠ sC S T x.s 2 := fun k hk q => hj (h.slot1 ej hi (sC_inj hR o3 hk x3 (by decide) q).1)
      rw [upd_other _ _ (fun q => sC_eC hR x3 (by decide) (by omega) o2 (by omega) q.symm), upd_other _ _ (ns 1 (by decide)), upd_other _ _ (ns 2 (by decide))]
      exact ⟨i1, i2, i3⟩
  · have hil := (List.getElem?_eq_some_iff.1 hi).1
    have mx : { x with l := k } ∈ l.set i { x with l := k } := List.mem_iff_getElem?.2 ⟨i, by rw [List.getElem?_set_self hil]⟩
    have q := hn _ mx
    rw [upd_other _ _ fun e => sC_eC hR x3 (by decide) (by omega) hv (by omega) e.symm]
    refine h.no u v huv hv fun e he hq => ?_
    obtain ⟨j, hj⟩ := List.mem_iff_getElem?.1 he
    by_cases c : j = i
    · subst c; rw [hi] at hj; injection hj with hj; subst hj; exact q hq
    · exact hn e (List.mem_iff_getElem?.2 ⟨j, by rw [List.getElem?_set_ne (Ne.symm c)]; exact hj⟩) hq
end
end Go.Proofs.Ytaooglagddphnaa
