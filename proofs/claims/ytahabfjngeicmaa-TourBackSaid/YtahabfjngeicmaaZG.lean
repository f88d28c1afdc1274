/- Trees by membership; tours; Link and Cut. -/
import Derived.Test.YtahabfjngeicmaaZF
import Derived.Test.YtahabfjngeicmaaZA
import Derived.Test.YtahabfjngeicmaaZD

/- Trees of a forest, told by membership: Root, Index, List, Vertices, Split, Merge, Alone of a row that is there. -/
namespace Go.Proofs.Ytahabfjngeicmaa
open Go.RowKit

set_option maxRecDepth 100000

/-- A forest without marks in memory. -/
structure FM (W : World) (V S T : Int) (p gb cap m : Nat) (g : Mg9) (ts : List Tp) : Prop where
  tm : TM W V S T p gb cap m g
  fi : FI V S g (fun _ => 0) ts
/-- A tree of a forest, or none. -/
def Mb (ts : List Tp) (t : Tp) : Prop := t = .nil ∨ t ∈ ts
section
variable {w w' W : World} {V S T : Int} {p gb cap m m' i k x : Nat} {g g' : Mg9} {mk : Nat → Nat} {ts L R : List Tp} {t s ta tb : Tp} {a b : List Nat}
theorem FI.uniq (hF : FI V S g mk ts) (ht : t ∈ ts) (hs : s ∈ ts) (hx : x ∈ t.row) (hy : x ∈ s.row) : t = s := by
  obtain ⟨i, hi⟩ := List.mem_iff_getElem?.1 ht
  obtain ⟨k, hk⟩ := List.mem_iff_getElem?.1 hs
  by_cases hik : i = k
  · subst hik; rw [hi] at hk; injection hk
  · exfalso
    have := (hF.perm (hF.pair hik hi hk)).nd
    rw [List.flatMap_append, List.nodup_append, flat_two, List.nodup_append] at this
    exact this.1.2.2 x hx x hy rfl
theorem FI.root_in (hF : FI V S g mk ts) (ht : t ∈ ts) : t.root ∈ t.row ∧ t.root ≠ 0 := by
  have h1 : t.root ∈ t.row := by
    cases t with
    | nil => exact absurd rfl (hF.st _ ht).2.2
    | node l x r => simp [Tp.root, Tp.row]
  exact ⟨h1, (hF.nodes ht _ h1).1⟩
theorem FI.root_eq (hF : FI V S g mk ts) (ht : t ∈ ts) (hs : s ∈ ts) (h : t.root = s.root) : t = s := hF.uniq ht hs (hF.root_in ht).1 (h ▸ (hF.root_in hs).1)
theorem FI.has (hF : FI V S g mk ts) (h1 : x ≠ 0) (h2 : x ≤ nN V S) : ∃ t ∈ ts, x ∈ t.row := (hF.al x).1 ⟨h1, h2⟩
theorem FI.row_ne (hF : FI V S g mk ts) (ht : t ∈ ts) : t.row ≠ [] := fun e => (hF.st _ ht).2.2 (Tp.row_eq_nil e)
theorem sgl_of (h : t.row = [x]) : t = sgl x := by
  cases t with
  | nil => simp [Tp.row] at h
  | node l y r =>
    rw [Tp.row_node] at h
    cases hl : l.row with
    | nil =>
      rw [hl] at h
      simp only [List.nil_append, List.cons.injEq] at h
      rw [Tp.row_eq_nil hl, Tp.row_eq_nil h.2, h.1]; rfl
    | cons z zs => rw [hl] at h; simp at h
theorem FM.below (A : FM w V S T p gb cap m g ts) (hb : Below w.heap.size w w') : FM w' V S T p gb cap m g ts := ⟨A.tm.below hb, A.fi⟩
theorem FM.more (A : FM w V S T p gb cap m g ts) (h : m ≤ m') : FM w V S T p gb cap m' g ts := ⟨A.tm.more h, A.fi⟩
theorem FM.drew (A : FM w V S T p gb cap m g ts) : FM w.drew V S T p gb cap m g ts := ⟨A.tm.drew, A.fi⟩
theorem FM.alloc (A : FM w V S T p gb cap m g ts) (o : Obj) : FM (w.alloc o) V S T p gb cap m g ts := ⟨A.tm.alloc o, A.fi⟩

/-- What a call leaves that reads the forest. -/
def Rd (V S T : Int) (p gb cap m : Nat) (g : Mg9) (ts : List Tp) (r : Value) (w : World) (e : Ending) (w' : World) : Prop := e = .returned r ∧ FM w' V S T p gb cap m g ts ∧ Only p gb w w'
theorem hroot (A : FM w V S T p gb cap m g ts) (ht : t ∈ ts) (hx : x ∈ t.row) (hm : m ≤ 980000) {xI : Int} (hxI : xI = (x : Int)) :
    Calls Try.prog 20 #[vTr V S T p, .int .i64 xI] w (Rd V S T p gb cap (m + nN V S) g ts (.int .i64 (t.root : Int)) w) := by
  obtain ⟨i, hi⟩ := List.mem_iff_getElem?.1 ht
  exact (froot A.tm A.fi hi hx hm hxI).mono fun e w' h => ⟨h.1, ⟨h.2.1, A.fi⟩, h.2.2⟩
theorem hindex (A : FM w V S T p gb cap m g ts) (ht : t ∈ ts) (hr : t.row = a ++ x :: b) (hm : m ≤ 980000) {xI : Int} (hxI : xI = (x : Int)) :
    Calls Try.prog 55 #[vTr V S T p, .int .i64 xI] w (Rd V S T p gb cap (m + 3 + 4 * nN V S) g ts (.int .i64 (a.length : Int)) w) := by
  obtain ⟨i, hi⟩ := List.mem_iff_getElem?.1 ht
  exact (findex A.tm A.fi hi (j := a.length) (by rw [hr]; simp) hm hxI).mono fun e w' h => ⟨h.1, ⟨h.2.1, A.fi⟩, h.2.2⟩
theorem hverts (A : FM w V S T p gb cap m g ts) (ht : t ∈ ts) (hm : m ≤ 980000) {xI : Int} (hxI : xI = (t.root : Int)) :
    Calls Try.prog 69 #[vTr V S T p, .int .i64 xI] w (Rd V S T p gb cap (m + 1) g ts (.int .i64 (cntV (vxN V) t.row : Int)) w) := by
  obtain ⟨i, hi⟩ := List.mem_iff_getElem?.1 ht
  exact (fverts A.tm A.fi hi hm hxI).mono fun e w' h => ⟨h.1, ⟨h.2.1, A.fi⟩, h.2.2⟩
/-- What a call leaves that tells a list. -/
def RdL (V S T : Int) (p gb cap m : Nat) (g : Mg9) (ts : List Tp) (l : List Nat) (w : World) (e : Ending) (w' : World) : Prop :=
  ∃ v, e = .returned v ∧ LI w' v l ∧ (∀ q, bk v = some q → w.heap.size ≤ q) ∧ FM w' V S T p gb cap m g ts ∧ Only p gb w w'
theorem hlist (A : FM w V S T p gb cap m g ts) (ht : t ∈ ts) (hm : m ≤ 980000) {xI : Int} (hxI : xI = (t.root : Int)) :
    Calls Try.prog 15 #[vTr V S T p, .int .i64 xI] w (RdL V S T p gb cap (m + 2 * nN V S) g ts t.row w) := by
  obtain ⟨i, hi⟩ := List.mem_iff_getElem?.1 ht
  refine (flist A.tm A.fi hi hm hxI).mono ?_
  rintro e w' ⟨v, h1, h2, h3, h4, h5⟩
  exact ⟨v, h1, h2, h3, ⟨h4, A.fi⟩, h5⟩
/-- What Split leaves. -/
def SpD (V S T : Int) (p gb cap m : Nat) (ts : List Tp) (t : Tp) (a b : List Nat) (w : World) (e : Ending) (w' : World) : Prop :=
  ∃ g' ts' ta tb, e = .returned (.tuple #[.int .i64 ((ta.root : Nat) : Int), .int .i64 ((tb.root : Nat) : Int)]) ∧ FM w' V S T p gb cap m g' ts' ∧ Mb ts' ta ∧ Mb ts' tb ∧ ta.row = a ∧ tb.row = b ∧ (∀ s ∈ ts, s ≠ t → s ∈ ts') ∧ Only p gb w w'
theorem hsplit (A : FM w V S T p gb cap m g ts) (ht : t ∈ ts) (hr : t.row = a ++ b) (hm : m ≤ 960000) {xI kI : Int} (hxI : xI = (t.root : Int)) (hkI : kI = (a.length : Int)) :
    Calls Try.prog 54 #[vTr V S T p, .int .i64 xI, .int .i64 kI] w (SpD V S T p gb cap (m + 12 * nN V S + 4) ts t a b w) := by
  obtain ⟨i, hi⟩ := List.mem_iff_getElem?.1 ht
  have hn := nN_le A.tm.hR
  have hl : a.length + b.length ≤ nN V S := by have := A.fi.size ht; unfold Tp.size at this; rw [hr, List.length_append] at this; exact this
  refine (fsplit A.tm A.fi hi (k0 := kI) (by omega) (by omega) hm hxI).mono ?_
  rintro e w' ⟨g', ta, tb, rfl, A', hF, ha, hb, _, _, _, _, ho, _⟩
  have e1 : min kI.toNat t.row.length = a.length := by rw [hr, List.length_append]; omega
  rw [e1, hr] at ha hb
  rw [List.take_left] at ha
  rw [List.drop_left] at hb
  have mb : ∀ {u : Tp}, (0 < u.row.length → u ∈ some2 ta tb) → Mb (wo i i 0 ts ++ some2 ta tb) u := fun {u} h => by
    by_cases h0 : 0 < u.row.length
    · exact .inr (List.mem_append_right _ (h h0))
    · exact .inl (Tp.row_eq_nil (List.length_eq_zero_iff.1 (by omega)))
  refine ⟨g', _, ta, tb, rfl, ⟨A', hF⟩, mb fun h => ?_, mb fun h => ?_, ha, hb, fun s hs hne => ?_, ho⟩
  · unfold some2; rw [if_pos h]; simp
  · unfold some2; rw [if_pos h]; simp
  · refine List.mem_append_left _ ?_
    have := (wo_perm1 (Nat.zero_le _) hi).mem_iff.1 hs
    rcases List.mem_cons.1 this with h | h
    · exact absurd h hne
    · exact h
/-- What Merge leaves. -/
def MgD (V S T : Int) (p gb cap m : Nat) (ts : List Tp) (ta tb : Tp) (w : World) (e : Ending) (w' : World) : Prop :=
  ∃ g' ts' t, e = .returned (.int .i64 ((t.root : Nat) : Int)) ∧ FM w' V S T p gb cap m g' ts' ∧ t ∈ ts' ∧ t.row = ta.row ++ tb.row ∧ (∀ s ∈ ts, s ≠ ta → s ≠ tb → s ∈ ts') ∧ Only p gb w w'
theorem hmerge_of (A : FM w V S T p gb cap m g ts) (hp : ts.Perm (L ++ R)) (hL : L.flatMap Tp.row = ta.row ++ tb.row) (hin : ∀ s ∈ L, s = ta ∨ s = tb) (ha : Mb ts ta) (hb : Mb ts tb) (hne : ta.row ++ tb.row ≠ []) (hm : m ≤ 960000) {xa xb : Int} (hxa : xa = (ta.root : Int)) (hxb : xb = (tb.root : Int)) :
    Calls Try.prog 56 #[vTr V S T p, .int .i64 xa, .int .i64 xb] w (MgD V S T p gb cap (m + 12 * nN V S + 2) ts ta tb w) := by
  subst hxa hxb
  have hF := A.fi
  have hF' := hF.perm hp
  have fact : ∀ {u : Tp}, Mb ts u → Loose (vxN V) (fun _ => 0) g u ∧ Hp (fun z => g z 5) u ∧ ∀ y ∈ u.row, y ≠ 0 ∧ y ≤ nN V S := by
    rintro u (rfl | h)
    · exact ⟨trivial, trivial, fun y hy => by simp [Tp.row] at hy⟩
    · exact ⟨(hF.st u h).1.1, (hF.st u h).2.1, hF.nodes h⟩
  have hnd : (ta.row ++ tb.row).Nodup := by
    have := hF'.nd
    rw [List.flatMap_append, List.nodup_append, hL] at this
    exact this.1
  have hz : ta.size + tb.size ≤ nN V S := by
    have := flat_len hF'
    rw [List.flatMap_append, List.length_append, hL, List.length_append] at this
    unfold Tp.size; omega
  refine (tmerge A.tm hF.hm (fact ha).1 (fact hb).1 hz hnd (fact ha).2.2 (fact hb).2.2 (show m ≤ 970000 by omega)).mono ?_
  rintro e w' ⟨g', t, rfl, A', O', hs, hrow, hhp, ho, h5⟩
  have hne2 : t ≠ .nil := fun e => hne (by rw [← hrow, e]; rfl)
  have hhp' := hhp (fact ha).2.1 (fact hb).2.1
  refine ⟨g', R ++ [t], t, rfl, ⟨A', ?_⟩, by simp, hrow, fun s hs' h1 h2 => ?_, O'⟩
  · refine hF.swap (N := [t]) hp (by rw [flat_one, hrow, hL]) ?_ ?_ h5 hF.hm fun _ _ => rfl
    · intro t' ht'
      have : t' = t := by simpa using ht'
      subst this
      exact ⟨hs, hhp', hne2⟩
    · intro y hy
      rw [hL, ← hrow] at hy
      exact ho y hy
  · rcases List.mem_append.1 (hp.mem_iff.1 hs') with h | h
    · rcases hin s h with h | h
      · exact absurd h h1
      · exact absurd h h2
    · exact List.mem_append_left _ h
theorem hmerge (A : FM w V S T p gb cap m g ts) (ha : Mb ts ta) (hb : Mb ts tb) (hab : ta ≠ tb) (hm : m ≤ 960000) {xa xb : Int} (hxa : xa = (ta.root : Int)) (hxb : xb = (tb.root : Int)) :
    Calls Try.prog 56 #[vTr V S T p, .int .i64 xa, .int .i64 xb] w (MgD V S T p gb cap (m + 12 * nN V S + 2) ts ta tb w) := by
  rcases ha with rfl | ha <;> rcases hb with rfl | hb
  · exact absurd rfl hab
  · obtain ⟨i, hi⟩ := List.mem_iff_getElem?.1 hb
    exact hmerge_of A (L := [tb]) (wo_perm1 (Nat.zero_le _) hi) (by simp [Tp.row]) (by simp) (.inl rfl) (.inr hb) (by simpa [Tp.row] using A.fi.row_ne hb) hm hxa hxb
  · obtain ⟨i, hi⟩ := List.mem_iff_getElem?.1 ha
    exact hmerge_of A (L := [ta]) (wo_perm1 (Nat.zero_le _) hi) (by simp [Tp.row]) (by simp) (.inr ha) (.inl rfl) (by simpa [Tp.row] using A.fi.row_ne ha) hm hxa hxb
  · obtain ⟨i, hi⟩ := List.mem_iff_getElem?.1 ha
    obtain ⟨k, hk⟩ := List.mem_iff_getElem?.1 hb
    have hik : i ≠ k := fun e => hab (by subst e; rw [hi] at hk; injection hk)
    exact hmerge_of A (L := [ta, tb]) (A.fi.pair hik hi hk) flat_two (by simp) (.inr ha) (.inr hb) (by have := A.fi.row_ne ha; simp [this]) hm hxa hxb
theorem halone (A : FM w V S T p gb cap m g ts) (ht : t ∈ ts) (hr : t.row = [x]) (hm : m ≤ 960000) {xI : Int} (hxI : xI = (x : Int)) :
    Calls Try.prog 41 #[vTr V S T p, .int .i64 xI] w fun e w' => ∃ g', e = .returned (.tuple #[]) ∧ FM w' V S T p gb cap (m + 9) g' ts ∧ Only p gb w w' := by
  subst hxI
  have hF := A.fi
  have hx : x ≠ 0 ∧ x ≤ nN V S := hF.nodes ht x (by rw [hr]; simp)
  refine (talone A.tm (Nat.one_le_iff_ne_zero.2 hx.1) hx.2 (by omega)).mono ?_
  rintro e w' ⟨rfl, A', O'⟩
  refine ⟨_, rfl, ⟨A', ?_⟩, O'⟩
  obtain ⟨i, hi⟩ := List.mem_iff_getElem?.1 ht
  have hp : ts.Perm ([t] ++ wo i i 0 ts) := wo_perm1 (Nat.zero_le _) hi
  have h5 : ∀ y, aloneG (vxN V) g x y 5 = g y 5 := fun y => aloneG_pri
  refine (hF.swap (N := [t]) (mk' := fun _ => 0) (g' := aloneG (vxN V) g x) hp (List.Perm.refl _) ?_ ?_ h5 hF.hm fun _ _ => rfl).perm ((List.perm_append_comm).trans hp.symm)
  · intro t' ht'
    have : t' = t := by simpa using ht'
    subst this
    exact ⟨by rw [sgl_of hr]; exact alone_stands hx.1 A.tm.z, (hF.st _ ht).2.1, (hF.st _ ht).2.2⟩
  · intro y hy j
    rw [flat_one, hr] at hy
    exact aloneG_other j (by simpa using hy)
end

end Go.Proofs.Ytahabfjngeicmaa

/- Rows that go around trees, plainly: how they come about, what cutting one leaves, what joins their vertices. -/
namespace Go.Proofs.Ytahabfjngeicmaa

/-- A row that goes around a tree of edges (slot, ends): X: a vertex's node; A: a slot's two arcs. -/
inductive Tour (X : Nat → Nat) (A : Nat → Nat → Nat) : List Nat → List (Nat × Nat × Nat) → Prop where
  | one (u : Nat) : Tour X A [X u] []
  | rot {a b : List Nat} {E : List (Nat × Nat × Nat)} : Tour X A (a ++ b) E → Tour X A (b ++ a) E
  | link {s u v : Nat} {a b : List Nat} {E F : List (Nat × Nat × Nat)} : Tour X A (X u :: a) E → Tour X A (X v :: b) F → Tour X A ((X u :: a) ++ A s 0 :: ((X v :: b) ++ [A s 1])) ((s, u, v) :: (E ++ F))
  | perm {l : List Nat} {E F : List (Nat × Nat × Nat)} : Tour X A l E → E.Perm F → Tour X A l F

section
variable {X : Nat → Nat} {A : Nat → Nat → Nat} {row : List Nat} {E : List (Nat × Nat × Nat)}
theorem Tour.mem (h : Tour X A row E) : ∀ {s u v : Nat}, (s, u, v) ∈ E → A s 0 ∈ row ∧ A s 1 ∈ row ∧ X u ∈ row ∧ X v ∈ row := by
  induction h with
  | one u => intro s u v h; simp at h
  | rot _ ih =>
    intro s u v h
    have := ih h
    simp only [List.mem_append] at this ⊢
    exact ⟨this.1.symm, this.2.1.symm, this.2.2.1.symm, this.2.2.2.symm⟩
  | link _ _ ih1 ih2 =>
    intro s u v h
    simp only [List.mem_cons, List.mem_append, Prod.mk.injEq] at h
    rcases h with ⟨rfl, rfl, rfl⟩ | h | h
    · simp
    · obtain ⟨a, b, c, d⟩ := ih1 h
      exact ⟨List.mem_append_left _ a, List.mem_append_left _ b, List.mem_append_left _ c, List.mem_append_left _ d⟩
    · obtain ⟨a, b, c, d⟩ := ih2 h
      have key : ∀ {y : Nat} {P Q R : List Nat} {z w : Nat}, y ∈ Q → y ∈ P ++ z :: (Q ++ [w]) := fun hy => List.mem_append_right _ (List.mem_cons_of_mem _ (List.mem_append_left _ hy))
      exact ⟨List.mem_append_right _ (List.mem_cons_of_mem _ (List.mem_append_left _ a)), List.mem_append_right _ (List.mem_cons_of_mem _ (List.mem_append_left _ b)), List.mem_append_right _ (List.mem_cons_of_mem _ (List.mem_append_left _ c)), List.mem_append_right _ (List.mem_cons_of_mem _ (List.mem_append_left _ d))⟩
  | perm _ hp ih => intro s u v h; exact ih (hp.mem_iff.2 h)
theorem Tour.node (h : Tour X A row E) : ∀ {y : Nat}, y ∈ row → (∃ u, y = X u) ∨ ∃ s u v, (s, u, v) ∈ E ∧ (y = A s 0 ∨ y = A s 1) := by
  induction h with
  | one u => intro y h; simp at h; exact .inl ⟨u, h⟩
  | rot _ ih =>
    intro y h
    exact ih (by simp only [List.mem_append] at h ⊢; exact h.symm)
  | @link s u v a b E F _ _ ih1 ih2 =>
    intro y h
    rcases List.mem_append.1 h with h | h
    · rcases ih1 h with h | ⟨s', u', v', h, e⟩
      · exact .inl h
      · exact .inr ⟨s', u', v', by simp [h], e⟩
    · rcases List.mem_cons.1 h with h | h
      · exact .inr ⟨s, u, v, by simp, .inl h⟩
      · rcases List.mem_append.1 h with h | h
        · rcases ih2 h with h | ⟨s', u', v', h, e⟩
          · exact .inl h
          · exact .inr ⟨s', u', v', by simp [h], e⟩
        · exact .inr ⟨s, u, v, by simp, .inr (by simpa using h)⟩
  | perm _ hp ih =>
    intro y h
    rcases ih h with h | ⟨s, u, v, h, e⟩
    · exact .inl h
    · exact .inr ⟨s, u, v, hp.mem_iff.1 h, e⟩
theorem Tour.has (h : Tour X A row E) : ∃ u, X u ∈ row := by
  induction h with
  | one u => exact ⟨u, by simp⟩
  | rot _ ih => obtain ⟨u, h⟩ := ih; exact ⟨u, by simp only [List.mem_append] at h ⊢; exact h.symm⟩
  | @link s u v a b E F _ _ _ _ => exact ⟨u, by simp⟩
  | perm _ _ ih => exact ih

/-- Edges join two vertices. -/
inductive Way (E : List (Nat × Nat × Nat)) : Nat → Nat → Prop where
  | refl (u : Nat) : Way E u u
  | fore {s u v w : Nat} : Way E u v → (s, v, w) ∈ E → Way E u w
  | back {s u v w : Nat} : Way E u v → (s, w, v) ∈ E → Way E u w
theorem Way.trans {E : List (Nat × Nat × Nat)} {u v w : Nat} (h1 : Way E u v) (h2 : Way E v w) : Way E u w := by
  induction h2 with
  | refl => exact h1
  | fore _ he ih => exact (ih h1).fore he
  | back _ he ih => exact (ih h1).back he
theorem Way.symm {E : List (Nat × Nat × Nat)} {u v : Nat} (h : Way E u v) : Way E v u := by
  induction h with
  | refl => exact .refl _
  | fore _ he ih => exact (Way.back (.refl _) he).trans ih
  | back _ he ih => exact (Way.fore (.refl _) he).trans ih
theorem Way.mono {E F : List (Nat × Nat × Nat)} {u v : Nat} (h : Way E u v) (hs : ∀ e ∈ E, e ∈ F) : Way F u v := by
  induction h with
  | refl => exact .refl _
  | fore _ he ih => exact ih.fore (hs _ he)
  | back _ he ih => exact ih.back (hs _ he)
/-- A row's vertices are joined. -/
theorem Tour.joined (hX : ∀ u v, X u = X v → u = v) (hA : ∀ s i u, A s i ≠ X u) (h : Tour X A row E) : ∀ {u v : Nat}, X u ∈ row → X v ∈ row → Way E u v := by
  induction h with
  | one w =>
    intro u v h1 h2
    have e1 := hX _ _ (by simpa using h1)
    have e2 := hX _ _ (by simpa using h2)
    subst e1 e2; exact .refl _
  | rot _ ih =>
    intro u v h1 h2
    exact ih (by simp only [List.mem_append] at h1 ⊢; exact h1.symm) (by simp only [List.mem_append] at h2 ⊢; exact h2.symm)
  | @link s x y a b E F _ _ ih1 ih2 =>
    have m1 : ∀ e ∈ E, e ∈ (s, x, y) :: (E ++ F) := fun e he => by simp [he]
    have m2 : ∀ e ∈ F, e ∈ (s, x, y) :: (E ++ F) := fun e he => by simp [he]
    have key : ∀ {u : Nat}, X u ∈ (X x :: a) ++ A s 0 :: ((X y :: b) ++ [A s 1]) → Way ((s, x, y) :: (E ++ F)) x u := by
      intro u h
      rcases List.mem_append.1 h with h | h
      · exact (ih1 (by simp) h).mono m1
      · rcases List.mem_cons.1 h with h | h
        · exact absurd h.symm (hA _ _ _)
        · rcases List.mem_append.1 h with h | h
          · exact (Way.fore (.refl x) (s := s) (w := y) (by simp)).trans ((ih2 (by simp) h).mono m2)
          · exact absurd (by simpa using h : X u = A s 1).symm (hA _ _ _)
    intro u v h1 h2
    exact (key h1).symm.trans (key h2)
  | perm _ hp ih => intro u v h1 h2; exact (ih h1 h2).mono fun e he => hp.mem_iff.1 he

theorem sub_dec {K L M : List Nat} {p q r : List Nat} {c d : Nat} (hn : (K ++ L ++ M).Nodup) (hrow : K ++ L ++ M = p ++ c :: (q ++ d :: r)) (hc : c ∈ L) (hd : d ∈ L) : ∃ p' r', L = p' ++ c :: (q ++ d :: r') ∧ p = K ++ p' ∧ r = r' ++ M := by
  obtain ⟨p', t, rfl⟩ := List.append_of_mem hc
  have e1 : (K ++ p') ++ c :: (t ++ M) = p ++ c :: (q ++ d :: r) := by rw [← hrow]; simp
  have n1 : ((K ++ p') ++ c :: (t ++ M)).Nodup := by rw [e1, ← hrow]; exact hn
  obtain ⟨e2, e3⟩ := mid_eq e1 n1
  have n2 := n1
  rw [e1, List.nodup_append] at n2
  obtain ⟨_, n3, n4⟩ := n2
  have hdt : d ∈ t := by
    rcases List.mem_append.1 hd with h | h
    · exact absurd rfl (n4 d (by rw [← e2]; exact List.mem_append_right _ h) d (by simp))
    · rcases List.mem_cons.1 h with h | h
      · exfalso
        rw [List.nodup_cons] at n3
        exact n3.1 (by rw [← h]; simp)
      · exact h
  obtain ⟨q', r', rfl⟩ := List.append_of_mem hdt
  have e4 : q' ++ d :: (r' ++ M) = q ++ d :: r := by rw [← e3]; simp
  have n5 : (q' ++ d :: (r' ++ M)).Nodup := by rw [e4]; rw [List.nodup_cons] at n3; exact n3.2
  obtain ⟨rfl, rfl⟩ := mid_eq e4 n5
  exact ⟨p', r', rfl, e2.symm, rfl⟩

/-- Both arcs of a slot, in any order. -/
def Arcs (A : Nat → Nat → Nat) (s c d : Nat) : Prop := (c = A s 0 ∧ d = A s 1) ∨ (c = A s 1 ∧ d = A s 0)
theorem Arcs.turn {s c d : Nat} (h : Arcs A s c d) : Arcs A s d c := h.elim (fun h => .inr ⟨h.2, h.1⟩) fun h => .inl ⟨h.2, h.1⟩
/-- What cutting a row leaves: two rows, that have one end each. -/
theorem Tour.cut (hA : ∀ s i u, A s i ≠ X u) (h : Tour X A row E) : row.Nodup → ∀ {s u v : Nat}, (s, u, v) ∈ E → ∀ {p q r : List Nat} {c d : Nat}, row = p ++ c :: (q ++ d :: r) → Arcs A s c d →
    ∃ E1 E2, E.Perm ((s, u, v) :: (E1 ++ E2)) ∧ Tour X A q E1 ∧ Tour X A (p ++ r) E2 ∧ ((X u ∈ q ∧ X v ∈ p ++ r) ∨ (X v ∈ q ∧ X u ∈ p ++ r)) := by
  induction h with
  | one w => intro _ s u v h; simp at h
  | @rot a b E h ih =>
    intro hn s u v hs p q r c d hrow hcd
    have hn' : (a ++ b).Nodup := (List.perm_append_comm (l₁ := a) (l₂ := b)).nodup_iff.2 hn
    rcases List.append_eq_append_iff.1 hrow with ⟨t, e1, e2⟩ | ⟨t, e1, e2⟩
    · -- both in a
      subst e1 e2
      obtain ⟨E1, E2, h1, h2, h3, h4⟩ := ih hn' hs (p := t) (q := q) (r := r ++ b) (by simp) hcd
      refine ⟨E1, E2, h1, h2, ?_, ?_⟩
      · have := Tour.rot (a := t ++ r) (b := b) (by simpa using h3)
        simpa using this
      · simp only [List.mem_append] at h4 ⊢
        rcases h4 with ⟨x, y⟩ | ⟨x, y⟩
        · exact .inl ⟨x, by rcases y with y | y | y <;> simp [y]⟩
        · exact .inr ⟨x, by rcases y with y | y | y <;> simp [y]⟩
    · cases t with
      | nil =>
        simp only [List.append_nil, List.nil_append] at e1 e2
        subst e1 e2
        obtain ⟨E1, E2, h1, h2, h3, h4⟩ := ih hn' hs (p := []) (q := q) (r := r ++ b) (by simp) hcd
        refine ⟨E1, E2, h1, h2, ?_, ?_⟩
        · have := Tour.rot (a := r) (b := b) (by simpa using h3)
          exact this
        · simp only [List.mem_append, List.nil_append] at h4 ⊢
          rcases h4 with ⟨x, y⟩ | ⟨x, y⟩
          · exact .inl ⟨x, y.symm⟩
          · exact .inr ⟨x, y.symm⟩
      | cons c' t =>
        simp only [List.cons_append, List.cons.injEq] at e2
        obtain ⟨rfl, e2⟩ := e2
        rcases List.append_eq_append_iff.1 e2 with ⟨t2, e3, e4⟩ | ⟨t2, e3, e4⟩
        · cases t2 with
          | nil =>
            simp only [List.append_nil, List.nil_append] at e3 e4
            subst e3 e1
            have e5 : a = d :: r := e4.symm
            subst e5
            obtain ⟨E1, E2, h1, h2, h3, h4⟩ := ih hn' hs (p := []) (q := r ++ p) (r := t) (c := d) (d := c) (by simp) hcd.turn
            refine ⟨E2, E1, h1.trans (List.Perm.cons _ List.perm_append_comm), by simpa using h3, Tour.rot h2, ?_⟩
            simp only [List.mem_append, List.nil_append] at h4 ⊢
            rcases h4 with ⟨x, y⟩ | ⟨x, y⟩
            · exact .inr ⟨y, x.symm⟩
            · exact .inl ⟨y, x.symm⟩
          | cons d' t2 =>
            simp only [List.cons_append, List.cons.injEq] at e4
            obtain ⟨rfl, e4⟩ := e4
            subst e3 e1 e4
            obtain ⟨E1, E2, h1, h2, h3, h4⟩ := ih hn' hs (p := a ++ p) (q := q) (r := t2) (by simp) hcd
            refine ⟨E1, E2, h1, h2, ?_, ?_⟩
            · have := Tour.rot (a := a) (b := p ++ t2) (by simpa using h3)
              simpa using this
            · simp only [List.mem_append] at h4 ⊢
              rcases h4 with ⟨x, y⟩ | ⟨x, y⟩
              · exact .inl ⟨x, by rcases y with (y | y) | y <;> simp [y]⟩
              · exact .inr ⟨x, by rcases y with (y | y) | y <;> simp [y]⟩
        · subst e1 e3 e4
          obtain ⟨E1, E2, h1, h2, h3, h4⟩ := ih hn' hs (p := t2) (q := r ++ p) (r := t) (c := d) (d := c) (by simp) hcd.turn
          refine ⟨E2, E1, h1.trans (List.Perm.cons _ List.perm_append_comm), Tour.rot h3, Tour.rot h2, ?_⟩
          simp only [List.mem_append] at h4 ⊢
          rcases h4 with ⟨x, y⟩ | ⟨x, y⟩
          · exact .inr ⟨y.symm, x.symm⟩
          · exact .inl ⟨y.symm, x.symm⟩
  | @link s0 u0 v0 a b E F h1 h2 ih1 ih2 =>
    intro hn s u v hs p q r c d hrow hcd
    have hnd := hn
    rw [List.nodup_append] at hnd
    obtain ⟨na, nb', nab⟩ := hnd
    rw [List.nodup_cons] at nb'
    obtain ⟨nx, nb⟩ := nb'
    rw [List.nodup_append] at nb
    obtain ⟨nb1, _, nb2⟩ := nb
    simp only [List.mem_cons, List.mem_append, Prod.mk.injEq] at hs
    rcases hs with ⟨rfl, rfl, rfl⟩ | hs | hs
    · -- the new slot
      have hc : c = A s 0 ∧ d = A s 1 := by
        rcases hcd with h | h
        · exact h
        · exfalso
          have e : ((X u :: a) ++ A s 0 :: (X v :: b)) ++ A s 1 :: [] = p ++ c :: (q ++ d :: r) := by rw [← hrow]; simp
          rw [h.1] at e
          have := (mid_eq e (by have := hn; simpa using this)).2
          simp at this
      obtain ⟨rfl, rfl⟩ := hc
      obtain ⟨e1, e2⟩ := mid_eq hrow hn
      obtain ⟨e3, e4⟩ := mid_eq (a := X v :: b) (b := []) (c := q) (d := r) (x := A s 1) e2 (by
        have h9 := hn
        rw [List.nodup_append] at h9
        exact (List.nodup_cons.1 h9.2.1).2)
      subst e1 e3 e4
      exact ⟨F, E, List.Perm.cons _ List.perm_append_comm, h2, by simpa using h1, .inr ⟨by simp, by simp⟩⟩
    · -- a slot of the first row
      have hm := h1.mem hs
      have hcl : c ∈ X u0 :: a ∧ d ∈ X u0 :: a := by
        rcases hcd with ⟨rfl, rfl⟩ | ⟨rfl, rfl⟩
        · exact ⟨hm.1, hm.2.1⟩
        · exact ⟨hm.2.1, hm.1⟩
      obtain ⟨p', r', e1, e2, e3⟩ := sub_dec (K := []) (L := X u0 :: a) (M := A s0 0 :: ((X v0 :: b) ++ [A s0 1])) (by simpa using hn) (by simpa using hrow) hcl.1 hcl.2
      simp only [List.nil_append] at e2
      subst e2 e3
      obtain ⟨E1, E2, g1, g2, g3, g4⟩ := ih1 na hs e1 hcd
      cases p with
      | nil =>
        exfalso
        simp only [List.nil_append, List.cons.injEq] at e1
        rcases hcd with h | h
        · exact hA _ _ _ (h.1.symm.trans e1.1.symm)
        · exact hA _ _ _ (h.1.symm.trans e1.1.symm)
      | cons z p =>
        simp only [List.cons_append, List.cons.injEq] at e1
        obtain ⟨rfl, rfl⟩ := e1
        refine ⟨E1, (s0, u0, v0) :: (E2 ++ F), ?_, g2, ?_, ?_⟩
        · refine (List.Perm.cons _ (List.Perm.append_right F g1)).trans ?_
          refine (List.Perm.swap _ _ _).trans (List.Perm.cons _ ?_)
          show ((s0, u0, v0) :: ((E1 ++ E2) ++ F)).Perm (E1 ++ (s0, u0, v0) :: (E2 ++ F))
          rw [List.append_assoc]
          exact (List.perm_middle (a := (s0, u0, v0)) (l₁ := E1) (l₂ := E2 ++ F)).symm
        · have := Tour.link (s := s0) (u := u0) (v := v0) (a := p ++ r') (b := b) (by simpa using g3) h2
          simpa using this
        · simp only [List.mem_append] at g4 ⊢
          rcases g4 with ⟨x, y⟩ | ⟨x, y⟩
          · exact .inl ⟨x, by rcases y with y | y; exact .inl y; exact .inr (.inl y)⟩
          · exact .inr ⟨x, by rcases y with y | y; exact .inl y; exact .inr (.inl y)⟩
    · -- a slot of the second row
      have hm := h2.mem hs
      have hcl : c ∈ X v0 :: b ∧ d ∈ X v0 :: b := by
        rcases hcd with ⟨rfl, rfl⟩ | ⟨rfl, rfl⟩
        · exact ⟨hm.1, hm.2.1⟩
        · exact ⟨hm.2.1, hm.1⟩
      obtain ⟨p', r', e1, e2, e3⟩ := sub_dec (K := (X u0 :: a) ++ [A s0 0]) (L := X v0 :: b) (M := [A s0 1]) (by simpa using hn) (by simpa using hrow) hcl.1 hcl.2
      subst e2 e3
      obtain ⟨F1, F2, g1, g2, g3, g4⟩ := ih2 nb1 hs e1 hcd
      cases p' with
      | nil =>
        exfalso
        simp only [List.nil_append, List.cons.injEq] at e1
        rcases hcd with h | h
        · exact hA _ _ _ (h.1.symm.trans e1.1.symm)
        · exact hA _ _ _ (h.1.symm.trans e1.1.symm)
      | cons z p =>
        simp only [List.cons_append, List.cons.injEq] at e1
        obtain ⟨rfl, rfl⟩ := e1
        refine ⟨F1, (s0, u0, v0) :: (E ++ F2), ?_, g2, ?_, ?_⟩
        · refine (List.Perm.cons _ (List.Perm.append_left E g1)).trans ?_
          refine (List.Perm.cons _ List.perm_middle).trans ((List.Perm.swap _ _ _).trans (List.Perm.cons _ ?_))
          have p1 : (E ++ (F1 ++ F2)).Perm (F1 ++ (E ++ F2)) := by
            rw [← List.append_assoc, ← List.append_assoc]
            exact List.Perm.append_right F2 List.perm_append_comm
          exact (List.Perm.cons _ p1).trans (List.perm_middle (a := (s0, u0, v0)) (l₁ := F1) (l₂ := E ++ F2)).symm
        · have := Tour.link (s := s0) (u := u0) (v := v0) (a := a) (b := p ++ r') h1 (by simpa using g3)
          simpa using this
        · simp only [List.mem_append, List.mem_cons] at g4 ⊢
          rcases g4 with ⟨x, y⟩ | ⟨x, y⟩
          · refine .inl ⟨x, ?_⟩
            rcases y with (y | y) | y <;> simp [y]
          · refine .inr ⟨x, ?_⟩
            rcases y with (y | y) | y <;> simp [y]
  | perm _ hp ih =>
    intro hn s u v hs p q r c d hrow hcd
    obtain ⟨E1, E2, h1, h2⟩ := ih hn (hp.mem_iff.2 hs) hrow hcd
    exact ⟨E1, E2, hp.symm.trans h1, h2⟩
end

end Go.Proofs.Ytahabfjngeicmaa

/- Nodes of a level by numbers: a vertex's, an arc's; they are apart. -/
namespace Go.Proofs.Ytahabfjngeicmaa
open Go.RowKit

set_option maxRecDepth 100000

def vxI (V : Int) (L u : Nat) : Nat := ((L : Int) * V + u + 1).toNat
def arI (V : Int) (L s d : Nat) : Nat := (vn V + (s : Int) * sn V + 2 * L + d + 1).toNat
/-- A vertex's node; numbers above all nodes for what isn't there. -/
def Xn (V : Int) (L u : Nat) : Nat := if (u : Int) < V then vxI V L u else 1000 + 2 * u
/-- A slot's arc. -/
def An (V S : Int) (L s d : Nat) : Nat := if (s : Int) < S ∧ d < 2 then arI V L s d else 1001 + 2 * s
section
variable {V S T : Int} {L L' u v s s' d d' x : Nat}
theorem level_mul (h : Rt V S T) (hL : (L : Int) < lv V) : 0 ≤ (L : Int) * V ∧ (L : Int) * V + V ≤ vn V := by
  have h1 := h.v1
  have e : ((L : Int) + 1) * V ≤ lv V * V := Int.mul_le_mul_of_nonneg_right (by omega) (by omega)
  rw [Int.add_mul] at e
  refine ⟨Int.mul_nonneg (by omega) (by omega), ?_⟩
  unfold vn; omega
theorem slot_mul (h : Rt V S T) (hs : (s : Int) < S) : 0 ≤ (s : Int) * sn V ∧ (s : Int) * sn V + sn V ≤ S * sn V := by
  have z := sizes h
  have h1 := z.sn1
  have e : ((s : Int) + 1) * sn V ≤ S * sn V := Int.mul_le_mul_of_nonneg_right (by omega) (by omega)
  rw [Int.add_mul] at e
  exact ⟨Int.mul_nonneg (by omega) (by omega), by omega⟩
theorem vxI_int (h : Rt V S T) (hL : (L : Int) < lv V) (_hu : (u : Int) < V) : ((vxI V L u : Nat) : Int) = (L : Int) * V + u + 1 := by
  have := level_mul h hL
  unfold vxI; omega
theorem arI_int (h : Rt V S T) (_hL : (L : Int) < lv V) (hs : (s : Int) < S) (_hd : d < 2) : ((arI V L s d : Nat) : Int) = vn V + (s : Int) * sn V + 2 * L + d + 1 := by
  have := slot_mul h hs
  have z := (sizes h).vn1
  unfold arI; omega
theorem vxI_in (h : Rt V S T) (hL : (L : Int) < lv V) (hu : (u : Int) < V) : 1 ≤ vxI V L u ∧ vxI V L u ≤ nN V S ∧ arcN V (vxI V L u) = false ∧ lvN V (vxI V L u) = (L : Int) ∧ (((vxI V L u : Nat) : Int) - 1) % V = u := by
  have h1 := vxI_int h hL hu
  have h2 := level_mul h hL
  have h3 := nN_int h
  have z := sizes h
  have h4 := z.ss1
  have h5 := h.v1
  have e : nd V S = vn V + S * sn V := rfl
  have h6 : ¬ vn V ≤ ((vxI V L u : Nat) : Int) - 1 := by omega
  refine ⟨by omega, by omega, ?_, ?_, ?_⟩
  · unfold arcN; exact decide_eq_false h6
  · unfold lvN
    rw [if_neg h6, h1, show (L : Int) * V + u + 1 - 1 = u + L * V by omega, Int.add_mul_ediv_right _ _ (by omega), Int.ediv_eq_zero_of_lt (by omega) hu, Int.zero_add]
  · rw [h1, show (L : Int) * V + u + 1 - 1 = u + L * V by omega, Int.add_mul_emod_self_right, Int.emod_eq_of_lt (by omega) hu]
theorem arI_in (h : Rt V S T) (hL : (L : Int) < lv V) (hs : (s : Int) < S) (hd : d < 2) : 1 ≤ arI V L s d ∧ arI V L s d ≤ nN V S ∧ arcN V (arI V L s d) = true ∧ lvN V (arI V L s d) = (L : Int) ∧ (((arI V L s d : Nat) : Int) - 1 - vn V) / sn V = s ∧ (((arI V L s d : Nat) : Int) - 1 - vn V) % 2 = d := by
  have h1 := arI_int h hL hs hd
  have h2 := slot_mul h hs
  have h3 := nN_int h
  have z := sizes h
  have h4 := z.vn1
  have h5 := z.sn1
  have e : nd V S = vn V + S * sn V := rfl
  have es : sn V = lv V * 2 := rfl
  have h6 : vn V ≤ ((arI V L s d : Nat) : Int) - 1 := by omega
  have e2 : ((arI V L s d : Nat) : Int) - 1 - vn V = (2 * L + d : Int) + s * sn V := by omega
  refine ⟨by omega, by omega, ?_, ?_, ?_, ?_⟩
  · unfold arcN; exact decide_eq_true h6
  · unfold lvN
    rw [if_pos h6, e2, Int.add_mul_emod_self_right, Int.emod_eq_of_lt (by omega) (by omega)]; omega
  · rw [e2, Int.add_mul_ediv_right _ _ (by omega), Int.ediv_eq_zero_of_lt (by omega) (by omega), Int.zero_add]
  · rw [e2, show (2 * (L : Int) + d + s * sn V) = d + (L + s * lv V) * 2 by rw [es, Int.add_mul, Int.mul_assoc]; omega, Int.add_mul_emod_self_right]; omega
theorem Xn_in (hu : (u : Int) < V) : Xn V L u = vxI V L u := if_pos hu
theorem An_in (hs : (s : Int) < S) (hd : d < 2) : An V S L s d = arI V L s d := if_pos ⟨hs, hd⟩
theorem Xn_node (h : Rt V S T) (hx : Xn V L u ≤ nN V S) : (u : Int) < V := by
  have := nN_le h
  unfold Xn at hx
  split at hx
  · assumption
  · omega
theorem An_node (h : Rt V S T) (hx : An V S L s d ≤ nN V S) : (s : Int) < S ∧ d < 2 := by
  have := nN_le h
  unfold An at hx
  split at hx
  · assumption
  · omega
theorem Xn_inj (h : Rt V S T) (hL : (L : Int) < lv V) : ∀ u v, Xn V L u = Xn V L v → u = v := by
  intro u v e
  have hn := nN_le h
  unfold Xn at e
  split at e <;> split at e
  · rename_i h1 h2
    have a1 := vxI_int h hL h1
    have a2 := vxI_int h hL h2
    rw [e] at a1; omega
  · rename_i h1 h2
    have := vxI_in h hL h1; omega
  · rename_i h1 h2
    have := vxI_in h hL h2; omega
  · omega
theorem An_Xn (h : Rt V S T) (hL : (L : Int) < lv V) : ∀ s i u, An V S L s i ≠ Xn V L u := by
  intro s i u e
  have hn := nN_le h
  unfold Xn An at e
  split at e <;> split at e
  · rename_i h1 h2
    have a1 := (vxI_in h hL h2).2.2.1
    have a2 := (arI_in h hL h1.1 h1.2).2.2.1
    rw [e, a1] at a2; cases a2
  · rename_i h1 h2
    have := arI_in h hL h1.1 h1.2; omega
  · rename_i h1 h2
    have := vxI_in h hL h2; omega
  · omega
theorem An_inj (h : Rt V S T) (hL : (L : Int) < lv V) (h1 : (s : Int) < S) (h2 : d < 2) (h3 : (s' : Int) < S) (h4 : d' < 2) (e : An V S L s d = An V S L s' d') : s = s' ∧ d = d' := by
  rw [An_in h1 h2, An_in h3 h4] at e
  have a := (arI_in h hL h1 h2).2.2.2.2
  have b := (arI_in h hL h3 h4).2.2.2.2
  rw [e] at a; omega
theorem vertex_at (h : Rt V S T) (hL : (L : Int) < lv V) (hu : (u : Int) < V) {LI uI : Int} (hLI : LI = (L : Int)) (huI : uI = (u : Int)) (w : World) :
    Calls Try.prog 14 #[vL V S T, .int .i64 LI, .int .i64 uI] w fun e w' => e = .returned (.int .i64 (Xn V L u : Int)) ∧ Below w.heap.size w w' := by
  subst hLI huI
  refine (vertex_yes V S T L u h w).mono ?_
  rintro e w' ⟨rfl, hb⟩
  refine ⟨?_, hb⟩
  have h1 : ¬ ((L : Int) < 0 ∨ lv V ≤ (L : Int) ∨ (u : Int) < 0 ∨ V ≤ (u : Int)) := by omega
  unfold vertexF pl
  rw [if_neg h1, Xn_in hu, vxI_int h hL hu]
theorem arc_at (h : Rt V S T) (hL : (L : Int) < lv V) (hs : (s : Int) < S) (hd : d < 2) {LI sI dI : Int} (hLI : LI = (L : Int)) (hsI : sI = (s : Int)) (hdI : dI = (d : Int)) (w : World) :
    Calls Try.prog 42 #[vL V S T, .int .i64 sI, .int .i64 LI, .int .i64 dI] w fun e w' => e = .returned (.int .i64 (An V S L s d : Int)) ∧ Below w.heap.size w w' := by
  subst hLI hsI hdI
  refine (arc_yes V S T s L d h w).mono ?_
  rintro e w' ⟨rfl, hb⟩
  refine ⟨?_, hb⟩
  have z := sizes h
  have h5 := z.sn1
  have es : sn V = lv V * 2 := rfl
  have h2 := slot_mul h hs
  have h1 : ¬ ((L : Int) < 0 ∨ lv V ≤ (L : Int) ∨ (d : Int) < 0 ∨ (2 : Int) ≤ (d : Int)) := by omega
  have e1 : pl L (lv V) d 2 = (L : Int) * 2 + d := if_neg h1
  have h3 : ¬ ((s : Int) < 0 ∨ S ≤ (s : Int) ∨ (L : Int) * 2 + d < 0 ∨ sn V ≤ (L : Int) * 2 + d) := by omega
  have e2 : pl s S ((L : Int) * 2 + d) (sn V) = (s : Int) * sn V + ((L : Int) * 2 + d) := if_neg h3
  unfold arcF
  rw [e1, e2, if_neg (by omega), An_in hs hd, arI_int h hL hs hd]
  congr 1; congr 1; omega
theorem arc0_at (h : Rt V S T) (hL : (L : Int) < lv V) (hs : (s : Int) < S) (w : World) :
    Calls Try.prog 42 #[vL V S T, .int .i64 (s : Int), .int .i64 (L : Int), .int .i64 0] w fun e w' => e = .returned (.int .i64 (An V S L s 0 : Int)) ∧ Below w.heap.size w w' := arc_at h hL hs (by decide) rfl rfl rfl w
theorem arc1_at (h : Rt V S T) (hL : (L : Int) < lv V) (hs : (s : Int) < S) (w : World) :
    Calls Try.prog 42 #[vL V S T, .int .i64 (s : Int), .int .i64 (L : Int), .int .i64 1] w fun e w' => e = .returned (.int .i64 (An V S L s 1 : Int)) ∧ Below w.heap.size w w' := arc_at h hL hs (by decide) rfl rfl rfl w
theorem vert_at (h : Rt V S T) (hL : (L : Int) < lv V) (hu : (u : Int) < V) (w : World) :
    Calls Try.prog 14 #[vL V S T, .int .i64 (L : Int), .int .i64 (u : Int)] w fun e w' => e = .returned (.int .i64 (Xn V L u : Int)) ∧ Below w.heap.size w w' := vertex_at h hL hu rfl rfl w
end

end Go.Proofs.Ytahabfjngeicmaa

/- Tours: together, Same, Linked, Count. -/
namespace Go.Proofs.Ytahabfjngeicmaa
open Go.RowKit

set_option maxRecDepth 100000

/-- The variable of tours. -/
def QB (w : World) (b : Nat) (V S T : Int) (p : Nat) : Prop := Blk w b 46 #[.int .i64 V, .int .i64 S, .int .i64 T, .iface 95 (pmV p), .int .i64 1, .int .i64 0]
/-- A call's state: the variable, the forest, what has been changed. -/
structure TO (w0 W : World) (b : Nat) (V S T : Int) (p gb cap m : Nat) (g : Mg9) (ts : List Tp) : Prop where
  q : QB W b V S T p
  f : FM W V S T p gb cap m g ts
  o : Only p gb w0 W
section
variable {w w' w0 : World} {V S T : Int} {b p gb cap m m' i k x y : Nat} {g g' : Mg9} {ts ts' : List Tp} {t s ta tb : Tp}
theorem TO.new (A : FM w V S T p gb cap m g ts) : TO w (w.alloc (.cells #[.int .i64 V, .int .i64 S, .int .i64 T, .iface 95 (pmV p), .int .i64 1, .int .i64 0] 46)) w.heap.size V S T p gb cap m g ts := ⟨Blk.new _ _ _, A.alloc _, (Only.refl p gb w).alloc _⟩
theorem TO.lt (h : TO w0 w b V S T p gb cap m g ts) : b < w.heap.size := Blk.lt h.q
theorem TO.cells (h : TO w0 w b V S T p gb cap m g ts) : w.cell? ⟨b, 0, none⟩ = some (.int .i64 V) ∧ w.cell? ⟨b, 1, none⟩ = some (.int .i64 S) ∧ w.cell? ⟨b, 2, none⟩ = some (.int .i64 T) ∧ w.cell? ⟨b, 3, none⟩ = some (.iface 95 (pmV p)) ∧ w.cell? ⟨b, 4, none⟩ = some (.int .i64 1) ∧ w.cell? ⟨b, 5, none⟩ = some (.int .i64 0) :=
  ⟨Blk.cell h.q 0, Blk.cell h.q 1, Blk.cell h.q 2, Blk.cell h.q 3, Blk.cell h.q 4, Blk.cell h.q 5⟩
theorem TO.below (h : TO w0 w b V S T p gb cap m g ts) (hb : Below w.heap.size w w') : TO w0 w' b V S T p gb cap m g ts := ⟨Blk.below h.q hb (Blk.lt h.q), h.f.below hb, h.o.trans (Only.of_below hb)⟩
theorem TO.drew (h : TO w0 w b V S T p gb cap m g ts) : TO w0 w.drew b V S T p gb cap m g ts := ⟨h.q, h.f.drew, h.o.drew⟩
theorem TO.next (h : TO w0 w b V S T p gb cap m g ts) (f : FM w' V S T p gb cap m' g' ts') (ho : Only p gb w w') : TO w0 w' b V S T p gb cap m' g' ts' := ⟨Blk.treap h.q h.f.tm ho (by decide) (by decide), f, h.o.trans ho⟩
theorem TO.rule (b : Nat) (V S T : Int) (p : Nat) : ∀ W : World, QB W b V S T p → W.cell? ⟨b, 0, none⟩ = some (.int .i64 V) ∧ W.cell? ⟨b, 1, none⟩ = some (.int .i64 S) ∧ W.cell? ⟨b, 2, none⟩ = some (.int .i64 T) ∧ W.cell? ⟨b, 3, none⟩ = some (.iface 95 (pmV p)) ∧ W.cell? ⟨b, 4, none⟩ = some (.int .i64 1) ∧ W.cell? ⟨b, 5, none⟩ = some (.int .i64 0) := fun _ h =>
  ⟨Blk.cell h 0, Blk.cell h 1, Blk.cell h 2, Blk.cell h 3, Blk.cell h 4, Blk.cell h 5⟩

theorem ttogether (A : FM w V S T p gb cap m g ts) (ht : t ∈ ts) (hx : x ∈ t.row) (hs : s ∈ ts) (hy : y ∈ s.row) (hm : m ≤ 970000) :
    Calls Try.prog 50 #[vTr V S T p, .int .i64 (x : Int), .int .i64 (y : Int)] w (Rd V S T p gb cap (m + 2 * nN V S) g ts (.bool (decide (t.root = s.root))) w) := by
  have hn := nN_le A.tm.hR
  have HP := Lib.hid (And.intro ht (And.intro hx (And.intro hs hy)))
  have h0 := (A.fi.root_in ht).2
  have H0 := Lib.hid (TO.new A)
  obtain ⟨r, hr⟩ : ∃ r, t.root = r := ⟨_, rfl⟩
  obtain ⟨r2, hr2⟩ : ∃ r, s.root = r := ⟨_, rfl⟩
  have HR1 := Lib.hid hr
  have HR2 := Lib.hid hr2
  rw [hr] at h0
  rw [hr, hr2]
  have hb0 : ((r : Int) != 0) = true := bne_iff_ne.2 (by omega)
  have hb1 : ((r : Int) == (r2 : Int)) = decide (r = r2) := by
    by_cases h : r = r2
    · subst h; simp
    · rw [decide_eq_false h]; exact beq_eq_false_iff_ne.2 (by omega)
  clear A ht hx hs hy hr hr2
  go_enter Try.func50, Try.ntmps50
  go_wp2_with fail
  generalize w.heap.size = b at H0 ⊢
  generalize w.alloc (.cells #[.int .i64 V, .int .i64 S, .int .i64 T, .iface 95 (pmV p), .int .i64 1, .int .i64 0] 46) = W at H0 ⊢
  obtain ⟨y0, y1, y2, y3, y4, y5⟩ := H0.out.cells
  have hlt := H0.out.lt
  refine (hroot H0.out.f HP.out.1 HP.out.2.1 (by omega) rfl).mono ?_; rintro e w1 ⟨rfl, A1, O1⟩
  have H1 := Lib.hid (H0.out.next A1 O1)
  clear H0 A1 O1 y0 y1 y2 y3 y4 y5 hlt
  rw [HR1.out]
  obtain ⟨y0, y1, y2, y3, y4, y5⟩ := H1.out.cells
  have hlt := H1.out.lt
  go_wp2_with fail
  refine (hroot H1.out.f HP.out.2.2.1 HP.out.2.2.2 (by omega) rfl).mono ?_; rintro e w1 ⟨rfl, A1, O1⟩
  have H2 := Lib.hid (H1.out.next A1 O1)
  clear H1 A1 O1 y0 y1 y2 y3 y4 y5 hlt
  rw [HR2.out]
  obtain ⟨y0, y1, y2, y3, y4, y5⟩ := H2.out.cells
  have hlt := H2.out.lt
  go_wp2_with fail
  go_ret
  exact ⟨rfl, H2.out.f.more (by omega), H2.out.o⟩
theorem tsame (A : FM w V S T p gb cap m g ts) {L u v : Nat} (hL : (L : Int) < lv V) (hu : (u : Int) < V) (hv : (v : Int) < V) (ht : t ∈ ts) (hx : Xn V L u ∈ t.row) (hs : s ∈ ts) (hy : Xn V L v ∈ s.row) (hm : m ≤ 970000) :
    Calls Try.prog 13 #[vTr V S T p, .int .i64 (L : Int), .int .i64 (u : Int), .int .i64 (v : Int)] w (Rd V S T p gb cap (m + 2 * nN V S) g ts (.bool (decide (t.root = s.root))) w) := by
  have hn := nN_le A.tm.hR
  have HP := Lib.hid (And.intro ht (And.intro hx (And.intro hs hy)))
  have H0 := Lib.hid (TO.new A)
  have HR := Lib.hid A.tm.hR
  clear A ht hx hs hy
  go_enter Try.func13, Try.ntmps13
  go_wp2_with fail
  generalize w.heap.size = b at H0 ⊢
  generalize w.alloc (.cells #[.int .i64 V, .int .i64 S, .int .i64 T, .iface 95 (pmV p), .int .i64 1, .int .i64 0] 46) = W at H0 ⊢
  obtain ⟨y0, y1, y2, y3, y4, y5⟩ := H0.out.cells
  have hlt := H0.out.lt
  have Hd := Lib.hid H0.out.drew
  have hrule := TO.rule b V S T p
  clear H0
  go_region_held3 (fun W => QB W b V S T p) (first | (with_reducible assumption) | (with_reducible exact H3.out.q) | (with_reducible exact H2.out.q) | (with_reducible exact H1.out.q) | (with_reducible exact Hd.out.q))
    (first
      | (go_at_call 14; ((with_reducible refine (vert_at HR.out hL hu _).mono ?_); rintro e w2 ⟨rfl, B1⟩; have H1 := Lib.hid (Hd.out.below B1)))
      | (go_at_call 14; ((with_reducible refine (vert_at HR.out hL hv _).mono ?_); rintro e w2 ⟨rfl, B1⟩; have H2 := Lib.hid (H1.out.below B1)))
      | (go_at_call 50; ((with_reducible refine (ttogether H2.out.f HP.out.1 HP.out.2.1 HP.out.2.2.1 HP.out.2.2.2 hm).mono ?_); rintro e w2 ⟨rfl, A1, O1⟩; have H3 := Lib.hid (H2.out.next A1 O1))))
  clear Hd H1 H2 y0 y1 y2 y3 y4 y5 hlt hrule
  obtain ⟨y0, y1, y2, y3, y4, y5⟩ := H3.out.cells
  have hlt := H3.out.lt
  go_wp2_with fail
  go_ret
  exact ⟨rfl, H3.out.f.more (by omega), H3.out.o⟩
theorem tlinked (A : FM w V S T p gb cap m g ts) {L a : Nat} (hL : (L : Int) < lv V) (ha : (a : Int) < S) (ht : t ∈ ts) (hx : An V S L a 0 ∈ t.row) (hs : s ∈ ts) (hy : An V S L a 1 ∈ s.row) (hm : m ≤ 970000) :
    Calls Try.prog 34 #[vTr V S T p, .int .i64 (L : Int), .int .i64 (a : Int)] w (Rd V S T p gb cap (m + 2 * nN V S) g ts (.bool (decide (t.root = s.root))) w) := by
  have hn := nN_le A.tm.hR
  have HP := Lib.hid (And.intro ht (And.intro hx (And.intro hs hy)))
  have H0 := Lib.hid (TO.new A)
  have HR := Lib.hid A.tm.hR
  clear A ht hx hs hy
  go_enter Try.func34, Try.ntmps34
  go_wp2_with fail
  generalize w.heap.size = b at H0 ⊢
  generalize w.alloc (.cells #[.int .i64 V, .int .i64 S, .int .i64 T, .iface 95 (pmV p), .int .i64 1, .int .i64 0] 46) = W at H0 ⊢
  obtain ⟨y0, y1, y2, y3, y4, y5⟩ := H0.out.cells
  have hlt := H0.out.lt
  have Hd := Lib.hid H0.out.drew
  have hrule := TO.rule b V S T p
  clear H0
  go_region_held3 (fun W => QB W b V S T p) (first | (with_reducible assumption) | (with_reducible exact H3.out.q) | (with_reducible exact H2.out.q) | (with_reducible exact H1.out.q) | (with_reducible exact Hd.out.q))
    (first
      | (go_at_call 42; ((with_reducible refine (arc0_at HR.out hL ha _).mono ?_); rintro e w2 ⟨rfl, B1⟩; have H1 := Lib.hid (Hd.out.below B1)))
      | (go_at_call 42; ((with_reducible refine (arc1_at HR.out hL ha _).mono ?_); rintro e w2 ⟨rfl, B1⟩; have H2 := Lib.hid (H1.out.below B1)))
      | (go_at_call 50; ((with_reducible refine (ttogether H2.out.f HP.out.1 HP.out.2.1 HP.out.2.2.1 HP.out.2.2.2 hm).mono ?_); rintro e w2 ⟨rfl, A1, O1⟩; have H3 := Lib.hid (H2.out.next A1 O1))))
  clear Hd H1 H2 y0 y1 y2 y3 y4 y5 hlt hrule
  obtain ⟨y0, y1, y2, y3, y4, y5⟩ := H3.out.cells
  have hlt := H3.out.lt
  go_wp2_with fail
  go_ret
  exact ⟨rfl, H3.out.f.more (by omega), H3.out.o⟩
theorem tcount (A : FM w V S T p gb cap m g ts) {L u : Nat} (hL : (L : Int) < lv V) (hu : (u : Int) < V) (ht : t ∈ ts) (hx : Xn V L u ∈ t.row) (hm : m ≤ 970000) :
    Calls Try.prog 33 #[vTr V S T p, .int .i64 (L : Int), .int .i64 (u : Int)] w (Rd V S T p gb cap (m + nN V S + 1) g ts (.int .i64 (cntV (vxN V) t.row : Int)) w) := by
  have hn := nN_le A.tm.hR
  have HP := Lib.hid (And.intro ht hx)
  have H0 := Lib.hid (TO.new A)
  have HR := Lib.hid A.tm.hR
  clear A ht hx
  go_enter Try.func33, Try.ntmps33
  go_wp2_with fail
  generalize w.heap.size = b at H0 ⊢
  generalize w.alloc (.cells #[.int .i64 V, .int .i64 S, .int .i64 T, .iface 95 (pmV p), .int .i64 1, .int .i64 0] 46) = W at H0 ⊢
  obtain ⟨y0, y1, y2, y3, y4, y5⟩ := H0.out.cells
  have hlt := H0.out.lt
  have Hd := Lib.hid H0.out.drew
  have hrule := TO.rule b V S T p
  clear H0
  go_region_held3 (fun W => QB W b V S T p) (first | (with_reducible assumption) | (with_reducible exact H3.out.q) | (with_reducible exact H2.out.q) | (with_reducible exact H1.out.q) | (with_reducible exact Hd.out.q))
    (first
      | (go_at_call 14; ((with_reducible refine (vert_at HR.out hL hu _).mono ?_); rintro e w2 ⟨rfl, B1⟩; have H1 := Lib.hid (Hd.out.below B1)))
      | (go_at_call 20; ((with_reducible refine (hroot H1.out.f HP.out.1 HP.out.2 (by omega) rfl).mono ?_); rintro e w2 ⟨rfl, A1, O1⟩; have H2 := Lib.hid (H1.out.next A1 O1)))
      | (go_at_call 69; ((with_reducible refine (hverts H2.out.f HP.out.1 (by omega) rfl).mono ?_); rintro e w2 ⟨rfl, A1, O1⟩; have H3 := Lib.hid (H2.out.next A1 O1))))
  clear Hd H1 H2 y0 y1 y2 y3 y4 y5 hlt hrule
  obtain ⟨y0, y1, y2, y3, y4, y5⟩ := H3.out.cells
  have hlt := H3.out.lt
  go_wp2_with fail
  go_ret
  exact ⟨rfl, H3.out.f.more (by omega), H3.out.o⟩
/-- What Begin leaves. -/
def BgD (V S T : Int) (p gb cap m : Nat) (ts : List Tp) (t : Tp) (r : List Nat) (w : World) (e : Ending) (w' : World) : Prop :=
  ∃ g' ts' t', e = .returned (.int .i64 ((t'.root : Nat) : Int)) ∧ FM w' V S T p gb cap m g' ts' ∧ t' ∈ ts' ∧ t'.row = r ∧ (∀ s ∈ ts, s ≠ t → s ∈ ts') ∧ Only p gb w w'
theorem tbegin (A : FM w V S T p gb cap m g ts) {L u : Nat} {a c : List Nat} (hL : (L : Int) < lv V) (hu : (u : Int) < V) (ht : t ∈ ts) (hx : t.row = a ++ Xn V L u :: c) (hm : m ≤ 900000) :
    Calls Try.prog 16 #[vTr V S T p, .int .i64 (L : Int), .int .i64 (u : Int)] w (BgD V S T p gb cap (m + 29 * nN V S + 9) ts t (Xn V L u :: (c ++ a)) w) := by
  have hn := nN_le A.tm.hR
  have HP := Lib.hid (And.intro ht hx)
  have H0 := Lib.hid (TO.new A)
  have HR := Lib.hid A.tm.hR
  have HMX : Hid (Xn V L u ∈ t.row) := Lib.hid (by rw [hx]; simp)
  have HF := Lib.hid A.fi
  clear A ht hx
  go_enter Try.func16, Try.ntmps16
  go_wp2_with fail
  generalize w.heap.size = b at H0 ⊢
  generalize w.alloc (.cells #[.int .i64 V, .int .i64 S, .int .i64 T, .iface 95 (pmV p), .int .i64 1, .int .i64 0] 46) = W at H0 ⊢
  obtain ⟨y0, y1, y2, y3, y4, y5⟩ := H0.out.cells
  have hlt := H0.out.lt
  refine (vert_at HR.out hL hu _).mono ?_; rintro e w1 ⟨rfl, B1⟩
  have H1 := Lib.hid (H0.out.below B1)
  clear H0 B1 y0 y1 y2 y3 y4 y5 hlt
  obtain ⟨y0, y1, y2, y3, y4, y5⟩ := H1.out.cells
  have hlt := H1.out.lt
  go_wp2_with fail
  have Hd := Lib.hid H1.out.drew
  have hrule := TO.rule b V S T p
  clear H1
  go_region_held3 (fun W => QB W b V S T p) (first | (with_reducible assumption) | (with_reducible exact H4.out.q) | (with_reducible exact H3.out.q) | (with_reducible exact H2.out.q) | (with_reducible exact Hd.out.q))
    (first
      | (go_at_call 20; ((with_reducible refine (hroot Hd.out.f HP.out.1 HMX.out (by omega) rfl).mono ?_); rintro e w2 ⟨rfl, A1, O1⟩; have H2 := Lib.hid (Hd.out.next A1 O1)))
      | (go_at_call 55; ((with_reducible refine (hindex H2.out.f HP.out.1 HP.out.2 (by omega) rfl).mono ?_); rintro e w2 ⟨rfl, A1, O1⟩; have H3 := Lib.hid (H2.out.next A1 O1)))
      | (go_at_call 54; ((with_reducible refine (hsplit H3.out.f HP.out.1 HP.out.2 (by omega) rfl rfl).mono ?_); rintro e w2 ⟨g1, ts1, ta, tb, rfl, A1, M1, M2, R1, R2, K1, O1⟩; have H4 := Lib.hid (H3.out.next A1 O1); have HM := Lib.hid (And.intro M1 (And.intro M2 (And.intro R1 (And.intro R2 K1)))))))
  clear Hd H2 H3 y0 y1 y2 y3 y4 y5 hlt hrule
  obtain ⟨y0, y1, y2, y3, y4, y5⟩ := H4.out.cells
  have hlt := H4.out.lt
  go_wp2_with fail
  have hne : tb ≠ ta := fun e => by
    have h1 := HM.out.2.2.1
    rw [← e, HM.out.2.2.2.1] at h1
    have h2 := HF.out.one HP.out.1
    rw [HP.out.2, ← h1] at h2
    simp at h2
  refine (hmerge H4.out.f HM.out.2.1 HM.out.1 hne (by omega) rfl rfl).mono ?_; rintro e w1 ⟨g2, ts2, t2, rfl, A1, M2, R2, K2, O1⟩
  have HO := Lib.hid (H4.out.o.trans O1)
  have HK := Lib.hid (fun s (hs : s ∈ ts) (hne : s ≠ t) => K2 s (HM.out.2.2.2.2 s hs hne))
  clear K2 O1
  go_wp2_with fail
  go_ret
  refine ⟨g2, ts2, t2, rfl, A1.more (by omega), M2, ?_, fun s hs h => HK.out s hs h ?_ ?_, HO.out⟩
  · rw [R2, HM.out.2.2.1, HM.out.2.2.2.1]; simp
  · rintro rfl
    refine h (HF.out.uniq (x := Xn V L u) hs HP.out.1 ?_ HMX.out)
    rw [HM.out.2.2.2.1]; simp
  · rintro rfl
    cases a with
    | nil => exact HF.out.row_ne hs HM.out.2.2.1
    | cons z a =>
      refine h (HF.out.uniq (x := z) hs HP.out.1 ?_ ?_)
      · rw [HM.out.2.2.1]; simp
      · rw [HP.out.2]; simp
end

end Go.Proofs.Ytahabfjngeicmaa

/- Tours: apart, loose, Link, Cut. Printed by wip/tools/touk.py. -/
namespace Go.Proofs.Ytahabfjngeicmaa
open Go.RowKit

set_option maxRecDepth 100000

section
variable {w w' w0 : World} {V S T : Int} {b p gb cap m m' i k x y : Nat} {g g' : Mg9} {mk : Nat → Nat} {ts ts' : List Tp} {t s u z ta tb : Tp}
theorem FI.not (hF : FI V S g mk ts) (hz : z ∈ ts) (ht : t ∈ ts) (hne : z ≠ t) (hx : x ∈ t.row) (h : x ∈ u.row) : z ≠ u := fun e => hne (hF.uniq hz ht (e ▸ h) hx)
theorem FI.sub (hF : FI V S g mk ts) (hz : z ∈ ts) (ht : t ∈ ts) (hne : z ≠ t) (hs : ∀ y ∈ u.row, y ∈ t.row) : z ≠ u := fun e => by
  obtain ⟨y, hy⟩ := List.exists_mem_of_ne_nil _ (hF.row_ne hz)
  exact hne (hF.uniq hz ht hy (hs y (e ▸ hy)))
theorem Mb.inn (h : t ∈ ts) : Mb ts t := .inr h
theorem Mb.of (h : Mb ts t) (hne : t.row ≠ []) : t ∈ ts := h.resolve_left fun e => hne (by rw [e]; rfl)
theorem Mb.keep (h : Mb ts t) (hk : ∀ s ∈ ts, s ≠ u → s ∈ ts') (hne : t ≠ u) : Mb ts' t := h.imp id fun h => hk t h hne
theorem row_ne_of (h : x ∈ t.row) (h2 : x ∉ s.row) : s ≠ t := fun e => h2 (e ▸ h)
theorem root_dec (hF : FI V S g mk ts) (ht : t ∈ ts) (hs : s ∈ ts) (hne : t ≠ s) : decide (t.root = s.root) = false := decide_eq_false fun e => hne (hF.root_eq ht hs e)
theorem tapart (A : FM w V S T p gb cap m g ts) {L u v : Nat} (hL : (L : Int) < lv V) (hu : (u : Int) < V) (hv : (v : Int) < V) (ht : t ∈ ts) (hx : Xn V L u ∈ t.row) (hs : s ∈ ts) (hy : Xn V L v ∈ s.row) (hm : m ≤ 970000) :
    Calls Try.prog 57 #[vTr V S T p, .int .i64 (L : Int), .int .i64 (u : Int), .int .i64 (v : Int)] w (Rd V S T p gb cap (m + 2 * nN V S) g ts (.bool (!decide (t.root = s.root))) w) := by
  have hn := nN_le A.tm.hR
  have HP := Lib.hid (And.intro ht (And.intro hx (And.intro hs hy)))
  have H0 := Lib.hid (TO.new A)
  have HR := Lib.hid A.tm.hR
  have n1 : ((Xn V L u : Int) != 0) = true := bne_iff_ne.2 (by have := (A.fi.nodes ht _ hx).1; omega)
  have n2 : ((Xn V L v : Int) != 0) = true := bne_iff_ne.2 (by have := (A.fi.nodes hs _ hy).1; omega)
  clear A ht hx hs hy
  go_enter Try.func57, Try.ntmps57
  go_wp2_with fail
  generalize w.heap.size = b at H0 ⊢
  generalize w.alloc (.cells #[.int .i64 V, .int .i64 S, .int .i64 T, .iface 95 (pmV p), .int .i64 1, .int .i64 0] 46) = W at H0 ⊢
  obtain ⟨y0, y1, y2, y3, y4, y5⟩ := H0.out.cells
  have hlt := H0.out.lt
  have Hd := Lib.hid H0.out.drew
  have hrule := TO.rule b V S T p
  clear H0
  go_region_held3 (fun W => QB W b V S T p) (first | (with_reducible assumption) | (with_reducible exact H2.out.q) | (with_reducible exact H1.out.q) | (with_reducible exact Hd.out.q))
    (first
      | (go_at_call 14; ((with_reducible refine (vert_at HR.out hL hu _).mono ?_); rintro e w2 ⟨rfl, B1⟩; have H1 := Lib.hid (Hd.out.below B1)))
      | (go_at_call 14; ((with_reducible refine (vert_at HR.out hL hv _).mono ?_); rintro e w2 ⟨rfl, B1⟩; have H2 := Lib.hid (H1.out.below B1))))
  clear Hd H1 y0 y1 y2 y3 y4 y5 hlt hrule
  obtain ⟨y0, y1, y2, y3, y4, y5⟩ := H2.out.cells
  have hlt := H2.out.lt
  go_wp2_with fail
  refine (ttogether H2.out.f HP.out.1 HP.out.2.1 HP.out.2.2.1 HP.out.2.2.2 hm).mono ?_; rintro e w1 ⟨rfl, A1, O1⟩
  have H3 := Lib.hid (H2.out.next A1 O1)
  clear H2 A1 O1 y0 y1 y2 y3 y4 y5 hlt
  obtain ⟨y0, y1, y2, y3, y4, y5⟩ := H3.out.cells
  have hlt := H3.out.lt
  go_wp2_with fail
  go_ret
  exact ⟨rfl, H3.out.f.more (by omega), H3.out.o⟩
theorem tloose (A : FM w V S T p gb cap m g ts) {L a : Nat} (hL : (L : Int) < lv V) (ha : (a : Int) < S) (ht : t ∈ ts) (hx : An V S L a 0 ∈ t.row) (hs : s ∈ ts) (hy : An V S L a 1 ∈ s.row) (hm : m ≤ 970000) :
    Calls Try.prog 58 #[vTr V S T p, .int .i64 (L : Int), .int .i64 (a : Int)] w (Rd V S T p gb cap (m + 2 * nN V S) g ts (.bool (!decide (t.root = s.root))) w) := by
  have hn := nN_le A.tm.hR
  have HP := Lib.hid (And.intro ht (And.intro hx (And.intro hs hy)))
  have H0 := Lib.hid (TO.new A)
  have HR := Lib.hid A.tm.hR
  have n1 : ((An V S L a 0 : Int) != 0) = true := bne_iff_ne.2 (by have := (A.fi.nodes ht _ hx).1; omega)
  clear A ht hx hs hy
  go_enter Try.func58, Try.ntmps58
  go_wp2_with fail
  generalize w.heap.size = b at H0 ⊢
  generalize w.alloc (.cells #[.int .i64 V, .int .i64 S, .int .i64 T, .iface 95 (pmV p), .int .i64 1, .int .i64 0] 46) = W at H0 ⊢
  obtain ⟨y0, y1, y2, y3, y4, y5⟩ := H0.out.cells
  have hlt := H0.out.lt
  refine (arc0_at HR.out hL ha _).mono ?_; rintro e w1 ⟨rfl, B1⟩
  have H1 := Lib.hid (H0.out.below B1)
  clear H0 B1 y0 y1 y2 y3 y4 y5 hlt
  obtain ⟨y0, y1, y2, y3, y4, y5⟩ := H1.out.cells
  have hlt := H1.out.lt
  go_wp2_with fail
  refine (tlinked H1.out.f hL ha HP.out.1 HP.out.2.1 HP.out.2.2.1 HP.out.2.2.2 hm).mono ?_; rintro e w1 ⟨rfl, A1, O1⟩
  have H2 := Lib.hid (H1.out.next A1 O1)
  clear H1 A1 O1 y0 y1 y2 y3 y4 y5 hlt
  obtain ⟨y0, y1, y2, y3, y4, y5⟩ := H2.out.cells
  have hlt := H2.out.lt
  go_wp2_with fail
  go_ret
  exact ⟨rfl, H2.out.f.more (by omega), H2.out.o⟩
/-- A row begun elsewhere has the same nodes. -/
theorem begun_mem {a c : List Nat} (R : t.row = a ++ x :: c) (R1 : u.row = x :: (c ++ a)) (hy : y ∈ u.row) : y ∈ t.row := by
  rw [R1] at hy
  rw [R]
  rcases List.mem_cons.1 hy with h | h
  · simp [h]
  · rcases List.mem_append.1 h with h | h
    · simp [h]
    · simp [h]
theorem FI.begun_ne {a c : List Nat} (hF : FI V S g mk ts) (hz : z ∈ ts) (ht : t ∈ ts) (hne : z ≠ t) (R : t.row = a ++ x :: c) (R1 : u.row = x :: (c ++ a)) : z ≠ u := hF.sub hz ht hne fun _ hy => begun_mem R R1 hy
/-- Four trees of which no two are one. -/
structure Four (ts : List Tp) (t s c0 c1 : Tp) (x y e0 e1 : Nat) (a1 a2 b1 b2 : List Nat) : Prop where
  ht : t ∈ ts
  hs : s ∈ ts
  h0 : c0 ∈ ts
  h1 : c1 ∈ ts
  st : s ≠ t
  t0 : c0 ≠ t
  t1 : c1 ≠ t
  s0 : c0 ≠ s
  s1 : c1 ≠ s
  d1 : c1 ≠ c0
  rt : t.row = a1 ++ x :: a2
  rs : s.row = b1 ++ y :: b2
  r0 : c0.row = [e0]
  r1 : c1.row = [e1]
section
variable {c0 c1 t1 t2 s1 t4 : Tp} {e0 e1 : Nat} {a1 a2 b1 b2 : List Nat} {ts1 ts2 ts3 ts4 : List Tp}
theorem Four.xt (h : Four ts t s c0 c1 x y e0 e1 a1 a2 b1 b2) : x ∈ t.row := by rw [h.rt]; simp
theorem Four.ys (h : Four ts t s c0 c1 x y e0 e1 a1 a2 b1 b2) : y ∈ s.row := by rw [h.rs]; simp
theorem Four.q0 (h : Four ts t s c0 c1 x y e0 e1 a1 a2 b1 b2) : (e0 : Int) = (c0.root : Int) := by rw [sgl_of h.r0]; rfl
theorem Four.q1 (h : Four ts t s c0 c1 x y e0 e1 a1 a2 b1 b2) : (e1 : Int) = (c1.root : Int) := by rw [sgl_of h.r1]; rfl
theorem Four.not_t (h : Four ts t s c0 c1 x y e0 e1 a1 a2 b1 b2) (hF : FI V S g mk ts) (hz : z ∈ ts) (hne : z ≠ t) (hx : x ∈ u.row) : z ≠ u := hF.not hz h.ht hne h.xt hx
theorem Four.t1x (R1 : t1.row = x :: (a2 ++ a1)) : x ∈ t1.row := by rw [R1]; simp
theorem Four.t2x (R1 : t1.row = x :: (a2 ++ a1)) (R2 : t2.row = t1.row ++ c0.row) : x ∈ t2.row := by rw [R2, R1]; simp
theorem Four.t4x (R1 : t1.row = x :: (a2 ++ a1)) (R2 : t2.row = t1.row ++ c0.row) (R4 : t4.row = t2.row ++ s1.row) : x ∈ t4.row := by rw [R4, R2, R1]; simp
theorem Four.t2s (h : Four ts t s c0 c1 x y e0 e1 a1 a2 b1 b2) (hF : FI V S g mk ts) (R1 : t1.row = x :: (a2 ++ a1)) (R2 : t2.row = t1.row ++ c0.row) (R3 : s1.row = y :: (b2 ++ b1)) : t2 ≠ s1 := fun e => h.st (hF.uniq h.hs h.ht (begun_mem h.rs R3 (e ▸ Four.t2x R1 R2)) h.xt)
end
/-- What Link leaves. -/
def LkD (V S T : Int) (p gb cap m : Nat) (ts : List Tp) (t s c0 c1 : Tp) (r : List Nat) (w : World) (e : Ending) (w' : World) : Prop :=
  ∃ g' ts' t', e = .returned (.int .i64 ((t'.root : Nat) : Int)) ∧ FM w' V S T p gb cap m g' ts' ∧ t' ∈ ts' ∧ t'.row = r ∧ (∀ z ∈ ts, z ≠ t → z ≠ s → z ≠ c0 → z ≠ c1 → z ∈ ts') ∧ Only p gb w w'
set_option maxHeartbeats 1000000 in
theorem tlink {c0 c1 : Tp} {L u v a : Nat} {a1 a2 b1 b2 : List Nat} (A : FM w V S T p gb cap m g ts) (hL : (L : Int) < lv V) (hu : (u : Int) < V) (hv : (v : Int) < V) (ha : (a : Int) < S) (hP : Four ts t s c0 c1 (Xn V L u) (Xn V L v) (An V S L a 0) (An V S L a 1) a1 a2 b1 b2) (hm : m ≤ 800000) :
    Calls Try.prog 17 #[vTr V S T p, .int .i64 (L : Int), .int .i64 (a : Int), .int .i64 (u : Int), .int .i64 (v : Int)] w (LkD V S T p gb cap (m + 100 * nN V S + 30) ts t s c0 c1 ((Xn V L u :: (a2 ++ a1)) ++ An V S L a 0 :: ((Xn V L v :: (b2 ++ b1)) ++ [An V S L a 1])) w) := by
  have hn := nN_le A.tm.hR
  have HP := Lib.hid hP
  have H0 := Lib.hid (TO.new A)
  have HR := Lib.hid A.tm.hR
  have HF := Lib.hid A.fi
  have HN : Hid ((!decide (t.root = s.root)) = true ∧ (!decide (c0.root = c1.root)) = true) := Lib.hid ⟨by rw [root_dec A.fi hP.ht hP.hs (Ne.symm hP.st)]; rfl, by rw [root_dec A.fi hP.h0 hP.h1 (Ne.symm hP.d1)]; rfl⟩
  have HX : Hid (An V S L a 0 ∈ c0.row ∧ An V S L a 1 ∈ c1.row) := Lib.hid ⟨by rw [hP.r0]; simp, by rw [hP.r1]; simp⟩
  clear A hP
  go_enter Try.func17, Try.ntmps17
  go_wp2_with fail
  generalize w.heap.size = b at H0 ⊢
  generalize w.alloc (.cells #[.int .i64 V, .int .i64 S, .int .i64 T, .iface 95 (pmV p), .int .i64 1, .int .i64 0] 46) = W at H0 ⊢
  obtain ⟨y0, y1, y2, y3, y4, y5⟩ := H0.out.cells
  have hlt := H0.out.lt
  refine (tapart H0.out.f hL hu hv HP.out.ht HP.out.xt HP.out.hs HP.out.ys (by omega)).mono ?_; rintro e w1 ⟨rfl, A1, O1⟩
  have H1 := Lib.hid (H0.out.next A1 O1)
  clear H0 A1 O1 y0 y1 y2 y3 y4 y5 hlt
  rw [HN.out.1]
  obtain ⟨y0, y1, y2, y3, y4, y5⟩ := H1.out.cells
  have hlt := H1.out.lt
  go_wp2_with fail
  refine (tloose H1.out.f hL ha HP.out.h0 HX.out.1 HP.out.h1 HX.out.2 (by omega)).mono ?_; rintro e w1 ⟨rfl, A1, O1⟩
  have H2 := Lib.hid (H1.out.next A1 O1)
  clear H1 A1 O1 y0 y1 y2 y3 y4 y5 hlt
  rw [HN.out.2]
  obtain ⟨y0, y1, y2, y3, y4, y5⟩ := H2.out.cells
  have hlt := H2.out.lt
  go_wp2_with fail
  have Hd := Lib.hid H2.out.drew
  have hrule := TO.rule b V S T p
  clear H2
  go_region_held3 (fun W => QB W b V S T p) (first | (with_reducible assumption) | (with_reducible exact H5.out.q) | (with_reducible exact H4.out.q) | (with_reducible exact H3.out.q) | (with_reducible exact Hd.out.q))
    (first
      | (go_at_call 16; ((with_reducible refine (tbegin Hd.out.f hL hu HP.out.ht HP.out.rt (by omega)).mono ?_); rintro e w2 ⟨g1, ts1, t1, rfl, A1, M1, R1, K1, O1⟩; have H3 := Lib.hid (Hd.out.next A1 O1); have HM1 := Lib.hid M1; have HR1 := Lib.hid R1; have HK1 := Lib.hid K1))
      | (go_at_call 42; ((with_reducible refine (arc0_at HR.out hL ha _).mono ?_); rintro e w2 ⟨rfl, B1⟩; have H4 := Lib.hid (H3.out.below B1)))
      | (go_at_call 56; ((with_reducible refine (hmerge H4.out.f (Mb.inn HM1.out) (Mb.inn (HK1.out c0 HP.out.h0 HP.out.t0)) (Ne.symm (HF.out.begun_ne HP.out.h0 HP.out.ht HP.out.t0 HP.out.rt HR1.out)) (by omega) rfl HP.out.q0).mono ?_); rintro e w2 ⟨g2, ts2, t2, rfl, A1, M2, R2, K2, O1⟩; have H5 := Lib.hid (H4.out.next A1 O1); have HM2 := Lib.hid M2; have HR2 := Lib.hid R2; have HK2 : Hid (∀ z ∈ ts, z ≠ t → z ≠ c0 → z ∈ ts2) := Lib.hid (fun z hz h1 h2 => K2 z (HK1.out z hz h1) (HF.out.begun_ne hz HP.out.ht h1 HP.out.rt HR1.out) h2))))
  clear Hd H3 H4 y0 y1 y2 y3 y4 y5 hlt hrule
  obtain ⟨y0, y1, y2, y3, y4, y5⟩ := H5.out.cells
  have hlt := H5.out.lt
  go_wp2_with fail
  have Hd := Lib.hid H5.out.drew
  have hrule := TO.rule b V S T p
  clear H5
  go_region_held3 (fun W => QB W b V S T p) (first | (with_reducible assumption) | (with_reducible exact H7.out.q) | (with_reducible exact H6.out.q) | (with_reducible exact Hd.out.q))
    (first
      | (go_at_call 16; ((with_reducible refine (tbegin Hd.out.f hL hv (HK2.out s HP.out.hs HP.out.st (Ne.symm HP.out.s0)) HP.out.rs (by omega)).mono ?_); rintro e w2 ⟨g3, ts3, s1, rfl, A1, M3, R3, K3, O1⟩; have H6 := Lib.hid (Hd.out.next A1 O1); have HM3 := Lib.hid M3; have HR3 := Lib.hid R3; have HK3 := Lib.hid K3))
      | (go_at_call 56; ((with_reducible refine (hmerge H6.out.f (Mb.inn (HK3.out t2 HM2.out (Ne.symm (HP.out.not_t HF.out HP.out.hs HP.out.st (Four.t2x HR1.out HR2.out))))) (Mb.inn HM3.out) (HP.out.t2s HF.out HR1.out HR2.out HR3.out) (by omega) rfl rfl).mono ?_); rintro e w2 ⟨g4, ts4, t4, rfl, A1, M4, R4, K4, O1⟩; have H7 := Lib.hid (H6.out.next A1 O1); have HM4 := Lib.hid M4; have HR4 := Lib.hid R4; have HK4 : Hid (∀ z ∈ ts, z ≠ t → z ≠ s → z ≠ c0 → z ∈ ts4) := Lib.hid (fun z hz h1 h2 h3 => K4 z (HK3.out z (HK2.out z hz h1 h3) h2) (HP.out.not_t HF.out hz h1 (Four.t2x HR1.out HR2.out)) (HF.out.begun_ne hz HP.out.hs h2 HP.out.rs HR3.out)))))
  clear Hd H6 y0 y1 y2 y3 y4 y5 hlt hrule
  obtain ⟨y0, y1, y2, y3, y4, y5⟩ := H7.out.cells
  have hlt := H7.out.lt
  go_wp2_with fail
  have Hd := Lib.hid H7.out.drew
  have hrule := TO.rule b V S T p
  clear H7
  go_region_held3 (fun W => QB W b V S T p) (first | (with_reducible assumption) | (with_reducible exact H9.out.q) | (with_reducible exact H8.out.q) | (with_reducible exact Hd.out.q))
    (first
      | (go_at_call 42; ((with_reducible refine (arc1_at HR.out hL ha _).mono ?_); rintro e w2 ⟨rfl, B1⟩; have H8 := Lib.hid (Hd.out.below B1)))
      | (go_at_call 56; ((with_reducible refine (hmerge H8.out.f (Mb.inn HM4.out) (Mb.inn (HK4.out c1 HP.out.h1 HP.out.t1 HP.out.s1 HP.out.d1)) (Ne.symm (HP.out.not_t HF.out HP.out.h1 HP.out.t1 (Four.t4x HR1.out HR2.out HR4.out))) (by omega) rfl HP.out.q1).mono ?_); rintro e w2 ⟨g5, ts5, t5, rfl, A1, M5, R5, K5, O1⟩; have H9 := Lib.hid (H8.out.next A1 O1); have HM5 := Lib.hid M5; have HR5 := Lib.hid R5; have HK5 : Hid (∀ z ∈ ts, z ≠ t → z ≠ s → z ≠ c0 → z ≠ c1 → z ∈ ts5) := Lib.hid (fun z hz h1 h2 h3 h4 => K5 z (HK4.out z hz h1 h2 h3) (HP.out.not_t HF.out hz h1 (Four.t4x HR1.out HR2.out HR4.out)) h4))))
  clear Hd H8 y0 y1 y2 y3 y4 y5 hlt hrule
  obtain ⟨y0, y1, y2, y3, y4, y5⟩ := H9.out.cells
  have hlt := H9.out.lt
  go_wp2_with fail
  go_ret
  refine ⟨g5, ts5, t5, rfl, H9.out.f.more (by omega), HM5.out, ?_, HK5.out, H9.out.o⟩
  rw [HR5.out, HR4.out, HR3.out, HR2.out, HR1.out, HP.out.r0, HP.out.r1]; simp
theorem tlinked_yes (A : FM w V S T p gb cap m g ts) {L a : Nat} (hL : (L : Int) < lv V) (ha : (a : Int) < S) (ht : t ∈ ts) (hx : An V S L a 0 ∈ t.row) (hy : An V S L a 1 ∈ t.row) (hm : m ≤ 970000) :
    Calls Try.prog 34 #[vTr V S T p, .int .i64 (L : Int), .int .i64 (a : Int)] w (Rd V S T p gb cap (m + 2 * nN V S) g ts (.bool true) w) := by
  have := tlinked A hL ha ht hx ht hy hm
  rwa [decide_eq_true rfl] at this
/-- What a row is made of that two arcs part. -/
structure Parts (t : Tp) (c d : Nat) (pp qq rr : List Nat) : Prop where
  row : t.row = pp ++ c :: (qq ++ d :: rr)
  nd : t.row.Nodup
  q0 : qq ≠ []
  o0 : pp ++ rr ≠ []
section
variable {c d : Nat} {pp qq rr : List Nat} {u1 u2 u3 ah be inn ct dt : Tp}
theorem Parts.no (h : Parts t c d pp qq rr) : c ∉ pp ∧ c ∉ qq ∧ c ≠ d ∧ c ∉ rr ∧ d ∉ pp ∧ d ∉ qq ∧ d ∉ rr ∧ (∀ z ∈ pp, z ∉ qq) ∧ (∀ z ∈ pp, z ∉ rr) ∧ ∀ z ∈ qq, z ∉ rr := by
  have := h.nd
  rw [h.row] at this
  simp only [List.nodup_append, List.nodup_cons, List.mem_append, List.mem_cons, not_or] at this
  obtain ⟨np, ⟨⟨cq, cd, cr⟩, nq, ⟨dr, nr⟩, qdr⟩, pall⟩ := this
  refine ⟨fun hc => pall c hc c (.inl rfl) rfl, cq, cd, cr, fun hd => pall d hd d (.inr (.inr (.inl rfl))) rfl, fun hd => qdr d hd d (.inl rfl) rfl, dr, fun z hz hq => pall z hz z (.inr (.inl hq)) rfl, fun z hz hr => pall z hz z (.inr (.inr (.inr hr))) rfl, fun z hz hr => qdr z hz z (.inr hr) rfl⟩
theorem Parts.c_in (h : Parts t c d pp qq rr) : c ∈ t.row := by rw [h.row]; simp
theorem Parts.d_in (h : Parts t c d pp qq rr) : d ∈ t.row := by rw [h.row]; simp
theorem Parts.inn_ne (h : Parts t c d pp qq rr) (hi : inn.row = qq) (hs : s.row = pp ∨ s.row = rr) : inn ≠ s := fun e => by
  obtain ⟨y, hy⟩ := List.exists_mem_of_ne_nil _ h.q0
  have h1 : y ∈ s.row := by rw [← e, hi]; exact hy
  rcases hs with hs | hs <;> rw [hs] at h1
  · exact h.no.2.2.2.2.2.2.2.1 y h1 hy
  · exact h.no.2.2.2.2.2.2.2.2.2 y hy h1
theorem Parts.ah_be (h : Parts t c d pp qq rr) (ha : ah.row = pp) (hb : be.row = rr) : ah ≠ be := fun e => by
  have e2 : pp = rr := by rw [← ha, ← hb, e]
  obtain ⟨y, hy⟩ := List.exists_mem_of_ne_nil _ h.o0
  have h1 : y ∈ pp := by rcases List.mem_append.1 hy with h | h; exact h; rw [e2]; exact h
  exact h.no.2.2.2.2.2.2.2.2.1 y h1 (e2 ▸ h1)
theorem Parts.sub (h : Parts t c d pp qq rr) (hs : ∀ y ∈ u.row, y ∈ pp ∨ y = c ∨ y ∈ qq ∨ y = d ∨ y ∈ rr) (hF : FI V S g mk ts) (hz : z ∈ ts) (ht : t ∈ ts) (hne : z ≠ t) : z ≠ u := hF.sub hz ht hne fun y hy => by
  rw [h.row]
  rcases hs y hy with h | h | h | h | h <;> simp [h]
theorem Parts.cut1 (h : Parts t c d pp qq rr) : t.row = (pp ++ c :: (qq ++ [d])) ++ rr := by rw [h.row]; simp
theorem Parts.cut2 (_h : Parts t c d pp qq rr) (hu : u1.row = pp ++ c :: (qq ++ [d])) : u1.row = (pp ++ c :: qq) ++ [d] := by rw [hu]; simp
theorem Parts.cut3 (_h : Parts t c d pp qq rr) (hu : u2.row = pp ++ c :: qq) : u2.row = (pp ++ [c]) ++ qq := by rw [hu]; simp
theorem Parts.ne1 (_h : Parts t c d pp qq rr) (hu : u1.row = pp ++ c :: (qq ++ [d])) : u1.row ≠ [] := by rw [hu]; simp
theorem Parts.ne2 (_h : Parts t c d pp qq rr) (hu : u2.row = pp ++ c :: qq) : u2.row ≠ [] := by rw [hu]; simp
theorem Parts.ne3 (_h : Parts t c d pp qq rr) (hu : u3.row = pp ++ [c]) : u3.row ≠ [] := by rw [hu]; simp
theorem Parts.dt_ne (h : Parts t c d pp qq rr) (hd : dt.row = [d]) (hu : u2.row = pp ++ c :: qq) : dt ≠ u2 := row_ne_of (x := c) (by rw [hu]; simp) (by rw [hd]; simp [h.no.2.2.1])
theorem Parts.dt_ne3 (h : Parts t c d pp qq rr) (hd : dt.row = [d]) (hu : u3.row = pp ++ [c]) : dt ≠ u3 := row_ne_of (x := c) (by rw [hu]; simp) (by rw [hd]; simp [h.no.2.2.1])
theorem Parts.in_ne (h : Parts t c d pp qq rr) (hd : inn.row = qq) (hu : u3.row = pp ++ [c]) : inn ≠ u3 := row_ne_of (x := c) (by rw [hu]; simp) (by rw [hd]; exact h.no.2.1)
theorem Parts.be_ne1 (h : Parts t c d pp qq rr) (hd : be.row = rr) (hu : u1.row = pp ++ c :: (qq ++ [d])) : be ≠ u1 := row_ne_of (x := c) (by rw [hu]; simp) (by rw [hd]; exact h.no.2.2.2.1)
theorem Parts.be_ne2 (h : Parts t c d pp qq rr) (hd : be.row = rr) (hu : u2.row = pp ++ c :: qq) : be ≠ u2 := row_ne_of (x := c) (by rw [hu]; simp) (by rw [hd]; exact h.no.2.2.2.1)
theorem Parts.be_ne3 (h : Parts t c d pp qq rr) (hd : be.row = rr) (hu : u3.row = pp ++ [c]) : be ≠ u3 := row_ne_of (x := c) (by rw [hu]; simp) (by rw [hd]; exact h.no.2.2.2.1)
theorem Parts.ct_ne (h : Parts t c d pp qq rr) (hd : ct.row = [c]) (hs : s.row = pp ∨ s.row = rr) : ct ≠ s := fun e => by
  have h1 : c ∈ s.row := by rw [← e, hd]; simp
  rcases hs with hs | hs <;> rw [hs] at h1
  · exact h.no.1 h1
  · exact h.no.2.2.2.1 h1
theorem Parts.dt_no (h : Parts t c d pp qq rr) (hd : dt.row = [d]) (hs : s.row = pp ∨ s.row = rr) : dt ≠ s := fun e => by
  have h1 : d ∈ s.row := by rw [← e, hd]; simp
  rcases hs with hs | hs <;> rw [hs] at h1
  · exact h.no.2.2.2.2.1 h1
  · exact h.no.2.2.2.2.2.2.1 h1
theorem Parts.sub1 (h : Parts t c d pp qq rr) (hu : u.row = pp ++ c :: (qq ++ [d])) (hF : FI V S g mk ts) (hz : z ∈ ts) (ht : t ∈ ts) (hne : z ≠ t) : z ≠ u := h.sub (fun y hy => by rw [hu] at hy; simp at hy; rcases hy with h | h | h | h <;> simp [h]) hF hz ht hne
theorem Parts.sub2 (h : Parts t c d pp qq rr) (hu : u.row = pp ++ c :: qq) (hF : FI V S g mk ts) (hz : z ∈ ts) (ht : t ∈ ts) (hne : z ≠ t) : z ≠ u := h.sub (fun y hy => by rw [hu] at hy; simp at hy; rcases hy with h | h | h <;> simp [h]) hF hz ht hne
theorem Parts.sub3 (h : Parts t c d pp qq rr) (hu : u.row = pp ++ [c]) (hF : FI V S g mk ts) (hz : z ∈ ts) (ht : t ∈ ts) (hne : z ≠ t) : z ≠ u := h.sub (fun y hy => by rw [hu] at hy; simp at hy; rcases hy with h | h <;> simp [h]) hF hz ht hne
theorem Parts.sub4 (h : Parts t c d pp qq rr) (hu : u.row = pp) (hF : FI V S g mk ts) (hz : z ∈ ts) (ht : t ∈ ts) (hne : z ≠ t) : z ≠ u := h.sub (fun y hy => by rw [hu] at hy; exact .inl hy) hF hz ht hne
theorem Parts.sub5 (h : Parts t c d pp qq rr) (hu : u.row = rr) (hF : FI V S g mk ts) (hz : z ∈ ts) (ht : t ∈ ts) (hne : z ≠ t) : z ≠ u := h.sub (fun y hy => by rw [hu] at hy; exact .inr (.inr (.inr (.inr hy)))) hF hz ht hne
end
/-- What Cut leaves. -/
def CtD (V S T : Int) (p gb cap m : Nat) (ts : List Tp) (t : Tp) (c d : Nat) (qq oo : List Nat) (w : World) (e : Ending) (w' : World) : Prop :=
  ∃ g' ts' ti tu ct dt, e = .returned (.tuple #[.int .i64 ((ti.root : Nat) : Int), .int .i64 ((tu.root : Nat) : Int)]) ∧ FM w' V S T p gb cap m g' ts' ∧ ti ∈ ts' ∧ tu ∈ ts' ∧ ti.row = qq ∧ tu.row = oo ∧ ct ∈ ts' ∧ ct.row = [c] ∧ dt ∈ ts' ∧ dt.row = [d] ∧ (∀ z ∈ ts, z ≠ t → z ∈ ts') ∧ Only p gb w w'
set_option maxHeartbeats 1000000 in
theorem tcut01 {L a : Nat} {pp qq rr : List Nat} (A : FM w V S T p gb cap m g ts) (hL : (L : Int) < lv V) (ha : (a : Int) < S) (ht : t ∈ ts) (hP : Parts t (An V S L a 0) (An V S L a 1) pp qq rr) (hm : m ≤ 800000) :
    Calls Try.prog 18 #[vTr V S T p, .int .i64 (L : Int), .int .i64 (a : Int)] w (CtD V S T p gb cap (m + 100 * nN V S + 50) ts t (An V S L a 0) (An V S L a 1) qq (pp ++ rr) w) := by
  have hn := nN_le A.tm.hR
  have HP := Lib.hid hP
  have HT := Lib.hid ht
  have H0 := Lib.hid (TO.new A)
  have HR := Lib.hid A.tm.hR
  have HF := Lib.hid A.fi
  have hlen : pp.length + qq.length + 2 ≤ 560 := by
    have := A.fi.size ht
    unfold Tp.size at this
    rw [hP.row] at this
    simp only [List.length_append, List.length_cons] at this
    omega
  obtain ⟨n1, hn1⟩ : ∃ n, pp.length = n := ⟨_, rfl⟩
  obtain ⟨n2, hn2⟩ : ∃ n, pp.length + qq.length + 1 = n := ⟨_, rfl⟩
  have HN1 := Lib.hid hn1
  have HN2 := Lib.hid hn2
  have hlt12 : n1 < n2 := by omega
  have hb2 : n2 ≤ 560 := by omega
  have HI1 : Hid (t.row = pp ++ An V S L a 0 :: (qq ++ An V S L a 1 :: rr)) := Lib.hid hP.row
  have HI2 : Hid (t.row = (pp ++ An V S L a 0 :: qq) ++ An V S L a 1 :: rr) := Lib.hid (by rw [hP.row]; simp)
  have HL2 : Hid (((pp ++ An V S L a 0 :: qq).length : Int) = (n2 : Int)) := Lib.hid (by simp; omega)
  have wr1 : IntKind.i64.wrap ((n2 : Int) + 1) = (n2 : Int) + 1 := IntWalk.i64_in _ (by omega)
  have wr2 : IntKind.i64.wrap ((n1 : Int) + 1) = (n1 : Int) + 1 := IntWalk.i64_in _ (by omega)
  have hmin : min (n1 : Int) (n2 : Int) = n1 := Int.min_eq_left (by omega)
  have hmax : max (n1 : Int) (n2 : Int) = n2 := Int.max_eq_right (by omega)
  have hmin2 : min (n2 : Int) (n1 : Int) = n1 := Int.min_eq_right (by omega)
  have hmax2 : max (n2 : Int) (n1 : Int) = n2 := Int.max_eq_left (by omega)
  have HK1 : Hid ((n2 : Int) + 1 = ((pp ++ An V S L a 0 :: (qq ++ [An V S L a 1])).length : Int)) := Lib.hid (by simp; omega)
  have HK2 : Hid ((n2 : Int) = ((pp ++ An V S L a 0 :: qq).length : Int)) := Lib.hid (by simp; omega)
  have HK3 : Hid ((n1 : Int) + 1 = ((pp ++ [An V S L a 0]).length : Int)) := Lib.hid (by simp; omega)
  have HK4 : Hid ((n1 : Int) = (pp.length : Int)) := Lib.hid (by omega)
  clear A ht hP hlen hn1 hn2
  go_enter Try.func18, Try.ntmps18
  go_wp2_with fail
  generalize w.heap.size = b at H0 ⊢
  generalize w.alloc (.cells #[.int .i64 V, .int .i64 S, .int .i64 T, .iface 95 (pmV p), .int .i64 1, .int .i64 0] 46) = W at H0 ⊢
  obtain ⟨y0, y1, y2, y3, y4, y5⟩ := H0.out.cells
  have hlt := H0.out.lt
  refine (tlinked_yes H0.out.f hL ha HT.out HP.out.c_in HP.out.d_in (by omega)).mono ?_; rintro e w1 ⟨rfl, A1, O1⟩
  have H1 := Lib.hid (H0.out.next A1 O1)
  clear H0 A1 O1 y0 y1 y2 y3 y4 y5 hlt
  obtain ⟨y0, y1, y2, y3, y4, y5⟩ := H1.out.cells
  have hlt := H1.out.lt
  go_wp2_with fail
  have Hd := Lib.hid H1.out.drew
  have hrule := TO.rule b V S T p
  clear H1
  go_region_held3 (fun W => QB W b V S T p) (first | (with_reducible assumption) | (with_reducible exact H3.out.q) | (with_reducible exact H2.out.q) | (with_reducible exact Hd.out.q))
    (first
      | (go_at_call 42; ((with_reducible refine (arc0_at HR.out hL ha _).mono ?_); rintro e w2 ⟨rfl, B1⟩; have H2 := Lib.hid (Hd.out.below B1)))
      | (go_at_call 42; ((with_reducible refine (arc1_at HR.out hL ha _).mono ?_); rintro e w2 ⟨rfl, B1⟩; have H3 := Lib.hid (H2.out.below B1))))
  clear Hd H2 y0 y1 y2 y3 y4 y5 hlt hrule
  obtain ⟨y0, y1, y2, y3, y4, y5⟩ := H3.out.cells
  have hlt := H3.out.lt
  go_wp2_with fail
  have Hd := Lib.hid H3.out.drew
  have hrule := TO.rule b V S T p
  clear H3
  go_region_held3 (fun W => QB W b V S T p) (first | (with_reducible assumption) | (with_reducible exact H5.out.q) | (with_reducible exact H4.out.q) | (with_reducible exact Hd.out.q))
    (first
      | (go_at_call 55; ((with_reducible refine (hindex Hd.out.f HT.out HI1.out (by omega) rfl).mono ?_); rintro e w2 ⟨rfl, A1, O1⟩; have H4 := Lib.hid (Hd.out.next A1 O1); rw [HN1.out]))
      | (go_at_call 55; ((with_reducible refine (hindex H4.out.f HT.out HI2.out (by omega) rfl).mono ?_); rintro e w2 ⟨rfl, A1, O1⟩; have H5 := Lib.hid (H4.out.next A1 O1); rw [HL2.out])))
  clear Hd H4 y0 y1 y2 y3 y4 y5 hlt hrule
  obtain ⟨y0, y1, y2, y3, y4, y5⟩ := H5.out.cells
  have hlt := H5.out.lt
  go_wp2_with fail
  have Hd := Lib.hid H5.out.drew
  have hrule := TO.rule b V S T p
  clear H5
  go_region_held3 (fun W => QB W b V S T p) (first | (with_reducible assumption) | (with_reducible exact H7.out.q) | (with_reducible exact H6.out.q) | (with_reducible exact Hd.out.q))
    (first
      | (go_at_call 20; ((with_reducible refine (hroot Hd.out.f HT.out HP.out.c_in (by omega) rfl).mono ?_); rintro e w2 ⟨rfl, A1, O1⟩; have H6 := Lib.hid (Hd.out.next A1 O1)))
      | (go_at_call 54; ((with_reducible refine (hsplit H6.out.f HT.out HP.out.cut1 (by omega) rfl (HK1.out)).mono ?_); rintro e w2 ⟨g1, ts1, u1, be, rfl, A1, Mu, Mb1, Ru, Rb, K1, O1⟩; have H7 := Lib.hid (H6.out.next A1 O1); have HU1 := Lib.hid (And.intro (Mu.of (HP.out.ne1 Ru)) Ru); have HBE := Lib.hid (And.intro Mb1 Rb); have HK1b := Lib.hid K1)))
  clear Hd H6 y0 y1 y2 y3 y4 y5 hlt hrule
  obtain ⟨y0, y1, y2, y3, y4, y5⟩ := H7.out.cells
  have hlt := H7.out.lt
  go_wp2_with fail
  refine (hsplit H7.out.f HU1.out.1 (HP.out.cut2 HU1.out.2) (by omega) rfl HK2.out).mono ?_; rintro e w1 ⟨g2, ts2, u2, dt, rfl, A1, Mu, Md, Ru, Rd, K2, O1⟩
  have H8 := Lib.hid (H7.out.next A1 O1)
  have HU2 := Lib.hid (And.intro (Mu.of (HP.out.ne2 Ru)) Ru)
  have HDT := Lib.hid (And.intro (Md.of (by rw [Rd]; simp)) Rd)
  have HK2b := Lib.hid K2
  clear H7 A1 O1 y0 y1 y2 y3 y4 y5 hlt
  obtain ⟨y0, y1, y2, y3, y4, y5⟩ := H8.out.cells
  have hlt := H8.out.lt
  go_wp2_with fail
  refine (hsplit H8.out.f HU2.out.1 (HP.out.cut3 HU2.out.2) (by omega) rfl HK3.out).mono ?_; rintro e w1 ⟨g3, ts3, u3, inn, rfl, A1, Mu, Md, Ru, Rd, K3, O1⟩
  have H9 := Lib.hid (H8.out.next A1 O1)
  have HU3 := Lib.hid (And.intro (Mu.of (HP.out.ne3 Ru)) Ru)
  have HIN := Lib.hid (And.intro (Md.of (by rw [Rd]; exact HP.out.q0)) Rd)
  have HK3b := Lib.hid K3
  clear H8 A1 O1 y0 y1 y2 y3 y4 y5 hlt
  obtain ⟨y0, y1, y2, y3, y4, y5⟩ := H9.out.cells
  have hlt := H9.out.lt
  go_wp2_with fail
  refine (hsplit H9.out.f HU3.out.1 HU3.out.2 (by omega) rfl HK4.out).mono ?_; rintro e w1 ⟨g4, ts4, ah, ct, rfl, A1, Mu, Md, Ru, Rd, K4, O1⟩
  have H10 := Lib.hid (H9.out.next A1 O1)
  have HAH := Lib.hid (And.intro Mu Ru)
  have HCT := Lib.hid (And.intro (Md.of (by rw [Rd]; simp)) Rd)
  have HK4b := Lib.hid K4
  clear H9 A1 O1 y0 y1 y2 y3 y4 y5 hlt
  obtain ⟨y0, y1, y2, y3, y4, y5⟩ := H10.out.cells
  have hlt := H10.out.lt
  go_wp2_with fail
  have HDT4 := Lib.hid (And.intro (HK4b.out _ (HK3b.out _ HDT.out.1 (HP.out.dt_ne HDT.out.2 HU2.out.2)) (HP.out.dt_ne3 HDT.out.2 HU3.out.2)) HDT.out.2)
  have HIN4 := Lib.hid (And.intro (HK4b.out _ HIN.out.1 (HP.out.in_ne HIN.out.2 HU3.out.2)) HIN.out.2)
  have HBE4 := Lib.hid (And.intro (((HBE.out.1.keep HK2b.out (HP.out.be_ne1 HBE.out.2 HU1.out.2)).keep HK3b.out (HP.out.be_ne2 HBE.out.2 HU2.out.2)).keep HK4b.out (HP.out.be_ne3 HBE.out.2 HU3.out.2)) HBE.out.2)
  have HZ4 : Hid (∀ z ∈ ts, z ≠ t → z ∈ ts4 ∧ z ≠ ah ∧ z ≠ be) := Lib.hid fun z hz hne => ⟨HK4b.out z (HK3b.out z (HK2b.out z (HK1b.out z hz hne) (HP.out.sub1 HU1.out.2 HF.out hz HT.out hne)) (HP.out.sub2 HU2.out.2 HF.out hz HT.out hne)) (HP.out.sub3 HU3.out.2 HF.out hz HT.out hne), HP.out.sub4 HAH.out.2 HF.out hz HT.out hne, HP.out.sub5 HBE.out.2 HF.out hz HT.out hne⟩
  clear HK1b HK2b HK3b HK4b HU1 HU2 HU3 HDT HIN HBE
  refine (halone H10.out.f HCT.out.1 HCT.out.2 (by omega) rfl).mono ?_; rintro e w1 ⟨g5, rfl, A1, O1⟩
  have H11 := Lib.hid (H10.out.next A1 O1)
  clear H10 A1 O1 y0 y1 y2 y3 y4 y5 hlt
  obtain ⟨y0, y1, y2, y3, y4, y5⟩ := H11.out.cells
  have hlt := H11.out.lt
  go_wp2_with fail
  refine (halone H11.out.f HDT4.out.1 HDT4.out.2 (by omega) rfl).mono ?_; rintro e w1 ⟨g6, rfl, A1, O1⟩
  have H12 := Lib.hid (H11.out.next A1 O1)
  clear H11 A1 O1 y0 y1 y2 y3 y4 y5 hlt
  obtain ⟨y0, y1, y2, y3, y4, y5⟩ := H12.out.cells
  have hlt := H12.out.lt
  go_wp2_with fail
  refine (hmerge H12.out.f HAH.out.1 HBE4.out.1 (HP.out.ah_be HAH.out.2 HBE4.out.2) (by omega) rfl rfl).mono ?_; rintro e w1 ⟨g7, ts7, tu, rfl, A1, M7, R7, K7, O1⟩
  have H13 := Lib.hid (H12.out.next A1 O1)
  have HM7 := Lib.hid M7
  have HR7 := Lib.hid R7
  have HK7 := Lib.hid K7
  clear M7 R7 K7
  clear H12 A1 O1 y0 y1 y2 y3 y4 y5 hlt
  obtain ⟨y0, y1, y2, y3, y4, y5⟩ := H13.out.cells
  have hlt := H13.out.lt
  go_wp2_with fail
  go_ret2
  refine ⟨g7, ts7, inn, tu, ct, dt, rfl, H13.out.f.more (by omega), ?_, HM7.out, HIN4.out.2, by rw [HR7.out, HAH.out.2, HBE4.out.2], ?_, HCT.out.2, ?_, HDT4.out.2, fun z hz hne => ?_, H13.out.o⟩
  · exact HK7.out _ HIN4.out.1 (HP.out.inn_ne HIN4.out.2 (.inl HAH.out.2)) (HP.out.inn_ne HIN4.out.2 (.inr HBE4.out.2))
  · exact HK7.out _ HCT.out.1 (HP.out.ct_ne HCT.out.2 (.inl HAH.out.2)) (HP.out.ct_ne HCT.out.2 (.inr HBE4.out.2))
  · exact HK7.out _ HDT4.out.1 (HP.out.dt_no HDT4.out.2 (.inl HAH.out.2)) (HP.out.dt_no HDT4.out.2 (.inr HBE4.out.2))
  · exact HK7.out z (HZ4.out z hz hne).1 (HZ4.out z hz hne).2.1 (HZ4.out z hz hne).2.2
set_option maxHeartbeats 1000000 in
theorem tcut10 {L a : Nat} {pp qq rr : List Nat} (A : FM w V S T p gb cap m g ts) (hL : (L : Int) < lv V) (ha : (a : Int) < S) (ht : t ∈ ts) (hP : Parts t (An V S L a 1) (An V S L a 0) pp qq rr) (hm : m ≤ 800000) :
    Calls Try.prog 18 #[vTr V S T p, .int .i64 (L : Int), .int .i64 (a : Int)] w (CtD V S T p gb cap (m + 100 * nN V S + 50) ts t (An V S L a 1) (An V S L a 0) qq (pp ++ rr) w) := by
  have hn := nN_le A.tm.hR
  have HP := Lib.hid hP
  have HT := Lib.hid ht
  have H0 := Lib.hid (TO.new A)
  have HR := Lib.hid A.tm.hR
  have HF := Lib.hid A.fi
  have hlen : pp.length + qq.length + 2 ≤ 560 := by
    have := A.fi.size ht
    unfold Tp.size at this
    rw [hP.row] at this
    simp only [List.length_append, List.length_cons] at this
    omega
  obtain ⟨n1, hn1⟩ : ∃ n, pp.length = n := ⟨_, rfl⟩
  obtain ⟨n2, hn2⟩ : ∃ n, pp.length + qq.length + 1 = n := ⟨_, rfl⟩
  have HN1 := Lib.hid hn1
  have HN2 := Lib.hid hn2
  have hlt12 : n1 < n2 := by omega
  have hb2 : n2 ≤ 560 := by omega
  have HI1 : Hid (t.row = pp ++ An V S L a 1 :: (qq ++ An V S L a 0 :: rr)) := Lib.hid hP.row
  have HI2 : Hid (t.row = (pp ++ An V S L a 1 :: qq) ++ An V S L a 0 :: rr) := Lib.hid (by rw [hP.row]; simp)
  have HL2 : Hid (((pp ++ An V S L a 1 :: qq).length : Int) = (n2 : Int)) := Lib.hid (by simp; omega)
  have wr1 : IntKind.i64.wrap ((n2 : Int) + 1) = (n2 : Int) + 1 := IntWalk.i64_in _ (by omega)
  have wr2 : IntKind.i64.wrap ((n1 : Int) + 1) = (n1 : Int) + 1 := IntWalk.i64_in _ (by omega)
  have hmin : min (n1 : Int) (n2 : Int) = n1 := Int.min_eq_left (by omega)
  have hmax : max (n1 : Int) (n2 : Int) = n2 := Int.max_eq_right (by omega)
  have hmin2 : min (n2 : Int) (n1 : Int) = n1 := Int.min_eq_right (by omega)
  have hmax2 : max (n2 : Int) (n1 : Int) = n2 := Int.max_eq_left (by omega)
  have HK1 : Hid ((n2 : Int) + 1 = ((pp ++ An V S L a 1 :: (qq ++ [An V S L a 0])).length : Int)) := Lib.hid (by simp; omega)
  have HK2 : Hid ((n2 : Int) = ((pp ++ An V S L a 1 :: qq).length : Int)) := Lib.hid (by simp; omega)
  have HK3 : Hid ((n1 : Int) + 1 = ((pp ++ [An V S L a 1]).length : Int)) := Lib.hid (by simp; omega)
  have HK4 : Hid ((n1 : Int) = (pp.length : Int)) := Lib.hid (by omega)
  clear A ht hP hlen hn1 hn2
  go_enter Try.func18, Try.ntmps18
  go_wp2_with fail
  generalize w.heap.size = b at H0 ⊢
  generalize w.alloc (.cells #[.int .i64 V, .int .i64 S, .int .i64 T, .iface 95 (pmV p), .int .i64 1, .int .i64 0] 46) = W at H0 ⊢
  obtain ⟨y0, y1, y2, y3, y4, y5⟩ := H0.out.cells
  have hlt := H0.out.lt
  refine (tlinked_yes H0.out.f hL ha HT.out HP.out.d_in HP.out.c_in (by omega)).mono ?_; rintro e w1 ⟨rfl, A1, O1⟩
  have H1 := Lib.hid (H0.out.next A1 O1)
  clear H0 A1 O1 y0 y1 y2 y3 y4 y5 hlt
  obtain ⟨y0, y1, y2, y3, y4, y5⟩ := H1.out.cells
  have hlt := H1.out.lt
  go_wp2_with fail
  have Hd := Lib.hid H1.out.drew
  have hrule := TO.rule b V S T p
  clear H1
  go_region_held3 (fun W => QB W b V S T p) (first | (with_reducible assumption) | (with_reducible exact H3.out.q) | (with_reducible exact H2.out.q) | (with_reducible exact Hd.out.q))
    (first
      | (go_at_call 42; ((with_reducible refine (arc0_at HR.out hL ha _).mono ?_); rintro e w2 ⟨rfl, B1⟩; have H2 := Lib.hid (Hd.out.below B1)))
      | (go_at_call 42; ((with_reducible refine (arc1_at HR.out hL ha _).mono ?_); rintro e w2 ⟨rfl, B1⟩; have H3 := Lib.hid (H2.out.below B1))))
  clear Hd H2 y0 y1 y2 y3 y4 y5 hlt hrule
  obtain ⟨y0, y1, y2, y3, y4, y5⟩ := H3.out.cells
  have hlt := H3.out.lt
  go_wp2_with fail
  have Hd := Lib.hid H3.out.drew
  have hrule := TO.rule b V S T p
  clear H3
  go_region_held3 (fun W => QB W b V S T p) (first | (with_reducible assumption) | (with_reducible exact H5.out.q) | (with_reducible exact H4.out.q) | (with_reducible exact Hd.out.q))
    (first
      | (go_at_call 55; ((with_reducible refine (hindex Hd.out.f HT.out HI2.out (by omega) rfl).mono ?_); rintro e w2 ⟨rfl, A1, O1⟩; have H4 := Lib.hid (Hd.out.next A1 O1); rw [HL2.out]))
      | (go_at_call 55; ((with_reducible refine (hindex H4.out.f HT.out HI1.out (by omega) rfl).mono ?_); rintro e w2 ⟨rfl, A1, O1⟩; have H5 := Lib.hid (H4.out.next A1 O1); rw [HN1.out])))
  clear Hd H4 y0 y1 y2 y3 y4 y5 hlt hrule
  obtain ⟨y0, y1, y2, y3, y4, y5⟩ := H5.out.cells
  have hlt := H5.out.lt
  go_wp2_with fail
  have Hd := Lib.hid H5.out.drew
  have hrule := TO.rule b V S T p
  clear H5
  go_region_held3 (fun W => QB W b V S T p) (first | (with_reducible assumption) | (with_reducible exact H7.out.q) | (with_reducible exact H6.out.q) | (with_reducible exact Hd.out.q))
    (first
      | (go_at_call 20; ((with_reducible refine (hroot Hd.out.f HT.out HP.out.d_in (by omega) rfl).mono ?_); rintro e w2 ⟨rfl, A1, O1⟩; have H6 := Lib.hid (Hd.out.next A1 O1)))
      | (go_at_call 54; ((with_reducible refine (hsplit H6.out.f HT.out HP.out.cut1 (by omega) rfl (HK1.out)).mono ?_); rintro e w2 ⟨g1, ts1, u1, be, rfl, A1, Mu, Mb1, Ru, Rb, K1, O1⟩; have H7 := Lib.hid (H6.out.next A1 O1); have HU1 := Lib.hid (And.intro (Mu.of (HP.out.ne1 Ru)) Ru); have HBE := Lib.hid (And.intro Mb1 Rb); have HK1b := Lib.hid K1)))
  clear Hd H6 y0 y1 y2 y3 y4 y5 hlt hrule
  obtain ⟨y0, y1, y2, y3, y4, y5⟩ := H7.out.cells
  have hlt := H7.out.lt
  go_wp2_with fail
  refine (hsplit H7.out.f HU1.out.1 (HP.out.cut2 HU1.out.2) (by omega) rfl HK2.out).mono ?_; rintro e w1 ⟨g2, ts2, u2, dt, rfl, A1, Mu, Md, Ru, Rd, K2, O1⟩
  have H8 := Lib.hid (H7.out.next A1 O1)
  have HU2 := Lib.hid (And.intro (Mu.of (HP.out.ne2 Ru)) Ru)
  have HDT := Lib.hid (And.intro (Md.of (by rw [Rd]; simp)) Rd)
  have HK2b := Lib.hid K2
  clear H7 A1 O1 y0 y1 y2 y3 y4 y5 hlt
  obtain ⟨y0, y1, y2, y3, y4, y5⟩ := H8.out.cells
  have hlt := H8.out.lt
  go_wp2_with fail
  refine (hsplit H8.out.f HU2.out.1 (HP.out.cut3 HU2.out.2) (by omega) rfl HK3.out).mono ?_; rintro e w1 ⟨g3, ts3, u3, inn, rfl, A1, Mu, Md, Ru, Rd, K3, O1⟩
  have H9 := Lib.hid (H8.out.next A1 O1)
  have HU3 := Lib.hid (And.intro (Mu.of (HP.out.ne3 Ru)) Ru)
  have HIN := Lib.hid (And.intro (Md.of (by rw [Rd]; exact HP.out.q0)) Rd)
  have HK3b := Lib.hid K3
  clear H8 A1 O1 y0 y1 y2 y3 y4 y5 hlt
  obtain ⟨y0, y1, y2, y3, y4, y5⟩ := H9.out.cells
  have hlt := H9.out.lt
  go_wp2_with fail
  refine (hsplit H9.out.f HU3.out.1 HU3.out.2 (by omega) rfl HK4.out).mono ?_; rintro e w1 ⟨g4, ts4, ah, ct, rfl, A1, Mu, Md, Ru, Rd, K4, O1⟩
  have H10 := Lib.hid (H9.out.next A1 O1)
  have HAH := Lib.hid (And.intro Mu Ru)
  have HCT := Lib.hid (And.intro (Md.of (by rw [Rd]; simp)) Rd)
  have HK4b := Lib.hid K4
  clear H9 A1 O1 y0 y1 y2 y3 y4 y5 hlt
  obtain ⟨y0, y1, y2, y3, y4, y5⟩ := H10.out.cells
  have hlt := H10.out.lt
  go_wp2_with fail
  have HDT4 := Lib.hid (And.intro (HK4b.out _ (HK3b.out _ HDT.out.1 (HP.out.dt_ne HDT.out.2 HU2.out.2)) (HP.out.dt_ne3 HDT.out.2 HU3.out.2)) HDT.out.2)
  have HIN4 := Lib.hid (And.intro (HK4b.out _ HIN.out.1 (HP.out.in_ne HIN.out.2 HU3.out.2)) HIN.out.2)
  have HBE4 := Lib.hid (And.intro (((HBE.out.1.keep HK2b.out (HP.out.be_ne1 HBE.out.2 HU1.out.2)).keep HK3b.out (HP.out.be_ne2 HBE.out.2 HU2.out.2)).keep HK4b.out (HP.out.be_ne3 HBE.out.2 HU3.out.2)) HBE.out.2)
  have HZ4 : Hid (∀ z ∈ ts, z ≠ t → z ∈ ts4 ∧ z ≠ ah ∧ z ≠ be) := Lib.hid fun z hz hne => ⟨HK4b.out z (HK3b.out z (HK2b.out z (HK1b.out z hz hne) (HP.out.sub1 HU1.out.2 HF.out hz HT.out hne)) (HP.out.sub2 HU2.out.2 HF.out hz HT.out hne)) (HP.out.sub3 HU3.out.2 HF.out hz HT.out hne), HP.out.sub4 HAH.out.2 HF.out hz HT.out hne, HP.out.sub5 HBE.out.2 HF.out hz HT.out hne⟩
  clear HK1b HK2b HK3b HK4b HU1 HU2 HU3 HDT HIN HBE
  refine (halone H10.out.f HDT4.out.1 HDT4.out.2 (by omega) rfl).mono ?_; rintro e w1 ⟨g5, rfl, A1, O1⟩
  have H11 := Lib.hid (H10.out.next A1 O1)
  clear H10 A1 O1 y0 y1 y2 y3 y4 y5 hlt
  obtain ⟨y0, y1, y2, y3, y4, y5⟩ := H11.out.cells
  have hlt := H11.out.lt
  go_wp2_with fail
  refine (halone H11.out.f HCT.out.1 HCT.out.2 (by omega) rfl).mono ?_; rintro e w1 ⟨g6, rfl, A1, O1⟩
  have H12 := Lib.hid (H11.out.next A1 O1)
  clear H11 A1 O1 y0 y1 y2 y3 y4 y5 hlt
  obtain ⟨y0, y1, y2, y3, y4, y5⟩ := H12.out.cells
  have hlt := H12.out.lt
  go_wp2_with fail
  refine (hmerge H12.out.f HAH.out.1 HBE4.out.1 (HP.out.ah_be HAH.out.2 HBE4.out.2) (by omega) rfl rfl).mono ?_; rintro e w1 ⟨g7, ts7, tu, rfl, A1, M7, R7, K7, O1⟩
  have H13 := Lib.hid (H12.out.next A1 O1)
  have HM7 := Lib.hid M7
  have HR7 := Lib.hid R7
  have HK7 := Lib.hid K7
  clear M7 R7 K7
  clear H12 A1 O1 y0 y1 y2 y3 y4 y5 hlt
  obtain ⟨y0, y1, y2, y3, y4, y5⟩ := H13.out.cells
  have hlt := H13.out.lt
  go_wp2_with fail
  go_ret2
  refine ⟨g7, ts7, inn, tu, ct, dt, rfl, H13.out.f.more (by omega), ?_, HM7.out, HIN4.out.2, by rw [HR7.out, HAH.out.2, HBE4.out.2], ?_, HCT.out.2, ?_, HDT4.out.2, fun z hz hne => ?_, H13.out.o⟩
  · exact HK7.out _ HIN4.out.1 (HP.out.inn_ne HIN4.out.2 (.inl HAH.out.2)) (HP.out.inn_ne HIN4.out.2 (.inr HBE4.out.2))
  · exact HK7.out _ HCT.out.1 (HP.out.ct_ne HCT.out.2 (.inl HAH.out.2)) (HP.out.ct_ne HCT.out.2 (.inr HBE4.out.2))
  · exact HK7.out _ HDT4.out.1 (HP.out.dt_no HDT4.out.2 (.inl HAH.out.2)) (HP.out.dt_no HDT4.out.2 (.inr HBE4.out.2))
  · exact HK7.out z (HZ4.out z hz hne).1 (HZ4.out z hz hne).2.1 (HZ4.out z hz hne).2.2
end

end Go.Proofs.Ytahabfjngeicmaa
