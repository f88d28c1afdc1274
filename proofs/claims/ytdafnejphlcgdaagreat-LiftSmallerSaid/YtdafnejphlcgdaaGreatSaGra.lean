/- Gra: what LfPSmaller leans on. Printed by wip/tools/slim13.py. -/
import Derived.Test.YtdafnejphlcgdaaGreatSaZF
import Derived.Test.YtdafnejphlcgdaaGreatSaGa
import Derived.BigQuiet

namespace Go.Proofs.YtdafnejphlcgdaaGreat
open Go.RowKit

theorem LI.one (w : World) (x : Nat) : LI (w.alloc (.cells #[.int .i64 (x : Int)] 3)) (.slice (some ⟨w.heap.size, 0, none⟩) 1 1) [x] :=
  by
  refine ⟨_, 1, rfl, by simp [maxLen], by simp, (fun e => by cases e), fun _ => ⟨_, 0, _, rfl, Blk.new _ _ _, by simp, fun k y hk => ?_⟩⟩
  cases k with
  | zero => simp at hk; subst hk; rfl
  | succ k => simp at hk
end Go.Proofs.YtdafnejphlcgdaaGreat

/- Rows that go around trees, plainly: how they come about, what cutting one leaves, what joins their vertices. -/
namespace Go.Proofs.YtdafnejphlcgdaaGreat

/-- A row that goes around a tree of edges (slot, ends): X: a vertex's node; A: a slot's two arcs. -/
inductive Tour (X : Nat → Nat) (A : Nat → Nat → Nat) : List Nat → List (Nat × Nat × Nat) → Prop where
  | one (u : Nat) : Tour X A [X u] []
  | rot {a b : List Nat} {E : List (Nat × Nat × Nat)} : Tour X A (a ++ b) E → Tour X A (b ++ a) E
  | link {s u v : Nat} {a b : List Nat} {E F : List (Nat × Nat × Nat)} : Tour X A (X u :: a) E → Tour X A (X v :: b) F → Tour X A ((X u :: a) ++ A s 0 :: ((X v :: b) ++ [A s 1])) ((s, u, v) :: (E ++ F))
  | perm {l : List Nat} {E F : List (Nat × Nat × Nat)} : Tour X A l E → E.Perm F → Tour X A l F

section
variable {X : Nat → Nat} {A : Nat → Nat → Nat} {row : List Nat} {E : List (Nat × Nat × Nat)}
theorem Tour.mem (h : Tour X A row E) : ∀ {s u v : Nat}, (s, u, v) ∈ E → A s 0 ∈ row ∧ A s 1 ∈ row ∧ X u ∈ row ∧ X v ∈ row := by
  induction h with
  | one u => intro s u v h; simp at h
  | rot _ ih =>
    intro s u v h
    have := ih h
    simp only [List.mem_append] at this ⊢
    exact ⟨this.1.symm, this.2.1.symm, this.2.2.1.symm, this.2.2.2.symm⟩
  | link _ _ ih1 ih2 =>
    intro s u v h
    simp only [List.mem_cons, List.mem_append, Prod.mk.injEq] at h
    rcases h with ⟨rfl, rfl, rfl⟩ | h | h
    · simp
    · obtain ⟨a, b, c, d⟩ := ih1 h
      exact ⟨List.mem_append_left _ a, List.mem_append_left _ b, List.mem_append_left _ c, List.mem_append_left _ d⟩
    · obtain ⟨a, b, c, d⟩ := ih2 h
      have key : ∀ {y : Nat} {P Q R : List Nat} {z w : Nat}, y ∈ Q → y ∈ P ++ z :: (Q ++ [w]) := fun hy => List.mem_append_right _ (List.mem_cons_of_mem _ (List.mem_append_left _ hy))
      exact ⟨List.mem_append_right _ (List.mem_cons_of_mem _ (List.mem_append_left _ a)), List.mem_append_right _ (List.mem_cons_of_mem _ (List.mem_append_left _ b)), List.mem_append_right _ (List.mem_cons_of_mem _ (List.mem_append_left _ c)), List.mem_append_right _ (List.mem_cons_of_mem _ (List.mem_append_left _ d))⟩
  | perm _ hp ih => intro s u v h; exact ih (hp.mem_iff.2 h)
theorem Tour.node (h : Tour X A row E) : ∀ {y : Nat}, y ∈ row → (∃ u, y = X u) ∨ ∃ s u v, (s, u, v) ∈ E ∧ (y = A s 0 ∨ y = A s 1) := by
  induction h with
  | one u => intro y h; simp at h; exact .inl ⟨u, h⟩
  | rot _ ih =>
    intro y h
    exact ih (by simp only [List.mem_append] at h ⊢; exact h.symm)
  | @link s u v a b E F _ _ ih1 ih2 =>
    intro y h
    rcases List.mem_append.1 h with h | h
    · rcases ih1 h with h | ⟨s', u', v', h, e⟩
      · exact .inl h
      · exact .inr ⟨s', u', v', by simp [h], e⟩
    · rcases List.mem_cons.1 h with h | h
      · exact .inr ⟨s, u, v, by simp, .inl h⟩
      · rcases List.mem_append.1 h with h | h
        · rcases ih2 h with h | ⟨s', u', v', h, e⟩
          · exact .inl h
          · exact .inr ⟨s', u', v', by simp [h], e⟩
        · exact .inr ⟨s, u, v, by simp, .inr (by simpa using h)⟩
  | perm _ hp ih =>
    intro y h
    rcases ih h with h | ⟨s, u, v, h, e⟩
    · exact .inl h
    · exact .inr ⟨s, u, v, hp.mem_iff.1 h, e⟩
theorem Tour.has (h : Tour X A row E) : ∃ u, X u ∈ row := by
  induction h with
  | one u => exact ⟨u, by simp⟩
  | rot _ ih => obtain ⟨u, h⟩ := ih; exact ⟨u, by simp only [List.mem_append] at h ⊢; exact h.symm⟩
  | @link s u v a b E F _ _ _ _ => exact ⟨u, by simp⟩
  | perm _ _ ih => exact ih

/-- Edges join two vertices. -/
inductive Way (E : List (Nat × Nat × Nat)) : Nat → Nat → Prop where
  | refl (u : Nat) : Way E u u
  | fore {s u v w : Nat} : Way E u v → (s, v, w) ∈ E → Way E u w
  | back {s u v w : Nat} : Way E u v → (s, w, v) ∈ E → Way E u w
theorem Way.trans {E : List (Nat × Nat × Nat)} {u v w : Nat} (h1 : Way E u v) (h2 : Way E v w) : Way E u w := by
  induction h2 with
  | refl => exact h1
  | fore _ he ih => exact (ih h1).fore he
  | back _ he ih => exact (ih h1).back he
theorem Way.symm {E : List (Nat × Nat × Nat)} {u v : Nat} (h : Way E u v) : Way E v u := by
  induction h with
  | refl => exact .refl _
  | fore _ he ih => exact (Way.back (.refl _) he).trans ih
  | back _ he ih => exact (Way.fore (.refl _) he).trans ih
theorem Way.mono {E F : List (Nat × Nat × Nat)} {u v : Nat} (h : Way E u v) (hs : ∀ e ∈ E, e ∈ F) : Way F u v := by
  induction h with
  | refl => exact .refl _
  | fore _ he ih => exact ih.fore (hs _ he)
  | back _ he ih => exact ih.back (hs _ he)
/-- A row's vertices are joined. -/
theorem Tour.joined (hX : ∀ u v, X u = X v → u = v) (hA : ∀ s i u, A s i ≠ X u) (h : Tour X A row E) : ∀ {u v : Nat}, X u ∈ row → X v ∈ row → Way E u v := by
  induction h with
  | one w =>
    intro u v h1 h2
    have e1 := hX _ _ (by simpa using h1)
    have e2 := hX _ _ (by simpa using h2)
    subst e1 e2; exact .refl _
  | rot _ ih =>
    intro u v h1 h2
    exact ih (by simp only [List.mem_append] at h1 ⊢; exact h1.symm) (by simp only [List.mem_append] at h2 ⊢; exact h2.symm)
  | @link s x y a b E F _ _ ih1 ih2 =>
    have m1 : ∀ e ∈ E, e ∈ (s, x, y) :: (E ++ F) := fun e he => by simp [he]
    have m2 : ∀ e ∈ F, e ∈ (s, x, y) :: (E ++ F) := fun e he => by simp [he]
    have key : ∀ {u : Nat}, X u ∈ (X x :: a) ++ A s 0 :: ((X y :: b) ++ [A s 1]) → Way ((s, x, y) :: (E ++ F)) x u := by
      intro u h
      rcases List.mem_append.1 h with h | h
      · exact (ih1 (by simp) h).mono m1
      · rcases List.mem_cons.1 h with h | h
        · exact absurd h.symm (hA _ _ _)
        · rcases List.mem_append.1 h with h | h
          · exact (Way.fore (.refl x) (s := s) (w := y) (by simp)).trans ((ih2 (by simp) h).mono m2)
          · exact absurd (by simpa using h : X u = A s 1).symm (hA _ _ _)
    intro u v h1 h2
    exact (key h1).symm.trans (key h2)
  | perm _ hp ih => intro u v h1 h2; exact (ih h1 h2).mono fun e he => hp.mem_iff.1 he

theorem sub_dec {K L M : List Nat} {p q r : List Nat} {c d : Nat} (hn : (K ++ L ++ M).Nodup) (hrow : K ++ L ++ M = p ++ c :: (q ++ d :: r)) (hc : c ∈ L) (hd : d ∈ L) : ∃ p' r', L = p' ++ c :: (q ++ d :: r') ∧ p = K ++ p' ∧ r = r' ++ M := by
  obtain ⟨p', t, rfl⟩ := List.append_of_mem hc
  have e1 : (K ++ p') ++ c :: (t ++ M) = p ++ c :: (q ++ d :: r) := by rw [← hrow]; simp
  have n1 : ((K ++ p') ++ c :: (t ++ M)).Nodup := by rw [e1, ← hrow]; exact hn
  obtain ⟨e2, e3⟩ := mid_eq e1 n1
  have n2 := n1
  rw [e1, List.nodup_append] at n2
  obtain ⟨_, n3, n4⟩ := n2
  have hdt : d ∈ t := by
    rcases List.mem_append.1 hd with h | h
    · exact absurd rfl (n4 d (by rw [← e2]; exact List.mem_append_right _ h) d (by simp))
    · rcases List.mem_cons.1 h with h | h
      · exfalso
        rw [List.nodup_cons] at n3
        exact n3.1 (by rw [← h]; simp)
      · exact h
  obtain ⟨q', r', rfl⟩ := List.append_of_mem hdt
  have e4 : q' ++ d :: (r' ++ M) = q ++ d :: r := by rw [← e3]; simp
  have n5 : (q' ++ d :: (r' ++ M)).Nodup := by rw [e4]; rw [List.nodup_cons] at n3; exact n3.2
  obtain ⟨rfl, rfl⟩ := mid_eq e4 n5
  exact ⟨p', r', rfl, e2.symm, rfl⟩

/-- Both arcs of a slot, in any order. -/
def Arcs (A : Nat → Nat → Nat) (s c d : Nat) : Prop := (c = A s 0 ∧ d = A s 1) ∨ (c = A s 1 ∧ d = A s 0)
theorem Arcs.turn {s c d : Nat} (h : Arcs A s c d) : Arcs A s d c := h.elim (fun h => .inr ⟨h.2, h.1⟩) fun h => .inl ⟨h.2, h.1⟩
/-- What cutting a row leaves: two rows, that have one end each. -/
theorem Tour.cut (hA : ∀ s i u, A s i ≠ X u) (h : Tour X A row E) : row.Nodup → ∀ {s u v : Nat}, (s, u, v) ∈ E → ∀ {p q r : List Nat} {c d : Nat}, row = p ++ c :: (q ++ d :: r) → Arcs A s c d →
    ∃ E1 E2, E.Perm ((s, u, v) :: (E1 ++ E2)) ∧ Tour X A q E1 ∧ Tour X A (p ++ r) E2 ∧ ((X u ∈ q ∧ X v ∈ p ++ r) ∨ (X v ∈ q ∧ X u ∈ p ++ r)) := by
  induction h with
  | one w => intro _ s u v h; simp at h
  | @rot a b E h ih =>
    intro hn s u v hs p q r c d hrow hcd
    have hn' : (a ++ b).Nodup := (List.perm_append_comm (l₁ := a) (l₂ := b)).nodup_iff.2 hn
    rcases List.append_eq_append_iff.1 hrow with ⟨t, e1, e2⟩ | ⟨t, e1, e2⟩
    · -- both in a
      subst e1 e2
      obtain ⟨E1, E2, h1, h2, h3, h4⟩ := ih hn' hs (p := t) (q := q) (r := r ++ b) (by simp) hcd
      refine ⟨E1, E2, h1, h2, ?_, ?_⟩
      · have := Tour.rot (a := t ++ r) (b := b) (by simpa using h3)
        simpa using this
      · simp only [List.mem_append] at h4 ⊢
        rcases h4 with ⟨x, y⟩ | ⟨x, y⟩
        · exact .inl ⟨x, by rcases y with y | y | y <;> simp [y]⟩
        · exact .inr ⟨x, by rcases y with y | y | y <;> simp [y]⟩
    · cases t with
      | nil =>
        simp only [List.append_nil, List.nil_append] at e1 e2
        subst e1 e2
        obtain ⟨E1, E2, h1, h2, h3, h4⟩ := ih hn' hs (p := []) (q := q) (r := r ++ b) (by simp) hcd
        refine ⟨E1, E2, h1, h2, ?_, ?_⟩
        · have := Tour.rot (a := r) (b := b) (by simpa using h3)
          exact this
        · simp only [List.mem_append, List.nil_append] at h4 ⊢
          rcases h4 with ⟨x, y⟩ | ⟨x, y⟩
          · exact .inl ⟨x, y.symm⟩
          · exact .inr ⟨x, y.symm⟩
      | cons c' t =>
        simp only [List.cons_append, List.cons.injEq] at e2
        obtain ⟨rfl, e2⟩ := e2
        rcases List.append_eq_append_iff.1 e2 with ⟨t2, e3, e4⟩ | ⟨t2, e3, e4⟩
        · cases t2 with
          | nil =>
            simp only [List.append_nil, List.nil_append] at e3 e4
            subst e3 e1
            have e5 : a = d :: r := e4.symm
            subst e5
            obtain ⟨E1, E2, h1, h2, h3, h4⟩ := ih hn' hs (p := []) (q := r ++ p) (r := t) (c := d) (d := c) (by simp) hcd.turn
            refine ⟨E2, E1, h1.trans (List.Perm.cons _ List.perm_append_comm), by simpa using h3, Tour.rot h2, ?_⟩
            simp only [List.mem_append, List.nil_append] at h4 ⊢
            rcases h4 with ⟨x, y⟩ | ⟨x, y⟩
            · exact .inr ⟨y, x.symm⟩
            · exact .inl ⟨y, x.symm⟩
          | cons d' t2 =>
            simp only [List.cons_append, List.cons.injEq] at e4
            obtain ⟨rfl, e4⟩ := e4
            subst e3 e1 e4
            obtain ⟨E1, E2, h1, h2, h3, h4⟩ := ih hn' hs (p := a ++ p) (q := q) (r := t2) (by simp) hcd
            refine ⟨E1, E2, h1, h2, ?_, ?_⟩
            · have := Tour.rot (a := a) (b := p ++ t2) (by simpa using h3)
              simpa using this
            · simp only [List.mem_append] at h4 ⊢
              rcases h4 with ⟨x, y⟩ | ⟨x, y⟩
              · exact .inl ⟨x, by rcases y with (y | y) | y <;> simp [y]⟩
              · exact .inr ⟨x, by rcases y with (y | y) | y <;> simp [y]⟩
        · subst e1 e3 e4
          obtain ⟨E1, E2, h1, h2, h3, h4⟩ := ih hn' hs (p := t2) (q := r ++ p) (r := t) (c := d) (d := c) (by simp) hcd.turn
          refine ⟨E2, E1, h1.trans (List.Perm.cons _ List.perm_append_comm), Tour.rot h3, Tour.rot h2, ?_⟩
          simp only [List.mem_append] at h4 ⊢
          rcases h4 with ⟨x, y⟩ | ⟨x, y⟩
          · exact .inr ⟨y.symm, x.symm⟩
          · exact .inl ⟨y.symm, x.symm⟩
  | @link s0 u0 v0 a b E F h1 h2 ih1 ih2 =>
    intro hn s u v hs p q r c d hrow hcd
    have hnd := hn
    rw [List.nodup_append] at hnd
    obtain ⟨na, nb', nab⟩ := hnd
    rw [List.nodup_cons] at nb'
    obtain ⟨nx, nb⟩ := nb'
    rw [List.nodup_append] at nb
    obtain ⟨nb1, _, nb2⟩ := nb
    simp only [List.mem_cons, List.mem_append, Prod.mk.injEq] at hs
    rcases hs with ⟨rfl, rfl, rfl⟩ | hs | hs
    · -- the new slot
      have hc : c = A s 0 ∧ d = A s 1 := by
        rcases hcd with h | h
        · exact h
        · exfalso
          have e : ((X u :: a) ++ A s 0 :: (X v :: b)) ++ A s 1 :: [] = p ++ c :: (q ++ d :: r) := by rw [← hrow]; simp
          rw [h.1] at e
          have := (mid_eq e (by have := hn; simpa using this)).2
          simp at this
      obtain ⟨rfl, rfl⟩ := hc
      obtain ⟨e1, e2⟩ := mid_eq hrow hn
      obtain ⟨e3, e4⟩ := mid_eq (a := X v :: b) (b := []) (c := q) (d := r) (x := A s 1) e2 (by
        have h9 := hn
        rw [List.nodup_append] at h9
        exact (List.nodup_cons.1 h9.2.1).2)
      subst e1 e3 e4
      exact ⟨F, E, List.Perm.cons _ List.perm_append_comm, h2, by simpa using h1, .inr ⟨by simp, by simp⟩⟩
    · -- a slot of the first row
      have hm := h1.mem hs
      have hcl : c ∈ X u0 :: a ∧ d ∈ X u0 :: a := by
        rcases hcd with ⟨rfl, rfl⟩ | ⟨rfl, rfl⟩
        · exact ⟨hm.1, hm.2.1⟩
        · exact ⟨hm.2.1, hm.1⟩
      obtain ⟨p', r', e1, e2, e3⟩ := sub_dec (K := []) (L := X u0 :: a) (M := A s0 0 :: ((X v0 :: b) ++ [A s0 1])) (by simpa using hn) (by simpa using hrow) hcl.1 hcl.2
      simp only [List.nil_append] at e2
      subst e2 e3
      obtain ⟨E1, E2, g1, g2, g3, g4⟩ := ih1 na hs e1 hcd
      cases p with
      | nil =>
        exfalso
        simp only [List.nil_append, List.cons.injEq] at e1
        rcases hcd with h | h
        · exact hA _ _ _ (h.1.symm.trans e1.1.symm)
        · exact hA _ _ _ (h.1.symm.trans e1.1.symm)
      | cons z p =>
        simp only [List.cons_append, List.cons.injEq] at e1
        obtain ⟨rfl, rfl⟩ := e1
        refine ⟨E1, (s0, u0, v0) :: (E2 ++ F), ?_, g2, ?_, ?_⟩
        · refine (List.Perm.cons _ (List.Perm.append_right F g1)).trans ?_
          refine (List.Perm.swap _ _ _).trans (List.Perm.cons _ ?_)
          show ((s0, u0, v0) :: ((E1 ++ E2) ++ F)).Perm (E1 ++ (s0, u0, v0) :: (E2 ++ F))
          rw [List.append_assoc]
          exact (List.perm_middle (a := (s0, u0, v0)) (l₁ := E1) (l₂ := E2 ++ F)).symm
        · have := Tour.link (s := s0) (u := u0) (v := v0) (a := p ++ r') (b := b) (by simpa using g3) h2
          simpa using this
        · simp only [List.mem_append] at g4 ⊢
          rcases g4 with ⟨x, y⟩ | ⟨x, y⟩
          · exact .inl ⟨x, by rcases y with y | y; exact .inl y; exact .inr (.inl y)⟩
          · exact .inr ⟨x, by rcases y with y | y; exact .inl y; exact .inr (.inl y)⟩
    · -- a slot of the second row
      have hm := h2.mem hs
      have hcl : c ∈ X v0 :: b ∧ d ∈ X v0 :: b := by
        rcases hcd with ⟨rfl, rfl⟩ | ⟨rfl, rfl⟩
        · exact ⟨hm.1, hm.2.1⟩
        · exact ⟨hm.2.1, hm.1⟩
      obtain ⟨p', r', e1, e2, e3⟩ := sub_dec (K := (X u0 :: a) ++ [A s0 0]) (L := X v0 :: b) (M := [A s0 1]) (by simpa using hn) (by simpa using hrow) hcl.1 hcl.2
      subst e2 e3
      obtain ⟨F1, F2, g1, g2, g3, g4⟩ := ih2 nb1 hs e1 hcd
      cases p' with
      | nil =>
        exfalso
        simp only [List.nil_append, List.cons.injEq] at e1
        rcases hcd with h | h
        · exact hA _ _ _ (h.1.symm.trans e1.1.symm)
        · exact hA _ _ _ (h.1.symm.trans e1.1.symm)
      | cons z p =>
        simp only [List.cons_append, List.cons.injEq] at e1
        obtain ⟨rfl, rfl⟩ := e1
        refine ⟨F1, (s0, u0, v0) :: (E ++ F2), ?_, g2, ?_, ?_⟩
        · refine (List.Perm.cons _ (List.Perm.append_left E g1)).trans ?_
          refine (List.Perm.cons _ List.perm_middle).trans ((List.Perm.swap _ _ _).trans (List.Perm.cons _ ?_))
          have p1 : (E ++ (F1 ++ F2)).Perm (F1 ++ (E ++ F2)) := by
            rw [← List.append_assoc, ← List.append_assoc]
            exact List.Perm.append_right F2 List.perm_append_comm
          exact (List.Perm.cons _ p1).trans (List.perm_middle (a := (s0, u0, v0)) (l₁ := F1) (l₂ := E ++ F2)).symm
        · have := Tour.link (s := s0) (u := u0) (v := v0) (a := a) (b := p ++ r') h1 (by simpa using g3)
          simpa using this
        · simp only [List.mem_append, List.mem_cons] at g4 ⊢
          rcases g4 with ⟨x, y⟩ | ⟨x, y⟩
          · refine .inl ⟨x, ?_⟩
            rcases y with (y | y) | y <;> simp [y]
          · refine .inr ⟨x, ?_⟩
            rcases y with (y | y) | y <;> simp [y]
  | perm _ hp ih =>
    intro hn s u v hs p q r c d hrow hcd
    obtain ⟨E1, E2, h1, h2⟩ := ih hn (hp.mem_iff.2 hs) hrow hcd
    exact ⟨E1, E2, hp.symm.trans h1, h2⟩
end

end Go.Proofs.YtdafnejphlcgdaaGreat

/- The reference's has, Begun, Linked; the law's same. -/
namespace Go.Proofs.YtdafnejphlcgdaaGreat
open Go.RowKit

set_option maxRecDepth 100000

section
variable {w : World} {v u : Value} {l a b : List Nat} {x : Nat}
def HsRel (w0 : World) (l : List Nat) (x : Nat) (i : Value) (W : World) : Prop := W = w0 ∧ ∃ k, k ≤ l.length ∧ i = .int .i64 ((k : Nat) : Int) ∧ x ∉ l.take k
theorem has_any (h : LI w v l) (hl : l.length ≤ 100000) :
    Calls Tryz.prog 94 #[v, .int .i64 (x : Int)] w fun e w' => e = .returned (.bool (decide (x ∈ l))) ∧ w = w' := by
  obtain ⟨a0, c0, rfl, _⟩ := h.shape
  have H := Lib.hid h
  obtain ⟨n, hn⟩ : ∃ n, l.length = n := ⟨_, rfl⟩
  have HN := Lib.hid hn
  rw [hn] at H hl
  rw [hn]
  have nI : (n : Int) ≤ 100000 := by omega
  clear h hn
  have HRel : Hid (HsRel w l x (.int .i64 0) w) := Lib.hid ⟨rfl, 0, Nat.zero_le _, rfl, by simp⟩
  go_enter Tryz.func94, Tryz.ntmps94
  go_wp2_with fail
  go_loopw [5] (fun i wr => HsRel w l x i wr) (fun i _ => n - (intOf i).toNat)
  case atStart => exact HRel.out
  case round =>
    clear HRel
    obtain ⟨rfl, k, hk, rfl, hx⟩ := hrel
    have HX := Lib.hid hx
    rw [HN.out] at hk
    clear hx
    by_cases hkn : k < n
    · obtain ⟨y, hy⟩ : ∃ y, l[k]? = some y := ⟨_, List.getElem?_eq_getElem (by have := HN.out; omega)⟩
      obtain ⟨b1, o1, rfl, c1⟩ := H.out.at hy
      have HY := Lib.hid hy
      have kI : (k : Int) < (n : Int) := by omega
      have k0 : (0 : Int) ≤ (k : Int) := by omega
      clear hy
      by_cases e : y = x
      · subst e
        have eb : ((y : Int) == (y : Int)) = true := beq_self_eq_true _
        have HE : Hid (y ∈ l) := Lib.hid (List.mem_of_getElem? HY.out)
        go_wp2_with fail
        go_ret
        exact ⟨by rw [decide_eq_true HE.out]; rfl, rfl⟩
      · have eb : ((y : Int) == (x : Int)) = false := beq_eq_false_iff_ne.2 (by omega)
        have HE := Lib.hid e
        clear e
        go_wp2_with fail
        go_roundw
        case rel =>
          refine ⟨rfl, k + 1, by have := HN.out; omega, by simp, ?_⟩
          rw [List.take_add_one, HY.out]
          intro hm
          rcases List.mem_append.1 hm with hm | hm
          · exact HX.out hm
          · exact HE.out (by simpa using hm : x = y).symm
        case measure => simp [intOf]; omega
    · have ek : k = n := by omega
      subst ek
      have kI : ¬ (k : Int) < (k : Int) := by omega
      clear hk hkn
      go_wp2_with fail
      go_ret
      exact ⟨by rw [decide_eq_false (by have := HX.out; rw [← HN.out, List.take_length] at this; exact this)]; rfl, rfl⟩

end

end Go.Proofs.YtdafnejphlcgdaaGreat

/- The reference's Begun and Linked. -/
namespace Go.Proofs.YtdafnejphlcgdaaGreat
open Go.RowKit

set_option maxRecDepth 100000

section
variable {w : World} {v u : Value} {a b : List Nat} {x : Nat}
theorem RI.below {w w' : World} {base : Nat} {v : Value} {l : List Nat} (h : RI w base v l) (hb : Below w.heap.size w w') : RI w' base v l := by
  refine ⟨h.1, ?_⟩
  rcases h.2 with hn | ⟨g, cap, cur, rfl, hg, hgg, rest⟩
  · exact .inl hn
  · exact .inr ⟨g, cap, cur, rfl, hg, (hb.block g (h.lt g rfl).2).trans hgg, rest⟩
/-- An old list, behind an append to a row of one's own. -/
theorem LI.old {w w' : World} {u v : Value} {l : List Nat} {B : Nat} (h : LI w u l) (hg : w.grownBy w' v.ownBlock) (hr : ∀ r, v.ownBlock = some r → B ≤ r) (hu : ∀ b, bk u = some b → b < B) : LI w' u l := h.keep fun b hb => hg.block b (h.lt b hb) fun e => by have h1 := hr b e.symm; have h2 := hu b hb; omega
/-- append of one number onto a row of one's own. -/
theorem wpList_append_one (w : World) {ops : Array Oper} {rest : List Oper} {o : Oper} {a : Act} {Q : Exit → Act → World → Prop} (hgd : o.guard = none) (s x : Operand)
    (ho : o.op = .call { callee := .builtin .append, args := #[s, x], argTypes := #[36, 36] })
    {base c : Nat} {v : Value} {l : List Nat} (hs : a.eval s = v) (h : RI w base v l) (hx : a.eval x = .slice (some ⟨w.heap.size, 0, none⟩) 1 1) (hl : l.length ≤ 90000) (hb : base ≤ w.heap.size)
    (hK : ∀ v' w', RI w' base v' (l ++ [c]) → Below base w w' → (∀ (u : Value) (l2 : List Nat), LI w u l2 → (∀ b, bk u = some b → b < base) → LI w' u l2) → wpList Tryz.prog ops Q rest (a.put o.dst v') w') : wpList Tryz.prog ops Q (o :: rest) a (w.alloc (.cells #[.int .i64 (c : Int)] 3)) := by
  have h' : RI (w.alloc (.cells #[.int .i64 (c : Int)] 3)) base v l := World.ownsRow.alloc h _
  refine wpList_append_ri _ hgd s x ho hs h' hx (LI.one w c) (by simp; omega) (Nat.le_trans hb (by simp)) ?_
  intro v' w' hR hg
  refine hK v' w' hR (((Below.refl base w).alloc hb _).grown hg (Nat.le_trans hb (by simp)) (fun r hr => (h'.lt r hr).1)) fun u l2 hu hub => ?_
  exact LI.old (B := base) (hu.alloc _) hg (fun r hr => (h'.lt r hr).1) hub
end

end Go.Proofs.YtdafnejphlcgdaaGreat

/- The reference's Cut. -/
namespace Go.Proofs.YtdafnejphlcgdaaGreat
open Go.RowKit

set_option maxRecDepth 100000

end Go.Proofs.YtdafnejphlcgdaaGreat

/- The reference's Cut, walked. -/
namespace Go.Proofs.YtdafnejphlcgdaaGreat
open Go.RowKit
set_option maxRecDepth 100000
end Go.Proofs.YtdafnejphlcgdaaGreat

/- A graph in memory; what Joined has seen, plainly. -/
namespace Go.Proofs.YtdafnejphlcgdaaGreat
open Go.RowKit

set_option maxRecDepth 100000

/-- A slot's ends, as they stand in memory. -/
def end1 : Option (Nat × Nat) → Int
  | some (a, _) => (a : Int)
  | none => -1
def end2 : Option (Nat × Nat) → Int
  | some (_, b) => (b : Int)
  | none => -1
/-- The edges that a graph has. -/
def Lnk (gr : List (Option (Nat × Nat))) (E : List (Nat × Nat × Nat)) : Prop := ∀ s a b, (s, a, b) ∈ E ↔ gr[s]? = some (some (a, b))
/-- A node's neighbours by the first slots are in a list. -/
def Clo (gr : List (Option (Nat × Nat))) (S : List Nat) (c m : Nat) : Prop := ∀ s a b, s < m → gr[s]? = some (some (a, b)) → (a = c → b ∈ S) ∧ (b = c → a ∈ S)
structure Sn (gr : List (Option (Nat × Nat))) (E : List (Nat × Nat × Nat)) (V x : Nat) (S : List Nat) (i : Nat) : Prop where
  nd : S.Nodup
  lt : ∀ y ∈ S, y < V
  way : ∀ y ∈ S, Way E x y
  has : x ∈ S
  cl : ∀ j c, j < i → S[j]? = some c → Clo gr S c gr.length

section
variable {gr : List (Option (Nat × Nat))} {E : List (Nat × Nat × Nat)} {V x i c m : Nat} {S T : List Nat}
theorem Clo.mono (h : Clo gr S c m) (hs : ∀ y ∈ S, y ∈ T) : Clo gr T c m := fun s a b hm hg => ⟨fun e => hs _ ((h s a b hm hg).1 e), fun e => hs _ ((h s a b hm hg).2 e)⟩
theorem seen_len : ∀ (V : Nat) (S : List Nat), S.Nodup → (∀ y ∈ S, y < V) → S.length ≤ V
  | 0, S, _, hl => by
    cases S with
    | nil => exact Nat.le_refl _
    | cons y S => exact absurd (hl y (by simp)) (Nat.not_lt_zero _)
  | V + 1, S, hn, hl => by
    have h1 := seen_len V (S.erase V) (hn.erase V) fun y hy => by
      have h2 := hl y (List.mem_of_mem_erase hy)
      have h3 : y ≠ V := ((List.Nodup.mem_erase_iff hn).1 hy).1
      omega
    have h4 := List.length_erase (l := S) (a := V)
    split at h4 <;> omega
theorem Sn.len (h : Sn gr E V x S i) : S.length ≤ V := seen_len V S h.nd h.lt
theorem Sn.one (hx : x < V) : Sn gr E V x [x] 0 := ⟨by simp, fun y hy => by simp at hy; omega, fun y hy => by simp at hy; subst hy; exact .refl _, by simp, fun j c hj => absurd hj (Nat.not_lt_zero _)⟩
theorem Sn.add {y : Nat} (h : Sn gr E V x S i) (hi : i ≤ S.length) (hy : y ∉ S) (hv : y < V) (hw : Way E x y) : Sn gr E V x (S ++ [y]) i where
  nd := by
    rw [List.nodup_append]
    exact ⟨h.nd, by simp, fun a ha b hb e => by simp at hb; subst hb; subst e; exact hy ha⟩
  lt := fun z hz => by rcases List.mem_append.1 hz with hz | hz; exact h.lt z hz; simp at hz; omega
  way := fun z hz => by rcases List.mem_append.1 hz with hz | hz; exact h.way z hz; simp at hz; subst hz; exact hw
  has := List.mem_append_left _ h.has
  cl := fun j c hj hc => by
    rw [List.getElem?_append_left (by omega)] at hc
    exact (h.cl j c hj hc).mono fun y hy => List.mem_append_left _ hy
theorem Sn.next (h : Sn gr E V x S i) (hc : S[i]? = some c) (hcl : Clo gr S c gr.length) : Sn gr E V x S (i + 1) :=
  ⟨h.nd, h.lt, h.way, h.has, fun j d hj hd => by
    by_cases e : j = i
    · subst e; rw [hc] at hd; injection hd with hd; subst hd; exact hcl
    · exact h.cl j d (by omega) hd⟩
/-- Behind all nodes just what is joined has been seen. -/
theorem Sn.done (h : Sn gr E V x S S.length) (hE : Lnk gr E) (y : Nat) : y ∈ S ↔ Way E x y := by
  refine ⟨h.way y, fun hw => ?_⟩
  have cl : ∀ c ∈ S, Clo gr S c gr.length := fun c hc => by
    obtain ⟨j, hj, e⟩ := List.getElem_of_mem hc
    exact h.cl j c hj (by rw [List.getElem?_eq_getElem hj, e])
  have key : ∀ {x y : Nat}, Way E x y → x ∈ S → y ∈ S := by
    intro x y hw
    induction hw with
    | refl => exact id
    | fore _ he ih =>
      intro hx
      have hg := (hE _ _ _).1 he
      exact (cl _ (ih hx) _ _ _ (List.getElem?_eq_some_iff.1 hg).1 hg).1 rfl
    | back _ he ih =>
      intro hx
      have hg := (hE _ _ _).1 he
      exact (cl _ (ih hx) _ _ _ (List.getElem?_eq_some_iff.1 hg).1 hg).2 rfl
  exact key hw h.has
theorem Clo.zero : Clo gr S c 0 := fun _ _ _ h => absurd h (Nat.not_lt_zero _)
theorem Clo.none (h : Clo gr S c m) (hg : gr[m]? = some none) : Clo gr S c (m + 1) := fun s a b hs he => by
  by_cases e : s = m
  · subst e; rw [hg] at he; cases he
  · exact h s a b (by omega) he
theorem Clo.some {a b : Nat} (h : Clo gr S c m) (hg : gr[m]? = some (some (a, b))) (h1 : a = c → b ∈ S) (h2 : b = c → a ∈ S) : Clo gr S c (m + 1) := fun s a' b' hs he => by
  by_cases e : s = m
  · subst e; rw [hg] at he; injection he with he; injection he with he; injection he with e1 e2; subst e1 e2; exact ⟨h1, h2⟩
  · exact h s a' b' (by omega) he
end

end Go.Proofs.YtdafnejphlcgdaaGreat

/- Are two vertices joined: the reference's answer. -/
namespace Go.Proofs.YtdafnejphlcgdaaGreat
open Go.RowKit
set_option maxRecDepth 100000
section
variable {w : World} {v : Value} {gr : List (Option (Nat × Nat))} {E : List (Nat × Nat × Nat)} {V x y : Nat}
def JoRel (w0 : World) (gr : List (Option (Nat × Nat))) (E : List (Nat × Nat × Nat)) (V x : Nat) (s i : Value) (W : World) : Prop :=
  Below w0.heap.size w0 W ∧ ∃ S j, i = .int .i64 ((j : Nat) : Int) ∧ j ≤ S.length ∧ RI W w0.heap.size s S ∧ Sn gr E V x S j
def JiRel (w0 : World) (gr : List (Option (Nat × Nat))) (E : List (Nat × Nat × Nat)) (V x j c : Nat) (s k : Value) (W : World) : Prop :=
  Below w0.heap.size w0 W ∧ ∃ S m, k = .int .i64 ((m : Nat) : Int) ∧ m ≤ gr.length ∧ S[j]? = some c ∧ RI W w0.heap.size s S ∧ Sn gr E V x S j ∧ Clo gr S c m
end
end Go.Proofs.YtdafnejphlcgdaaGreat
