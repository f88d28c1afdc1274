/- Free slots, plainly: a head with a tag, a chain of slots, and workers that take and give by steps in any order. -/
import Derived.Test.YtgjlilcljefbfaaRows
namespace Go.Proofs.Ytgjlilcljefbfaa

/-- A function turned at one place. -/
def put {α : Type} (f : Nat → α) (k : Nat) (v : α) : Nat → α := fun i => if i = k then v else f i
theorem put_same {α : Type} (f : Nat → α) (k : Nat) (v : α) : put f k v k = v := by simp [put]
theorem put_other {α : Type} (f : Nat → α) {k i : Nat} (v : α) (h : i ≠ k) : put f k v i = f i := by simp [put, h]

/-- From the number t on (a slot's and 1; 0: none) the slots are L. -/
def Chain (nx : Nat → Nat) : Nat → List Nat → Prop
  | t, [] => t = 0
  | t, s :: L => t = s + 1 ∧ Chain nx (nx s) L

theorem Chain.congr {nx nx' : Nat → Nat} : ∀ {L : List Nat} {t : Nat}, Chain nx t L → (∀ s ∈ L, nx' s = nx s) → Chain nx' t L
  | [], _, h, _ => h
  | s :: L, _, h, he => ⟨h.1, by rw [he s (List.mem_cons_self ..)]; exact Chain.congr h.2 fun x hx => he x (List.mem_cons_of_mem _ hx)⟩
theorem Chain.unique {nx : Nat → Nat} : ∀ {L L' : List Nat} {t : Nat}, Chain nx t L → Chain nx t L' → L = L'
  | [], [], _, _, _ => rfl
  | [], s :: L', _, h, h' => by have h1 : _ = 0 := h; have h2 := h'.1; omega
  | s :: L, [], _, h, h' => by have h1 : _ = 0 := h'; have h2 := h.1; omega
  | s :: L, s' :: L', _, h, h' => by
    have e : s = s' := by have h1 := h.1; have h2 := h'.1; omega
    subst e
    rw [Chain.unique h.2 h'.2]

/-- What a worker is in the midst of; h: the head that it loaded. -/
inductive Wk where
  | idle
  | take0
  | take1 (h : Nat × Nat)
  | take2 (h : Nat × Nat) (n : Nat)
  | give0 (s : Nat)
  | give1 (s : Nat) (h : Nat × Nat)
  | give2 (s : Nat) (h : Nat × Nat)

/-- The head that it goes by. -/
def Wk.by? : Wk → Option (Nat × Nat)
  | .take1 h | .take2 h _ | .give1 _ h | .give2 _ h => some h
  | _ => none
/-- The slot that it is giving. -/
def Wk.giving : Wk → List Nat
  | .give0 s | .give1 s _ | .give2 s _ => [s]
  | _ => []

/-- A worker: what it is in the midst of, and what it has. -/
structure Wr where
  k : Wk
  has : List Nat

def Wr.held (x : Wr) : List Nat := x.has ++ x.k.giving

/-- The memory, and all workers. -/
structure Sl where
  hd : Nat × Nat
  nx : Nat → Nat
  ws : Nat → Wr

/-- What holds of one that is in the midst. -/
def Wk.ok (hd : Nat × Nat) (nx : Nat → Nat) : Wk → Prop
  | .take1 h => (h.1 < hd.1 ∨ h = hd) ∧ h.2 ≠ 0
  | .take2 h n => (h.1 < hd.1 ∨ h = hd) ∧ h.2 ≠ 0 ∧ (h = hd → n = nx (h.2 - 1))
  | .give1 _ h => h.1 < hd.1 ∨ h = hd
  | .give2 s h => (h.1 < hd.1 ∨ h = hd) ∧ nx s = h.2
  | _ => True

/-- How often a slot is held by the first n workers. -/
def heldBy (ws : Nat → Wr) (s : Nat) : Nat → Nat
  | 0 => 0
  | n + 1 => heldBy ws s n + (ws n).held.count s

theorem heldBy_put_ge (ws : Nat → Wr) (s i : Nat) (x : Wr) : ∀ n, n ≤ i → heldBy (put ws i x) s n = heldBy ws s n
  | 0, _ => rfl
  | n + 1, h => by
    rw [heldBy, heldBy, heldBy_put_ge ws s i x n (by omega), put_other _ _ (by omega)]
theorem heldBy_put (ws : Nat → Wr) (s i : Nat) (x : Wr) : ∀ n, i < n → heldBy (put ws i x) s n + (ws i).held.count s = heldBy ws s n + x.held.count s
  | 0, h => by omega
  | n + 1, h => by
    by_cases e : i = n
    · subst e
      rw [heldBy, heldBy, heldBy_put_ge ws s i x i (Nat.le_refl _), put_same]
      omega
    · have := heldBy_put ws s i x n (by omega)
      rw [heldBy, heldBy, put_other _ _ (fun h => e h.symm)]
      omega
theorem heldBy_at (ws : Nat → Wr) (s : Nat) {i : Nat} : ∀ {n}, i < n → (ws i).held.count s ≤ heldBy ws s n
  | 0, h => by omega
  | n + 1, h => by
    rw [heldBy]
    by_cases e : i = n
    · subst e; omega
    · have := heldBy_at ws s (i := i) (n := n) (by omega); omega
theorem heldBy_two (ws : Nat → Wr) (s : Nat) {i j : Nat} (hij : i < j) : ∀ {n}, j < n → (ws i).held.count s + (ws j).held.count s ≤ heldBy ws s n
  | 0, h => by omega
  | n + 1, h => by
    rw [heldBy]
    by_cases e : j = n
    · subst e
      have := heldBy_at ws s hij
      omega
    · have := heldBy_two ws s hij (n := n) (by omega); omega

/-- All is as it must be: the free slots are L; each slot is free, or held, once; none else is. -/
structure SlOk (S n : Nat) (x : Sl) (L : List Nat) : Prop where
  chain : Chain x.nx x.hd.2 L
  once : ∀ s, s < S → L.count s + heldBy x.ws s n = 1
  none : ∀ s, S ≤ s → L.count s + heldBy x.ws s n = 0
  each : ∀ i, i < n → (x.ws i).k.ok x.hd x.nx

section
variable {S n i : Nat} {x : Sl} {L : List Nat}
theorem SlOk.le (h : SlOk S n x L) (s : Nat) : L.count s + heldBy x.ws s n ≤ 1 := by
  rcases Nat.lt_or_ge s S with hs | hs
  · exact Nat.le_of_eq (h.once s hs)
  · rw [h.none s hs]; omega
theorem SlOk.lt_of_mem (h : SlOk S n x L) {s : Nat} (hs : s ∈ L) : s < S := by
  rcases Nat.lt_or_ge s S with h1 | h1
  · exact h1
  · have := h.none s h1
    have := List.count_pos_iff.2 hs
    omega
theorem SlOk.lt_of_held (h : SlOk S n x L) (hi : i < n) {s : Nat} (hs : s ∈ (x.ws i).held) : s < S := by
  rcases Nat.lt_or_ge s S with h1 | h1
  · exact h1
  · have h2 := h.none s h1
    have h3 := List.count_pos_iff.2 hs
    have := heldBy_at x.ws s hi
    omega
theorem SlOk.not_free (h : SlOk S n x L) (hi : i < n) {s : Nat} (hs : s ∈ (x.ws i).held) : s ∉ L := by
  intro hl
  have h1 := h.le s
  have h2 := List.count_pos_iff.2 hl
  have h3 := List.count_pos_iff.2 hs
  have := heldBy_at x.ws s hi
  omega
theorem SlOk.nodup (h : SlOk S n x L) : L.Nodup := List.nodup_iff_count.2 fun s => by have := h.le s; omega
theorem SlOk.held_nodup (h : SlOk S n x L) (hi : i < n) : (x.ws i).held.Nodup := List.nodup_iff_count.2 fun s => by
  have := h.le s
  have := heldBy_at x.ws s hi
  omega
theorem SlOk.apart (h : SlOk S n x L) {j : Nat} (hij : i < j) (hj : j < n) {s : Nat} (hs : s ∈ (x.ws i).held) : s ∉ (x.ws j).held := by
  intro hs'
  have h1 := h.le s
  have h2 := List.count_pos_iff.2 hs
  have h3 := List.count_pos_iff.2 hs'
  have := heldBy_two x.ws s hij hj
  omega

/-- Only one worker turns, and holds what it held; nothing in memory turns. -/
theorem SlOk.turn (h : SlOk S n x L) (hi : i < n) {w : Wr} (hh : ∀ s, w.held.count s = (x.ws i).held.count s) (hk : w.k.ok x.hd x.nx) : SlOk S n { x with ws := put x.ws i w } L := by
  have e : ∀ s, heldBy (put x.ws i w) s n = heldBy x.ws s n := fun s => by
    have := heldBy_put x.ws s i w n hi
    rw [hh s] at this
    omega
  refine ⟨h.chain, fun s hs => by rw [e]; exact h.once s hs, fun s hs => by rw [e]; exact h.none s hs, fun j hj => ?_⟩
  by_cases ej : j = i
  · subst ej
    show (put x.ws j w j).k.ok _ _
    rw [put_same]; exact hk
  · show (put x.ws i w j).k.ok _ _
    rw [put_other _ _ ej]; exact h.each j hj

/-- A take begins. -/
theorem SlOk.begin_take (h : SlOk S n x L) (hi : i < n) {hs : List Nat} (hw : x.ws i = ⟨.idle, hs⟩) : SlOk S n { x with ws := put x.ws i ⟨.take0, hs⟩ } L :=
  h.turn hi (fun s => by rw [hw]; rfl) trivial
/-- A give begins: of a slot that it has. -/
theorem SlOk.begin_give (h : SlOk S n x L) (hi : i < n) {s0 : Nat} {hs : List Nat} (hw : x.ws i = ⟨.idle, s0 :: hs⟩) : SlOk S n { x with ws := put x.ws i ⟨.give0 s0, hs⟩ } L :=
  h.turn hi (fun s => by
    rw [hw]
    simp only [Wr.held, Wk.giving, List.append_nil, List.count_append, List.count_cons, List.count_nil]
    omega) trivial
/-- It loads the head, and there is none. -/
theorem SlOk.take_none (h : SlOk S n x L) (hi : i < n) {hs : List Nat} (hw : x.ws i = ⟨.take0, hs⟩) : SlOk S n { x with ws := put x.ws i ⟨.idle, hs⟩ } L :=
  h.turn hi (fun s => by rw [hw]; rfl) trivial
theorem SlOk.take_head (h : SlOk S n x L) (hi : i < n) {hs : List Nat} (hw : x.ws i = ⟨.take0, hs⟩) (h0 : x.hd.2 ≠ 0) : SlOk S n { x with ws := put x.ws i ⟨.take1 x.hd, hs⟩ } L :=
  h.turn hi (fun s => by rw [hw]; rfl) ⟨.inr rfl, h0⟩
theorem SlOk.take_next (h : SlOk S n x L) (hi : i < n) {hs : List Nat} {g : Nat × Nat} (hw : x.ws i = ⟨.take1 g, hs⟩) : SlOk S n { x with ws := put x.ws i ⟨.take2 g (x.nx (g.2 - 1)), hs⟩ } L := by
  have hk := h.each i hi
  rw [hw] at hk
  exact h.turn hi (fun s => by rw [hw]; rfl) ⟨hk.1, hk.2, fun _ => rfl⟩
theorem SlOk.take_miss (h : SlOk S n x L) (hi : i < n) {hs : List Nat} {g : Nat × Nat} {m : Nat} (hw : x.ws i = ⟨.take2 g m, hs⟩) : SlOk S n { x with ws := put x.ws i ⟨.take0, hs⟩ } L :=
  h.turn hi (fun s => by rw [hw]; rfl) trivial
theorem SlOk.give_head (h : SlOk S n x L) (hi : i < n) {hs : List Nat} {s0 : Nat} (hw : x.ws i = ⟨.give0 s0, hs⟩) : SlOk S n { x with ws := put x.ws i ⟨.give1 s0 x.hd, hs⟩ } L :=
  h.turn hi (fun s => by rw [hw]; rfl) (.inr rfl)
theorem SlOk.give_miss (h : SlOk S n x L) (hi : i < n) {hs : List Nat} {s0 : Nat} {g : Nat × Nat} (hw : x.ws i = ⟨.give2 s0 g, hs⟩) : SlOk S n { x with ws := put x.ws i ⟨.give0 s0, hs⟩ } L :=
  h.turn hi (fun s => by rw [hw]; rfl) trivial

/-- A worker's state stays right while another one stores into a slot of its own that is not free. -/
theorem Wk.ok.other {hd : Nat × Nat} {nx : Nat → Nat} {k : Wk} (h : k.ok hd nx) {s0 v : Nat} (h1 : hd.2 = 0 ∨ hd.2 - 1 ≠ s0) (h2 : s0 ∉ k.giving) : k.ok hd (put nx s0 v) := by
  cases k with
  | take2 g m =>
    refine ⟨h.1, h.2.1, fun e => ?_⟩
    have := h.2.2 e
    subst e
    rcases h1 with h1 | h1
    · exact absurd h1 h.2.1
    · rw [put_other _ _ h1]; exact this
  | give2 s g =>
    refine ⟨h.1, ?_⟩
    rw [put_other _ _ (fun e => h2 (by simp [Wk.giving, e]))]
    exact h.2
  | _ => exact h

/-- It stores the slot behind it. -/
theorem SlOk.give_next (h : SlOk S n x L) (hi : i < n) {hs : List Nat} {s0 : Nat} {g : Nat × Nat} (hw : x.ws i = ⟨.give1 s0 g, hs⟩) : SlOk S n ⟨x.hd, put x.nx s0 g.2, put x.ws i ⟨.give2 s0 g, hs⟩⟩ L := by
  have hk := h.each i hi
  rw [hw] at hk
  have hm : s0 ∈ (x.ws i).held := by rw [hw]; simp [Wr.held, Wk.giving]
  have hnf := h.not_free hi hm
  have e : ∀ s, heldBy (put x.ws i ⟨.give2 s0 g, hs⟩) s n = heldBy x.ws s n := fun s => by
    have := heldBy_put x.ws s i ⟨.give2 s0 g, hs⟩ n hi
    rw [hw] at this
    have e2 : (⟨.give2 s0 g, hs⟩ : Wr).held = (⟨.give1 s0 g, hs⟩ : Wr).held := rfl
    rw [e2] at this
    omega
  refine ⟨h.chain.congr fun s hs' => put_other _ _ (fun e => hnf (e ▸ hs')), fun s hs' => by rw [e]; exact h.once s hs', fun s hs' => by rw [e]; exact h.none s hs', fun j hj => ?_⟩
  by_cases ej : j = i
  · subst ej
    show (put x.ws j _ j).k.ok _ _
    rw [put_same]
    exact ⟨hk, put_same _ _ _⟩
  · show (put x.ws i _ j).k.ok _ _
    rw [put_other _ _ ej]
    refine (h.each j hj).other ?_ ?_
    · have hc := h.chain
      cases L with
      | nil => exact .inl hc
      | cons s L => exact .inr (fun e => hnf (by have := hc.1; rw [this] at e; simp at e; subst e; simp))
    · intro hg
      have hm' : s0 ∈ (x.ws j).held := List.mem_append.2 (.inr hg)
      rcases Nat.lt_or_gt_of_ne ej with hlt | hgt
      · exact h.apart hlt hi hm' hm
      · exact h.apart hgt hj hm hm'

/-- A worker's state stays right while the head goes on. -/
theorem Wk.ok.head {hd hd' : Nat × Nat} {nx : Nat → Nat} {k : Wk} (h : k.ok hd nx) (ht : hd.1 < hd'.1) : k.ok hd' nx := by
  have q : ∀ g : Nat × Nat, (g.1 < hd.1 ∨ g = hd) → g.1 < hd'.1 := fun g hg => by
    rcases hg with hg | rfl
    · omega
    · exact ht
  cases k with
  | take1 g => exact ⟨.inl (q g h.1), h.2⟩
  | take2 g m => exact ⟨.inl (q g h.1), h.2.1, fun e => by have := q g h.1; rw [e] at this; omega⟩
  | give1 s g => exact .inl (q g h)
  | give2 s g => exact ⟨.inl (q g h.1), h.2⟩
  | _ => trivial

/-- A take's swap tells true: the first slot is its own. -/
theorem SlOk.take_hit (h : SlOk S n x L) (hi : i < n) {hs : List Nat} {m : Nat} (hw : x.ws i = ⟨.take2 x.hd m, hs⟩) :
    ∃ L', L = (x.hd.2 - 1) :: L' ∧ SlOk S n ⟨(x.hd.1 + 1, m), x.nx, put x.ws i ⟨.idle, hs ++ [x.hd.2 - 1]⟩⟩ L' := by
  have hk := h.each i hi
  rw [hw] at hk
  obtain ⟨_, h0, hm⟩ := hk
  have hm := hm rfl
  have hc := h.chain
  cases L with
  | nil => exact absurd hc h0
  | cons s L' =>
    obtain ⟨e, hc'⟩ := hc
    have es : x.hd.2 - 1 = s := by omega
    rw [es] at hm ⊢
    have ec : ∀ s', heldBy (put x.ws i ⟨.idle, hs ++ [s]⟩) s' n = heldBy x.ws s' n + [s].count s' := fun s' => by
      have := heldBy_put x.ws s' i ⟨.idle, hs ++ [s]⟩ n hi
      rw [hw] at this
      simp only [Wr.held, Wk.giving, List.append_nil, List.count_append] at this
      omega
    have el : ∀ s', (s :: L').count s' = L'.count s' + [s].count s' := fun s' => by simp only [List.count_cons, List.count_nil]; omega
    refine ⟨L', rfl, by rw [hm]; exact hc', fun s' h' => ?_, fun s' h' => ?_, fun j hj => ?_⟩
    · have := h.once s' h'; rw [el] at this; rw [ec]; omega
    · have := h.none s' h'; rw [el] at this; rw [ec]; omega
    · by_cases ej : j = i
      · subst ej
        show (put x.ws j _ j).k.ok _ _
        rw [put_same]; trivial
      · show (put x.ws i _ j).k.ok _ _
        rw [put_other _ _ ej]
        exact (h.each j hj).head (Nat.lt_succ_self _)

/-- A give's swap tells true: its slot is the first one. -/
theorem SlOk.give_hit (h : SlOk S n x L) (hi : i < n) {hs : List Nat} {s0 : Nat} (hw : x.ws i = ⟨.give2 s0 x.hd, hs⟩) : SlOk S n ⟨(x.hd.1 + 1, s0 + 1), x.nx, put x.ws i ⟨.idle, hs⟩⟩ (s0 :: L) := by
  have hk := h.each i hi
  rw [hw] at hk
  obtain ⟨_, hn⟩ := hk
  have ec : ∀ s', heldBy (put x.ws i ⟨.idle, hs⟩) s' n + [s0].count s' = heldBy x.ws s' n := fun s' => by
    have := heldBy_put x.ws s' i ⟨.idle, hs⟩ n hi
    rw [hw] at this
    simp only [Wr.held, Wk.giving, List.append_nil, List.count_append] at this
    omega
  have el : ∀ s', (s0 :: L).count s' = L.count s' + [s0].count s' := fun s' => by simp only [List.count_cons, List.count_nil]; omega
  refine ⟨⟨rfl, by rw [hn]; exact h.chain⟩, fun s' h' => ?_, fun s' h' => ?_, fun j hj => ?_⟩
  · have := h.once s' h'; have e := ec s'; rw [el]; show _ + heldBy (put x.ws i _) s' n = 1; omega
  · have := h.none s' h'; have e := ec s'; rw [el]; show _ + heldBy (put x.ws i _) s' n = 0; omega
  · by_cases ej : j = i
    · subst ej
      show (put x.ws j _ j).k.ok _ _
      rw [put_same]; trivial
    · show (put x.ws i _ j).k.ok _ _
      rw [put_other _ _ ej]
      exact (h.each j hj).head (Nat.lt_succ_self _)
end
end Go.Proofs.Ytgjlilcljefbfaa
