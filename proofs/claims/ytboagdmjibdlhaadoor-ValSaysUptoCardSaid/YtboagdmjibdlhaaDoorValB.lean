/- Values as trees, what a walk through one meets, and a walk in memory. -/
import Derived.Test.YtboagdmjibdlhaaDoorValA
namespace Go.Proofs.YtboagdmjibdlhaaDoor
open Go.RowKit

/-- A value: no list, or a list of values. -/
inductive Tr where
  | one (a : Atom)
  | lst (a : Option Addr) (n c : Nat) (xs : Nat → Tr)

def Tr.val : Tr → Value
  | .one a => a.val
  | .lst a n c _ => .iface 29 (.slice a n c)

/-- What a walk meets. -/
inductive Ev where
  | op
  | cl
  | one (a : Atom)

/-- The events of a value. -/
def Tr.evs : Tr → List Ev
  | .one a => [.one a]
  | .lst _ n _ xs => .op :: ((List.range n).flatMap fun i => (xs i).evs) ++ [.cl]

/-- A block of values. -/
def VBlk (w : World) (g : Nat) (cs : Array Value) : Prop := Blk w g 20 cs

/-- The value lies in memory. -/
def Tr.Lies (w : World) : Tr → Prop
  | .one _ => True
  | .lst a n _ xs => (0 < n → ∃ g cs, a = some ⟨g, 0, none⟩ ∧ VBlk w g cs ∧ ∀ i, i < n → cs[i]? = some (xs i).val) ∧ ∀ i, i < n → (xs i).Lies w

/-- Blocks of values stay as they are. -/
def Keeps (w w' : World) : Prop := ∀ g cs, VBlk w g cs → VBlk w' g cs
theorem Keeps.refl (w : World) : Keeps w w := fun _ _ h => h
theorem Keeps.trans {a b c : World} (h : Keeps a b) (k : Keeps b c) : Keeps a c := fun g cs hg => k g cs (h g cs hg)
theorem VBlk.lt {w : World} {g : Nat} {cs : Array Value} (h : VBlk w g cs) : g < w.heap.size := Blk.lt h
theorem VBlk.cell {w : World} {g : Nat} {cs : Array Value} (h : VBlk w g cs) (i : Nat) : w.cell? ⟨g, i, none⟩ = cs[i]? := Blk.cell h i
theorem VBlk.uniq {w : World} {g : Nat} {cs ds : Array Value} (h : VBlk w g cs) (k : VBlk w g ds) : cs = ds := by
  unfold VBlk Blk at h k
  rw [h] at k
  injection k with k
  injection k
theorem Keeps.below {w w' : World} (hb : Below w.heap.size w w') : Keeps w w' := fun _ _ h => Blk.below h hb h.lt
theorem Keeps.alloc (w : World) (o : Obj) : Keeps w (w.alloc o) := fun _ _ h => Blk.alloc h o
theorem Keeps.only {p g : Nat} {w w' : World} (ho : Only p g w w') {tp tg : TypeId} {cp cg : Array Value} (hp : Blk w p tp cp) (hg : Blk w g tg cg) (np : tp ≠ 20) (ng : tg ≠ 20) : Keeps w w' :=
  fun _ _ h => Blk.only h ho (fun e => by subst e; exact Blk.ne_ hp h np rfl) (fun e => by subst e; exact Blk.ne_ hg h ng rfl)

theorem Tr.Lies.keep {w w' : World} (hk : Keeps w w') : ∀ {x : Tr}, x.Lies w → x.Lies w'
  | .one _, _ => trivial
  | .lst a n c xs, h => ⟨fun hn => by obtain ⟨g, cs, ha, hv, hc⟩ := h.1 hn; exact ⟨g, cs, ha, hk g cs hv, hc⟩, fun i hi => (h.2 i hi).keep hk⟩

theorem Atom.val_inj {a b : Atom} (h : a.val = b.val) : a = b := by
  cases a <;> cases b <;> simp_all [Atom.val]

theorem Atom.val_lst (a : Atom) (v : Value) : a.val ≠ .iface 29 v := by
  cases a <;> simp [Atom.val]

/-- Values that are the same in memory have the same events. -/
theorem Tr.evs_same {w : World} : ∀ {x y : Tr}, x.Lies w → y.Lies w → x.val = y.val → x.evs = y.evs
  | .one a, .one b, _, _, h => by rw [Atom.val_inj h]
  | .one a, .lst _ _ _ _, _, _, h => absurd h (Atom.val_lst a _)
  | .lst _ _ _ _, .one b, _, _, h => absurd h.symm (Atom.val_lst b _)
  | .lst a n c xs, .lst a' n' c' ys, hx, hy, h => by
    simp only [Tr.val, Value.iface.injEq, Value.slice.injEq, true_and] at h
    obtain ⟨rfl, rfl, rfl⟩ := h
    have : ∀ i, i < n → (xs i).evs = (ys i).evs := fun i hi => by
      obtain ⟨g, cs, ha, hv, hc⟩ := hx.1 (by omega)
      obtain ⟨g', cs', ha', hv', hc'⟩ := hy.1 (by omega)
      rw [ha] at ha'
      injection ha' with ha'
      injection ha' with hg
      subst hg
      obtain rfl := hv.uniq hv'
      exact Tr.evs_same (hx.2 i hi) (hy.2 i hi) (Option.some.inj ((hc i hi).symm.trans (hc' i hi)))
    simp only [Tr.evs]
    congr 2
    rw [List.flatMap_def, List.flatMap_def]
    congr 1
    exact List.map_congr_left (fun i hi => this i (by simpa using hi))

theorem Tr.evs_pos (x : Tr) : 1 ≤ x.evs.length := by
  cases x
  · exact Nat.le_refl _
  · simp only [Tr.evs, List.length_append, List.length_cons]; omega
theorem flat_count (xs : Nat → Tr) : ∀ (l : List Nat), l.length ≤ (l.flatMap fun i => (xs i).evs).length
  | [] => Nat.zero_le _
  | i :: l => by
    rw [List.flatMap_cons, List.length_append, List.length_cons]
    have := flat_count xs l
    have := (xs i).evs_pos
    omega
theorem Tr.evs_count (a : Option Addr) (n c : Nat) (xs : Nat → Tr) : n ≤ (Tr.lst a n c xs).evs.length := by
  have := flat_count xs (List.range n)
  simp only [Tr.evs, List.length_append, List.length_cons, List.length_range] at this ⊢
  omega

/-- A list of a walk's path, and which item comes next. -/
structure Fr where
  a : Option Addr
  n : Nat
  c : Nat
  xs : Nat → Tr
  k : Nat
def Fr.tree (f : Fr) : Tr := .lst f.a f.n f.c f.xs
def Fr.flat (f : Fr) : List Value := [.slice f.a f.n f.c, .int .i64 (f.k : Int)]
def Fr.next (f : Fr) : Fr := { f with k := f.k + 1 }
/-- What is left of it. -/
def Fr.todo (f : Fr) : List Ev := (List.range' f.k (f.n - f.k)).flatMap fun i => (f.xs i).evs

theorem Fr.todo_end {f : Fr} (h : f.k = f.n) : f.todo = [] := by simp [Fr.todo, h]
theorem Fr.todo_next {f : Fr} (h : f.k < f.n) : f.todo = (f.xs f.k).evs ++ f.next.todo := by
  have e : f.n - f.k = (f.n - (f.k + 1)) + 1 := by omega
  simp only [Fr.todo, Fr.next]
  rw [e, List.range'_succ]
  simp

/-- What is left of a path, the innermost list first. -/
def rem : List Fr → List Ev
  | [] => []
  | [f] => f.todo
  | f :: g :: r => f.todo ++ .cl :: rem (g :: r)

theorem rem_over {f : Fr} (h : f.k = f.n) : rem [f] = [] := by simp [rem, Fr.todo_end h]
theorem rem_close {f g : Fr} {r : List Fr} (h : f.k = f.n) : rem (f :: g :: r) = .cl :: rem (g :: r) := by simp [rem, Fr.todo_end h]
theorem rem_next {f : Fr} {r : List Fr} (h : f.k < f.n) : rem (f :: r) = (f.xs f.k).evs ++ rem (f.next :: r) := by
  cases r <;> simp [rem, Fr.todo_next h]
theorem rem_one {f : Fr} {r : List Fr} {a : Atom} (h : f.k < f.n) (ha : f.xs f.k = .one a) : rem (f :: r) = .one a :: rem (f.next :: r) := by
  rw [rem_next h, ha]; rfl
theorem rem_open {f : Fr} {r : List Fr} {a : Option Addr} {n c : Nat} {xs : Nat → Tr} (h : f.k < f.n) (ha : f.xs f.k = .lst a n c xs) :
    rem (f :: r) = .op :: rem (⟨a, n, c, xs, 0⟩ :: f.next :: r) := by
  rw [rem_next h, ha]
  simp [Tr.evs, rem, Fr.todo, List.range_eq_range']

/-- The lists of a path are within one another, and lie in memory. -/
def Nest (w : World) : List Fr → Prop
  | [] => True
  | f :: r => (f.k ≤ f.n ∧ f.n ≤ 1000000000) ∧ f.tree.Lies w ∧ (∀ g ∈ r, f.tree.evs.length < g.tree.evs.length) ∧ Nest w r

theorem Nest.keep {w w' : World} (hk : Keeps w w') : ∀ {st : List Fr}, Nest w st → Nest w' st
  | [], _ => trivial
  | _ :: _, h => ⟨h.1, h.2.1.keep hk, h.2.2.1, h.2.2.2.keep hk⟩

theorem Nest.lies {w : World} : ∀ {st : List Fr}, Nest w st → ∀ g ∈ st, g.tree.Lies w
  | _ :: _, h, g, hg => by
    rcases List.mem_cons.1 hg with rfl | hg
    · exact h.2.1
    · exact h.2.2.2.lies g hg

theorem Fr.item_lt {f : Fr} (h : f.k < f.n) : (f.xs f.k).evs.length < f.tree.evs.length := by
  have hm : (f.xs f.k).evs.length ≤ ((List.range f.n).flatMap fun i => (f.xs i).evs).length := by
    have : ∀ (l : List Nat), f.k ∈ l → (f.xs f.k).evs.length ≤ (l.flatMap fun i => (f.xs i).evs).length := by
      intro l
      induction l with
      | nil => intro h; cases h
      | cons a t ih =>
        intro h
        rw [List.flatMap_cons, List.length_append]
        rcases List.mem_cons.1 h with rfl | h
        · omega
        · have := ih h; omega
    exact this _ (by simpa using h)
  simp only [Fr.tree, Tr.evs, List.length_append, List.length_cons]
  omega

theorem Nest.next {w : World} {f : Fr} {r : List Fr} (h : Nest w (f :: r)) (hk : f.k < f.n) : Nest w (f.next :: r) :=
  ⟨⟨hk, h.1.2⟩, h.2.1, h.2.2.1, h.2.2.2⟩

theorem Nest.item {w : World} {f : Fr} {r : List Fr} (h : Nest w (f :: r)) (hk : f.k < f.n) : (f.xs f.k).Lies w := h.2.1.2 _ hk

theorem Nest.lt_all {w : World} {f : Fr} {r : List Fr} (h : Nest w (f :: r)) (hk : f.k < f.n) : ∀ g ∈ f.next :: r, (f.xs f.k).evs.length < g.tree.evs.length := by
  intro g hg
  have := Fr.item_lt hk
  rcases List.mem_cons.1 hg with rfl | hg
  · exact this
  · have := h.2.2.1 g hg; omega

theorem Nest.push {w : World} {f : Fr} {r : List Fr} {a : Option Addr} {n c : Nat} {xs : Nat → Tr} (h : Nest w (f :: r)) (hk : f.k < f.n) (ha : f.xs f.k = .lst a n c xs) (hn : n ≤ 1000000000) : Nest w (⟨a, n, c, xs, 0⟩ :: f.next :: r) := by
  have h1 := h.item hk
  have h2 := h.lt_all hk
  rw [ha] at h1 h2
  exact ⟨⟨Nat.zero_le _, hn⟩, h1, h2, h.next hk⟩
end Go.Proofs.YtboagdmjibdlhaaDoor
