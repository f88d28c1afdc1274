/- Words for an arena in memory, and the contract of its inner call. -/
import Derived.Test.YtipjbgkfhkidkaaRows
import Derived.WalkKit
import Derived.ProofKit
import Derived.OpenShut
import Derived.WalkSpells
import Derived.WalkLawsBesides
import Derived.Below
import Derived.Laws.OwnMore
import Derived.Deep.Draws
import Derived.Laws.Rows
import Derived.Lib.Hide
namespace Go.Proofs.Ytipjbgkfhkidkaa
open Go.RowKit

/-- Block g is just these cells, none of them frozen. -/
def Blk (w : World) (g : Nat) (t : TypeId) (cs : Array Value) : Prop := w.heap[g]? = some (.cells cs t (0, 0))

section
variable {w w' : World} {g : Nat} {t : TypeId} {cs : Array Value}
theorem Blk.lt (h : Blk w g t cs) : g < w.heap.size := by
  rcases Nat.lt_or_ge g w.heap.size with hlt | hge
  · exact hlt
  · unfold Blk at h; rw [Array.getElem?_eq_none hge] at h; cases h
theorem Blk.cell (h : Blk w g t cs) (i : Nat) : w.cell? ⟨g, i, none⟩ = cs[i]? := cell_of_row w g i cs t (0, 0) h
theorem Blk.frozen (h : Blk w g t cs) (i : Nat) : w.frozen? ⟨g, i, none⟩ = false := by
  unfold Blk at h
  simp [World.frozen?, h]
theorem Blk.new (w : World) (t : TypeId) (cs : Array Value) : Blk (w.alloc (.cells cs t)) w.heap.size t cs := heap_alloc_new w _
theorem Blk.drew (h : Blk w g t cs) : Blk w.drew g t cs := h
theorem Blk.drewN (h : Blk w g t cs) (n : Nat) : Blk (w.drewN n) g t cs := h
theorem Blk.alloc (h : Blk w g t cs) (o : Obj) : Blk (w.alloc o) g t cs := (Below.heap_alloc w o g h.lt).trans h
theorem Blk.set_ (h : Blk w g t cs) (i : Nat) (u : Value) : Blk (w.setCell ⟨g, i, none⟩ u) g t (cs.setIfInBounds i u) := by
  unfold Blk at h ⊢
  simp [World.setCell, Array.getElem?_modify, h]
theorem Blk.far (h : Blk w g t cs) {p : Addr} (hp : g ≠ p.block) (u : Value) : Blk (w.setCell p u) g t cs := (Below.heap_setCell w p u g hp).trans h
theorem Blk.below {B : Nat} (h : Blk w g t cs) (hb : Below B w w') (hg : g < B) : Blk w' g t cs := (hb.block g hg).trans h
theorem Blk.ne_ {g' : Nat} {t' : TypeId} {cs' : Array Value} (h : Blk w g t cs) (h' : Blk w g' t' cs') (hne : t ≠ t') : g ≠ g' := by
  rintro rfl
  unfold Blk at h h'
  rw [h] at h'
  injection h' with h'
  injection h' with _ ht
  exact hne ht
end

/-- Of what was there, only two blocks may have turned. -/
structure Only (p g : Nat) (w w' : World) : Prop where
  os : w'.os = w.os
  tape : w'.tape = w.tape
  output : w'.output = w.output
  size : w.heap.size ≤ w'.heap.size
  block : ∀ i, i < w.heap.size → i ≠ p → i ≠ g → w'.heap[i]? = w.heap[i]?


theorem Only.refl (p g : Nat) (w : World) : Only p g w w := ⟨rfl, rfl, rfl, Nat.le_refl _, fun _ _ _ _ => rfl⟩
theorem Only.trans {p g : Nat} {a b c : World} (h : Only p g a b) (k : Only p g b c) : Only p g a c :=
  ⟨k.os.trans h.os, k.tape.trans h.tape, k.output.trans h.output, Nat.le_trans h.size k.size, fun i hi h1 h2 => (k.block i (Nat.lt_of_lt_of_le hi h.size) h1 h2).trans (h.block i hi h1 h2)⟩
theorem Only.set_ {p g : Nat} {a w : World} (h : Only p g a w) {q : Addr} (hq : q.block = p ∨ q.block = g) (u : Value) : Only p g a (w.setCell q u) :=
  ⟨h.os, h.tape, h.output, by simpa [World.setCell] using h.size, fun i hi h1 h2 => (Below.heap_setCell w q u i (by rintro rfl; rcases hq with hq | hq <;> simp_all)).trans (h.block i hi h1 h2)⟩
theorem Only.set_p {p g : Nat} {a w : World} (h : Only p g a w) {j : Nat} (u : Value) : Only p g a (w.setCell ⟨p, j, none⟩ u) := h.set_ (.inl rfl) u
theorem Only.set_g {p g : Nat} {a w : World} (h : Only p g a w) {j : Nat} (u : Value) : Only p g a (w.setCell ⟨g, j, none⟩ u) := h.set_ (.inr rfl) u
theorem Only.alloc {p g : Nat} {a w : World} (h : Only p g a w) (o : Obj) : Only p g a (w.alloc o) :=
  ⟨h.os, h.tape, h.output, Nat.le_trans h.size (by simp), fun i hi h1 h2 => (Below.heap_alloc w o i (Nat.lt_of_lt_of_le hi h.size)).trans (h.block i hi h1 h2)⟩
theorem Only.drew {p g : Nat} {a w : World} (h : Only p g a w) : Only p g a w.drew := ⟨h.os, h.tape, h.output, h.size, h.block⟩
theorem Only.drewN {p g : Nat} {a w : World} (h : Only p g a w) (k : Nat) : Only p g a (w.drewN k) := ⟨h.os, h.tape, h.output, h.size, h.block⟩
theorem Only.of_below {p g : Nat} {a w : World} (h : Below a.heap.size a w) : Only p g a w :=
  ⟨h.os, h.tape, h.output, h.size, fun i hi _ _ => h.block i hi⟩
theorem Only.below {p g B : Nat} {a w w' : World} (hb : Below B a w) (h : Only p g w w') (hB : B ≤ w.heap.size) (hp : B ≤ p) (hg : B ≤ g) : Below B a w' :=
  ⟨h.os.trans hb.os, h.tape.trans hb.tape, h.output.trans hb.output, Nat.le_trans hb.size h.size, fun i hi => (h.block i (by omega) (by omega) (by omega)).trans (hb.block i hi)⟩
theorem Blk.only {p g i : Nat} {w w' : World} {t : TypeId} {cs : Array Value} (h : Blk w i t cs) (ho : Only p g w w') (h1 : i ≠ p) (h2 : i ≠ g) : Blk w' i t cs := (ho.block i h.lt h1 h2).trans h

/-- A function, at one place turned. -/
def upd (f : Nat → Int) (k : Nat) (v : Int) : Nat → Int := fun i => if i = k then v else f i
theorem upd_same (f : Nat → Int) (k : Nat) (v : Int) : upd f k v k = v := by simp [upd]
theorem upd_other (f : Nat → Int) {k i : Nat} (v : Int) (h : i ≠ k) : upd f k v i = f i := by simp [upd, h]

/-- An arena in memory: its own block p, its cells' block g, how many cells, its counts and its numbers. -/
structure Ar (w : World) (p g n cap : Nat) (c f : Nat → Int) : Prop where
  own : Blk w p 88 #[.slice (some ⟨g, 0, none⟩) n cap, .int .i64 (c 0), .int .i64 (c 1), .int .i64 (c 2), .int .i64 (c 3), .int .i64 (c 4)]
  cells : ∃ zs : Array Value, Blk w g 37 zs ∧ ∀ k, k < n → zs[k]? = some (.int .u64 (f k))
  le : n ≤ cap
  few : n ≤ 16384
  fit : ∀ k, k < n → 0 ≤ f k ∧ f k ≤ 18446744073709551615

section
variable {w w' : World} {p g n cap : Nat} {c f : Nat → Int}
theorem Ar.ne_ (A : Ar w p g n cap c f) : p ≠ g := by
  obtain ⟨zs, hz, _⟩ := A.cells
  exact A.own.ne_ hz (by decide)
theorem Ar.p_lt (A : Ar w p g n cap c f) : p < w.heap.size := A.own.lt
theorem Ar.g_lt (A : Ar w p g n cap c f) : g < w.heap.size := by
  obtain ⟨zs, hz, _⟩ := A.cells
  exact hz.lt
theorem Ar.c0 (A : Ar w p g n cap c f) : w.cell? ⟨p, 0, none⟩ = some (.slice (some ⟨g, 0, none⟩) n cap) := A.own.cell 0
theorem Ar.c1 (A : Ar w p g n cap c f) : w.cell? ⟨p, 1, none⟩ = some (.int .i64 (c 0)) := A.own.cell 1
theorem Ar.c2 (A : Ar w p g n cap c f) : w.cell? ⟨p, 2, none⟩ = some (.int .i64 (c 1)) := A.own.cell 2
theorem Ar.c3 (A : Ar w p g n cap c f) : w.cell? ⟨p, 3, none⟩ = some (.int .i64 (c 2)) := A.own.cell 3
theorem Ar.c4 (A : Ar w p g n cap c f) : w.cell? ⟨p, 4, none⟩ = some (.int .i64 (c 3)) := A.own.cell 4
theorem Ar.c5 (A : Ar w p g n cap c f) : w.cell? ⟨p, 5, none⟩ = some (.int .i64 (c 4)) := A.own.cell 5
theorem Ar.cell (A : Ar w p g n cap c f) {k : Nat} (hk : k < n) : w.cell? ⟨g, k, none⟩ = some (.int .u64 (f k)) := by
  obtain ⟨zs, hz, he⟩ := A.cells
  exact (hz.cell k).trans (he k hk)
theorem Ar.fz (A : Ar w p g n cap c f) (i : Nat) : w.frozen? ⟨p, i, none⟩ = false := A.own.frozen i
theorem Ar.fzg (A : Ar w p g n cap c f) (i : Nat) : w.frozen? ⟨g, i, none⟩ = false := by
  obtain ⟨zs, hz, _⟩ := A.cells
  exact hz.frozen i
theorem Ar.only {p' g' : Nat} (A : Ar w p g n cap c f) (ho : Only p' g' w w') (h1 : p ≠ p') (h2 : p ≠ g') (h3 : g ≠ p') (h4 : g ≠ g') : Ar w' p g n cap c f := by
  obtain ⟨zs, hz, he⟩ := A.cells
  exact ⟨A.own.only ho h1 h2, ⟨zs, hz.only ho h3 h4, he⟩, A.le, A.few, A.fit⟩
theorem Ar.below {B : Nat} (A : Ar w p g n cap c f) (hb : Below B w w') (hB : w.heap.size ≤ B) : Ar w' p g n cap c f := by
  have h1 := A.p_lt
  have h2 := A.g_lt
  obtain ⟨zs, hz, he⟩ := A.cells
  exact ⟨A.own.below hb (by omega), ⟨zs, hz.below hb (by omega), he⟩, A.le, A.few, A.fit⟩
theorem Ar.drew (A : Ar w p g n cap c f) : Ar w.drew p g n cap c f := ⟨A.own, A.cells, A.le, A.few, A.fit⟩
theorem Ar.drewN (A : Ar w p g n cap c f) (k : Nat) : Ar (w.drewN k) p g n cap c f := ⟨A.own, A.cells, A.le, A.few, A.fit⟩
theorem Ar.alloc (A : Ar w p g n cap c f) (o : Obj) : Ar (w.alloc o) p g n cap c f := by
  obtain ⟨zs, hz, he⟩ := A.cells
  exact ⟨A.own.alloc o, ⟨zs, hz.alloc o, he⟩, A.le, A.few, A.fit⟩
theorem Ar.set_ (A : Ar w p g n cap c f) {k : Nat} (hk : k < n) {v : Int} (h0 : 0 ≤ v) (h1 : v ≤ 18446744073709551615) : Ar (w.setCell ⟨g, k, none⟩ (.int .u64 v)) p g n cap c (upd f k v) := by
  obtain ⟨zs, hz, he⟩ := A.cells
  refine ⟨A.own.far A.ne_ _, ⟨_, hz.set_ k _, fun i hi => ?_⟩, A.le, A.few, fun i hi => ?_⟩
  · have hs : i < zs.size := by
      have := he i hi
      rcases Nat.lt_or_ge i zs.size with hlt | hge
      · exact hlt
      · rw [Array.getElem?_eq_none hge] at this; cases this
    by_cases e : i = k
    · subst e; simp [upd, hs]
    · rw [Array.getElem?_setIfInBounds_ne (fun h => e h.symm), he i hi, upd_other _ _ e]
  · by_cases e : i = k
    · subst e; rw [upd_same]; exact ⟨h0, h1⟩
    · rw [upd_other _ _ e]; exact A.fit i hi
theorem Ar.count {j : Nat} (A : Ar w p g n cap c f) (hj : j < 5) (v : Int) : Ar (w.setCell ⟨p, j + 1, none⟩ (.int .i64 v)) p g n cap (upd c j v) f := by
  obtain ⟨zs, hz, he⟩ := A.cells
  refine ⟨?_, ⟨zs, hz.far (fun h => A.ne_ h.symm) _, he⟩, A.le, A.few, A.fit⟩
  have h := A.own.set_ (j + 1) (.int .i64 v)
  match j, hj with
  | 0, _ => exact h
  | 1, _ => exact h
  | 2, _ => exact h
  | 3, _ => exact h
  | 4, _ => exact h
end

/-- Counts stay small. -/
def CB (c : Nat → Int) (m : Nat) : Prop := ∀ j, 0 ≤ c j ∧ c j ≤ m
theorem CB.more {c : Nat → Int} {m m' : Nat} (h : CB c m) (hm : m ≤ m') : CB c m' := fun j => ⟨(h j).1, by have := (h j).2; omega⟩
theorem CB.upd {c : Nat → Int} {m : Nat} (h : CB c m) (j : Nat) : CB (upd c j (c j + 1)) (m + 1) := fun i => by
  by_cases e : i = j
  · subst e; rw [upd_same]; have := h i; omega
  · rw [upd_other _ _ e]; have := h i; omega

theorem at_yes (p g n cap k : Nat) (w : World) (h0 : w.cell? ⟨p, 0, none⟩ = some (.slice (some ⟨g, 0, none⟩) n cap)) (hk : k < n) :
    Calls Try.prog 37 #[.pointer (some ⟨p, 0, none⟩), .int .i64 (k : Int)] w fun e w' => e = .returned (.pointer (some ⟨g, k, none⟩)) ∧ w = w' := by
  go_enter Try.func37, Try.ntmps37
  go_wp2
  go_ret
  exact ⟨rfl, rfl⟩

theorem at_no (p g n cap : Nat) (i : Int) (w : World) (h0 : w.cell? ⟨p, 0, none⟩ = some (.slice (some ⟨g, 0, none⟩) n cap)) (hi : i < 0 ∨ (n : Int) ≤ i) :
    Calls Try.prog 37 #[.pointer (some ⟨p, 0, none⟩), .int .i64 i] w fun e w' => e = .returned (.pointer none) ∧ w = w' := by
  by_cases h : i < 0
  · clear hi
    go_enter Try.func37, Try.ntmps37
    go_wp2
    go_ret
    exact ⟨rfl, rfl⟩
  · have hi' : (n : Int) ≤ i := by omega
    clear hi
    go_enter Try.func37, Try.ntmps37
    go_wp2
    go_ret
    exact ⟨rfl, rfl⟩
end Go.Proofs.Ytipjbgkfhkidkaa
