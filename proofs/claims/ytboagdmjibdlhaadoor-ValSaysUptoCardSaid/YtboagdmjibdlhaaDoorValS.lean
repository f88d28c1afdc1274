/- Equal of the lists that ValEquals makes. -/
import Derived.Test.YtboagdmjibdlhaaDoorValR
namespace Go.Proofs.YtboagdmjibdlhaaDoor
set_option maxRecDepth 100000
open Go.RowKit

theorem Blk.new2 (w : World) (o : Obj) (t : TypeId) (cs : Array Value) : Blk ((w.alloc o).alloc (.cells cs t)) (w.heap.size + 1) t cs := by
  have := Blk.new (w.alloc o) t cs
  simpa using this

theorem blk_past {W5 W6 : World} {t : TypeId} {cs : Array Value} (hb : Below (W5.alloc (.cells cs t)).heap.size (W5.alloc (.cells cs t)) W6) (o : Obj) : Blk (W6.alloc o) W5.heap.size t cs :=
  ((Blk.new W5 t cs).below hb (Blk.new W5 t cs).lt).alloc o

/-- The values, and the number 1 behind them. -/
def qm (q : Nat → Raw) (n : Nat) : Nat → Raw := fun i => if i < n then q i else ⟨1, 1, ByteArray.empty, 0⟩
theorem items_qm (q : Nat → Raw) (n : Nat) : items (qm q n) (n + 1) = items q n ++ [.iface 3 (.int .i64 1)] := by
  have h : ∀ i ∈ List.range n, (qm q n i).atom.val = (q i).atom.val := fun i hi => by
    have : i < n := by simpa using hi
    simp [qm, this]
  simp only [items, List.range_succ, List.map_append, List.map_cons, List.map_nil]
  rw [List.map_congr_left h]
  congr 2
  simp [qm, Raw.atom, Atom.val]
theorem atoms_qm (q : Nat → Raw) (n : Nat) : atoms (qm q n) (n + 1) = atoms q n ++ [.num 1] := by
  have h : ∀ i ∈ List.range n, (qm q n i).atom = (q i).atom := fun i hi => by
    have : i < n := by simpa using hi
    simp [qm, this]
  simp only [atoms, List.range_succ, List.map_append, List.map_cons, List.map_nil]
  rw [List.map_congr_left h]
  congr 2
  simp [qm, Raw.atom]

/-- A list of a list and a value. -/
def pairT (g : Nat) (a : Option Addr) (n c : Nat) (q : Nat → Raw) (x : Atom) : Tr := .lst (some ⟨g, 0, none⟩) 2 2 fun i => if i = 0 then listT a n c q else .one x
theorem pairT_evs (g : Nat) (a : Option Addr) (n c : Nat) (q : Nat → Raw) (x : Atom) : (pairT g a n c q x).evs = .op :: .op :: ((atoms q n).map Ev.one ++ .cl :: .one x :: [.cl]) := by
  have h : (pairT g a n c q x).evs = .op :: (((listT a n c q).evs ++ ([.one x] ++ [])) ++ [.cl]) := rfl
  rw [h, listT_evs]
  simp
theorem pairT_lies {g : Nat} {a : Option Addr} {n c : Nat} {q : Nat → Raw} {x : Atom} {w : World} (h : Blk w g 20 #[.iface 29 (.slice a n c), x.val]) (hl : (listT a n c q).Lies w) : (pairT g a n c q x).Lies w :=
  ⟨fun _ => ⟨g, _, rfl, h, fun i hi => by
    match i, hi with
    | 0, _ => rfl
    | 1, _ => rfl⟩, fun i hi => by
    match i, hi with
    | 0, _ => exact hl
    | 1, _ => exact trivial⟩
def oneT (g : Nat) (x : Atom) : Tr := .lst (some ⟨g, 0, none⟩) 1 1 fun _ => .one x
theorem oneT_lies {g : Nat} {x : Atom} {w : World} (h : Blk w g 20 #[x.val]) : (oneT g x).Lies w :=
  ⟨fun _ => ⟨g, _, rfl, h, fun i hi => by
    match i, hi with
    | 0, _ => rfl⟩, fun _ _ => trivial⟩
theorem oneT_evs (g : Nat) (x : Atom) : (oneT g x).evs = [.op, .one x, .cl] := rfl

theorem eq_xl (x : Atom) (w : World) (g : Nat) (h : Blk w g 20 #[x.val]) : Calls Tryd.prog 25 #[x.val, .iface 29 (.slice (some ⟨g, 0, none⟩) 1 1)] w fun e w' => e = .returned (.bool false) ∧ Below w.heap.size w w' :=
  equal_one_list x (some ⟨g, 0, none⟩) 1 1 (fun _ => .one x) w (oneT_lies h) (by show (oneT g x).evs.length ≤ 900000000; rw [oneT_evs]; simp)
theorem eq_lx (x : Atom) (w : World) (g : Nat) (h : Blk w g 20 #[x.val]) : Calls Tryd.prog 25 #[.iface 29 (.slice (some ⟨g, 0, none⟩) 1 1), x.val] w fun e w' => e = .returned (.bool false) ∧ Below w.heap.size w w' :=
  equal_list_one x (some ⟨g, 0, none⟩) 1 1 (fun _ => .one x) w (oneT_lies h) (by show (oneT g x).evs.length ≤ 900000000; rw [oneT_evs]; simp)
theorem eq_pp (x y : Atom) (a b : Option Addr) (n c c' : Nat) (q : Nat → Raw) (hn : n ≤ 40) (w : World) (g g' : Nat) (h : Blk w g 20 #[.iface 29 (.slice a n c), x.val]) (h' : Blk w g' 20 #[.iface 29 (.slice b n c'), y.val])
    (hl : (listT a n c q).Lies w) (hl' : (listT b n c' q).Lies w) :
    Calls Tryd.prog 25 #[.iface 29 (.slice (some ⟨g, 0, none⟩) 2 2), .iface 29 (.slice (some ⟨g', 0, none⟩) 2 2)] w fun e w' => e = .returned (.bool (allV q n && sameA x y)) ∧ Below w.heap.size w w' := by
  have hs : ∀ g a c x, (pairT g a n c q x).evs.length ≤ 900000000 := fun g a c x => by
    rw [pairT_evs]
    simp [atoms]
    omega
  have h := equal_any (pairT g a n c q x) (pairT g' b n c' q y) w (pairT_lies h hl) (pairT_lies h' hl') (hs _ _ _ _) (hs _ _ _ _)
  rw [pairT_evs, pairT_evs] at h
  simp only [sameE, sameE_ones, Bool.and_true, onesEq_atoms] at h
  exact h
theorem eq_more (a b : Option Addr) (n c c' : Nat) (q : Nat → Raw) (hn : n ≤ 40) (w : World) (h : (listT a n c q).Lies w) (h' : (listT b (n + 1) c' (qm q n)).Lies w) :
    Calls Tryd.prog 25 #[.iface 29 (.slice a n c), .iface 29 (.slice b (n + 1) c')] w fun e w' => e = .returned (.bool false) ∧ Below w.heap.size w w' := by
  have h := equal_lists a b n c (n + 1) c' q (qm q n) w h h' (by omega) (by omega)
  rw [atoms_qm, onesEq_more] at h
  exact h
theorem cell_alloc {W : World} {o : Obj} {a : Addr} {v : Value} (h : W.cell? a = some v) : (W.alloc o).cell? a = some v :=
  cell_later ((Below.refl _ _).alloc (Nat.le_refl _) _) h
theorem below_alloc {w W : World} {o : Obj} (h : Below w.heap.size w W) : Below w.heap.size w (W.alloc o) := h.alloc h.size _
theorem lies_alloc {x : Tr} {w : World} {o : Obj} (h : x.Lies w) : x.Lies (w.alloc o) := h.keep (Keeps.alloc _ _)
theorem lies_later {x : Tr} {w w' : World} (hb : Below w.heap.size w w') (h : x.Lies w) : x.Lies w' := h.keep (Keeps.below hb)

/-- A list lies in memory; shut, so that nothing looks into it. -/
structure LL (w : World) (a : Option Addr) (n c : Nat) (q : Nat → Raw) : Prop where
  out : (listT a n c q).Lies w
theorem LL.alloc {w : World} {a : Option Addr} {n c : Nat} {q : Nat → Raw} {o : Obj} (h : LL w a n c q) : LL (w.alloc o) a n c q := ⟨lies_alloc h.out⟩
theorem LL.later {w w' : World} {a : Option Addr} {n c : Nat} {q : Nat → Raw} (hb : Below w.heap.size w w') (h : LL w a n c q) : LL w' a n c q := ⟨lies_later hb h.out⟩
theorem LL.drew {w : World} {a : Option Addr} {n c : Nat} {q : Nat → Raw} (h : LL w a n c q) : LL w.drew a n c q := ⟨lies_drew h.out⟩
theorem eq_pp' (x y : Atom) (a b : Option Addr) (n c c' : Nat) (q : Nat → Raw) (hn : n ≤ 40) (w : World) (g g' : Nat) (h : Blk w g 20 #[.iface 29 (.slice a n c), x.val]) (h' : Blk w g' 20 #[.iface 29 (.slice b n c'), y.val])
    (hl : LL w a n c q) (hl' : LL w b n c' q) :
    Calls Tryd.prog 25 #[.iface 29 (.slice (some ⟨g, 0, none⟩) 2 2), .iface 29 (.slice (some ⟨g', 0, none⟩) 2 2)] w fun e w' => e = .returned (.bool (allV q n && sameA x y)) ∧ Below w.heap.size w w' :=
  eq_pp x y a b n c c' q hn w g g' h h' hl.out hl'.out

/-- What holds at each round's head of ValEquals. -/
def FineRel (q : Nat → Raw) (n : Nat) (W : World) (fine i : Value) (wr : World) : Prop :=
  ∃ k : Nat, k ≤ n ∧ i = .int .i64 k ∧ fine = .bool (allV q k) ∧ Below W.heap.size W wr
end Go.Proofs.YtboagdmjibdlhaaDoor
