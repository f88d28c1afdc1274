/- When lists of values are one; Equal of values that are no lists, and of lists of such. -/
import Derived.Test.YtboagdmjibdlhaaDoorValO
namespace Go.Proofs.YtboagdmjibdlhaaDoor
set_option maxRecDepth 100000
open Go.RowKit

theorem sameA_comm (a b : Atom) : sameA a b = sameA b a := by
  cases a <;> cases b <;> simp [sameA, Bool.beq_comm]

theorem sameE_comm : ∀ (l r : List Ev), sameE l r = sameE r l
  | [], [] => rfl
  | [], b :: r => by cases b <;> simp [sameE]
  | a :: l, [] => by cases a <;> simp [sameE]
  | a :: l, b :: r => by
    have h := sameE_comm l r
    cases a <;> cases b <;> simp [sameE, h, sameA_comm]

theorem Raw.self (x : Raw) : sameA x.atom x.atom = (x.kind != 0) := by
  rcases x.kinds with ⟨h1, h2⟩ | ⟨h1, h2⟩ | ⟨h1, h2⟩ | ⟨h1, h2⟩
  · rw [h1, h2]; simp [sameA]
  · rw [h1, h2]; simp [sameA]
  · rw [h1, h2]; simp [sameA]
  · rw [h1, h2]; rfl

/-- Values that are no lists, one by one. -/
def onesEq : List Atom → List Atom → Bool
  | [], [] => true
  | a :: l, b :: r => sameA a b && onesEq l r
  | _, _ => false

theorem sameE_ones : ∀ (l l' : List Atom) (r r' : List Ev), sameE (l.map Ev.one ++ .cl :: r) (l'.map Ev.one ++ .cl :: r') = (onesEq l l' && sameE r r')
  | [], [], r, r' => by simp [sameE, onesEq]
  | [], b :: l', r, r' => by simp [sameE, onesEq]
  | a :: l, [], r, r' => by simp [sameE, onesEq]
  | a :: l, b :: l', r, r' => by
    have h := sameE_ones l l' r r'
    simp only [List.map_cons, List.cons_append, sameE, onesEq, h, Bool.and_assoc]

theorem onesEq_self : ∀ (l : List Atom), onesEq l l = l.all fun a => sameA a a
  | [] => rfl
  | a :: l => by simp only [onesEq, onesEq_self l, List.all_cons]
theorem onesEq_more : ∀ (l : List Atom) (x : Atom), onesEq l (l ++ [x]) = false
  | [], x => rfl
  | a :: l, x => by simp only [List.cons_append, onesEq, onesEq_more l x, Bool.and_false]

def atoms (q : Nat → Raw) (n : Nat) : List Atom := (List.range n).map fun i => (q i).atom
/-- Each of them is a value. -/
def allV (q : Nat → Raw) (n : Nat) : Bool := (List.range n).all fun i => (q i).kind != 0
theorem allV_succ (q : Nat → Raw) (n : Nat) : allV q (n + 1) = (allV q n && ((q n).kind != 0)) := by
  simp [allV, List.range_succ]
theorem onesEq_atoms (q : Nat → Raw) (n : Nat) : onesEq (atoms q n) (atoms q n) = allV q n := by
  rw [onesEq_self, atoms, allV, List.all_map]
  congr 1
  funext i
  exact (q i).self

theorem listT_evs (a : Option Addr) (n c : Nat) (q : Nat → Raw) : (listT a n c q).evs = .op :: ((atoms q n).map Ev.one ++ [.cl]) := by
  simp only [listT, Tr.evs, atoms, List.map_map, List.cons_append]
  congr 1
  congr 1
  induction (List.range n) with
  | nil => rfl
  | cons i l ih => simp [ih]
theorem listT_small (a : Option Addr) (n c : Nat) (q : Nat → Raw) (h : n ≤ 100) : (listT a n c q).evs.length ≤ 900000000 := by
  rw [listT_evs]
  simp [atoms]
  omega

theorem equal_one (a b : Atom) (w : World) : Calls Tryd.prog 25 #[a.val, b.val] w fun e w' => e = .returned (.bool (sameA a b)) ∧ Below w.heap.size w w' := by
  have h := equal_any (.one a) (.one b) w trivial trivial (by show 1 ≤ 900000000; decide) (by show 1 ≤ 900000000; decide)
  simp only [Tr.evs, sameE, Bool.and_true] at h
  exact h
theorem equal_one_list (a : Atom) (b : Option Addr) (n c : Nat) (xs : Nat → Tr) (w : World) (h : (Tr.lst b n c xs).Lies w) (hl : (Tr.lst b n c xs).evs.length ≤ 900000000) :
    Calls Tryd.prog 25 #[a.val, .iface 29 (.slice b n c)] w fun e w' => e = .returned (.bool false) ∧ Below w.heap.size w w' := by
  have h := equal_any (.one a) (.lst b n c xs) w trivial h (by show 1 ≤ 900000000; decide) hl
  simp only [Tr.evs, List.cons_append, sameE] at h
  exact h
theorem equal_list_one (a : Atom) (b : Option Addr) (n c : Nat) (xs : Nat → Tr) (w : World) (h : (Tr.lst b n c xs).Lies w) (hl : (Tr.lst b n c xs).evs.length ≤ 900000000) :
    Calls Tryd.prog 25 #[.iface 29 (.slice b n c), a.val] w fun e w' => e = .returned (.bool false) ∧ Below w.heap.size w w' := by
  have h := equal_any (.lst b n c xs) (.one a) w h trivial hl (by show 1 ≤ 900000000; decide)
  simp only [Tr.evs, List.cons_append, sameE] at h
  exact h
theorem equal_lists (a b : Option Addr) (n c n' c' : Nat) (q q' : Nat → Raw) (w : World) (h : (listT a n c q).Lies w) (h' : (listT b n' c' q').Lies w) (hn : n ≤ 100) (hn' : n' ≤ 100) :
    Calls Tryd.prog 25 #[.iface 29 (.slice a n c), .iface 29 (.slice b n' c')] w fun e w' => e = .returned (.bool (onesEq (atoms q n) (atoms q' n'))) ∧ Below w.heap.size w w' := by
  have h := equal_any (listT a n c q) (listT b n' c' q') w h h' (listT_small a n c q hn) (listT_small b n' c' q' hn')
  rw [listT_evs, listT_evs] at h
  simp only [sameE, sameE_ones, Bool.and_true] at h
  exact h
theorem onesEq_comm : ∀ (l r : List Atom), onesEq l r = onesEq r l
  | [], [] => rfl
  | [], _ :: _ => rfl
  | _ :: _, [] => rfl
  | a :: l, b :: r => by simp only [onesEq, onesEq_comm l r, sameA_comm a b]
theorem lies_drew {x : Tr} {w : World} (h : x.Lies w) : x.Lies w.drew := by
  have hk : Keeps w w.drew := fun _ _ k => Blk.drew k
  exact h.keep hk
end Go.Proofs.YtboagdmjibdlhaaDoor
