/- Contracts of the law's made, kind, same and list. -/
import Derived.Test.YtboagdmjibdlhaaDoorValL
namespace Go.Proofs.YtboagdmjibdlhaaDoor
set_option maxRecDepth 100000
open Go.RowKit

/-- A value in parts. -/
structure Raw where
  k : Int
  n : Int
  s : ByteArray
  r : Int
def Raw.cs (x : Raw) : Array Value := #[.int .i64 x.k, .int .i64 x.n, .string x.s, .int .i32 x.r]
def Raw.val (x : Raw) : Value := .agg x.cs
def Raw.obj (x : Raw) : Obj := .cells x.cs 23
def Raw.atom (x : Raw) : Atom :=
  if x.k = 1 then .num x.n else if x.k = 2 then .txt x.s else if x.k = 3 then .sgn x.r else if x.k = 4 then .flt (.float .f64 (floatOfInt .f64 x.n)) else .nil
def Raw.kind (x : Raw) : Int := if 1 ≤ x.k ∧ x.k ≤ 3 then x.k else 0

theorem made_eq (x : Raw) (w : World) : Calls Tryd.prog 14 #[x.val] w fun e w' => e = .returned x.atom.val ∧ w' = w.alloc x.obj := by
  obtain ⟨k, n, s, r⟩ := x
  simp only [Raw.val, Raw.cs, Raw.obj, Raw.atom]
  by_cases h1 : k = 1
  · subst h1
    simp only [if_true, Atom.val]
    go_enter Tryd.func14, Tryd.ntmps14
    go_wp2
    go_ret
    exact ⟨rfl, rfl⟩
  · by_cases h2 : k = 2
    · subst h2
      simp only [if_true, if_neg (show ¬(2 : Int) = 1 by decide), Atom.val]
      go_enter Tryd.func14, Tryd.ntmps14
      go_wp2
      go_ret
      exact ⟨rfl, rfl⟩
    · by_cases h3 : k = 3
      · subst h3
        simp only [if_true, if_neg (show ¬(3 : Int) = 1 by decide), if_neg (show ¬(3 : Int) = 2 by decide), Atom.val]
        go_enter Tryd.func14, Tryd.ntmps14
        go_wp2
        go_ret
        exact ⟨rfl, rfl⟩
      · by_cases h4 : k = 4
        · subst h4
          simp only [if_true, if_neg (show ¬(4 : Int) = 1 by decide), if_neg (show ¬(4 : Int) = 2 by decide), if_neg (show ¬(4 : Int) = 3 by decide), Atom.val]
          go_enter Tryd.func14, Tryd.ntmps14
          go_wp2
          go_ret
          exact ⟨rfl, rfl⟩
        · simp only [if_neg h1, if_neg h2, if_neg h3, if_neg h4, Atom.val]
          have e1 : (k == 1) = false := beq_eq_false_iff_ne.2 h1
          have e2 : (k == 2) = false := beq_eq_false_iff_ne.2 h2
          have e3 : (k == 3) = false := beq_eq_false_iff_ne.2 h3
          have e4 : (k == 4) = false := beq_eq_false_iff_ne.2 h4
          clear h1 h2 h3 h4
          go_enter Tryd.func14, Tryd.ntmps14
          go_wp2
          go_ret
          exact ⟨rfl, rfl⟩

theorem made_any (x : Raw) (w : World) : Calls Tryd.prog 14 #[x.val] w fun e w' => e = .returned x.atom.val ∧ Below w.heap.size w w' :=
  (made_eq x w).mono fun _ _ ⟨he, hw⟩ => ⟨he, hw ▸ (Below.refl _ _).alloc (Nat.le_refl _) _⟩

theorem kind_any (x : Raw) (w : World) : Calls Tryd.prog 30 #[x.val] w fun e w' => e = .returned (.int .i64 x.kind) ∧ Below w.heap.size w w' := by
  obtain ⟨k, n, s, r⟩ := x
  simp only [Raw.val, Raw.cs, Raw.kind]
  by_cases h1 : 1 ≤ k
  · by_cases h3 : k ≤ 3
    · rw [if_pos ⟨h1, h3⟩]
      go_enter Tryd.func30, Tryd.ntmps30
      go_wp2
      go_ret
      exact ⟨rfl, (Below.refl _ _).alloc (Nat.le_refl _) _⟩
    · rw [if_neg (fun h => h3 h.2)]
      have e : decide (k ≤ 3) = false := decide_eq_false h3
      go_enter Tryd.func30, Tryd.ntmps30
      go_wp2
      go_ret
      exact ⟨rfl, (Below.refl _ _).alloc (Nat.le_refl _) _⟩
  · rw [if_neg (fun h => h1 h.1)]
    have e : decide (1 ≤ k) = false := decide_eq_false h1
    go_enter Tryd.func30, Tryd.ntmps30
    go_wp2
    go_ret
    exact ⟨rfl, (Below.refl _ _).alloc (Nat.le_refl _) _⟩

theorem Raw.kind_atom (x y : Raw) (h : x.kind ≠ y.kind) : sameA x.atom y.atom = false := by
  obtain ⟨k, n, s, r⟩ := x
  obtain ⟨k', n', s', r'⟩ := y
  simp only [Raw.kind, Raw.atom] at h ⊢
  by_cases a1 : k = 1 <;> by_cases a2 : k = 2 <;> by_cases a3 : k = 3 <;> by_cases a4 : k = 4 <;> by_cases b1 : k' = 1 <;> by_cases b2 : k' = 2 <;> by_cases b3 : k' = 3 <;> by_cases b4 : k' = 4 <;> simp_all [sameA]

theorem bl_drew {B : Nat} {W w : World} (h : Below B W.drew w) : Below B W w := ⟨h.os, h.tape, h.output, h.size, h.block⟩

/-- The four kinds. -/
theorem Raw.kinds (x : Raw) : (x.kind = 1 ∧ x.atom = .num x.n) ∨ (x.kind = 2 ∧ x.atom = .txt x.s) ∨ (x.kind = 3 ∧ x.atom = .sgn x.r) ∨ (x.kind = 0 ∧ ∀ a, sameA x.atom a = false) := by
  obtain ⟨k, n, s, r⟩ := x
  simp only [Raw.kind, Raw.atom]
  by_cases a1 : k = 1
  · subst a1; exact .inl ⟨by simp, by simp⟩
  · by_cases a2 : k = 2
    · subst a2; exact .inr (.inl ⟨by simp, by simp⟩)
    · by_cases a3 : k = 3
      · subst a3; exact .inr (.inr (.inl ⟨by simp, by simp⟩))
      · refine .inr (.inr (.inr ⟨if_neg (by omega), fun a => ?_⟩))
        by_cases a4 : k = 4
        · subst a4; cases a <;> simp [sameA]
        · simp only [if_neg a1, if_neg a2, if_neg a3, if_neg a4]; cases a <;> simp [sameA]

section
variable (x y : Raw) (w : World)
set_option maxHeartbeats 1000000
end

end Go.Proofs.YtboagdmjibdlhaaDoor
