/- Contracts of the law's made, kind, same and list. -/
import Derived.Test.YtonnbckjlfadcaaDoorValL
namespace Go.Proofs.YtonnbckjlfadcaaDoor
open Go.RowKit

/-- A value in parts. -/
structure Raw where
  k : Int
  n : Int
  s : ByteArray
  r : Int
def Raw.cs (x : Raw) : Array Value := #[.int .i64 x.k, .int .i64 x.n, .string x.s, .int .i32 x.r]
def Raw.val (x : Raw) : Value := .agg x.cs
def Raw.obj (x : Raw) : Obj := .cells x.cs 23
def Raw.atom (x : Raw) : Atom :=
  if x.k = 1 then .num x.n else if x.k = 2 then .txt x.s else if x.k = 3 then .sgn x.r else if x.k = 4 then .flt (.float .f64 (floatOfInt .f64 x.n)) else .nil
def Raw.kind (x : Raw) : Int := if 1 ≤ x.k ∧ x.k ≤ 3 then x.k else 0

theorem made_eq (x : Raw) (w : World) : Calls Tryd.prog 9 #[x.val] w fun e w' => e = .returned x.atom.val ∧ w' = w.alloc x.obj := by
  obtain ⟨k, n, s, r⟩ := x
  simp only [Raw.val, Raw.cs, Raw.obj, Raw.atom]
  by_cases h1 : k = 1
  · subst h1
    simp only [if_true, Atom.val]
    go_enter Tryd.func9, Tryd.ntmps9
    go_wp2
    go_ret
    exact ⟨rfl, rfl⟩
  · by_cases h2 : k = 2
    · subst h2
      simp only [if_true, if_neg (show ¬(2 : Int) = 1 by decide), Atom.val]
      go_enter Tryd.func9, Tryd.ntmps9
      go_wp2
      go_ret
      exact ⟨rfl, rfl⟩
    · by_cases h3 : k = 3
      · subst h3
        simp only [if_true, if_neg (show ¬(3 : Int) = 1 by decide), if_neg (show ¬(3 : Int) = 2 by decide), Atom.val]
        go_enter Tryd.func9, Tryd.ntmps9
        go_wp2
        go_ret
        exact ⟨rfl, rfl⟩
      · by_cases h4 : k = 4
        · subst h4
          simp only [if_true, if_neg (show ¬(4 : Int) = 1 by decide), if_neg (show ¬(4 : Int) = 2 by decide), if_neg (show ¬(4 : Int) = 3 by decide), Atom.val]
          go_enter Tryd.func9, Tryd.ntmps9
          go_wp2
          go_ret
          exact ⟨rfl, rfl⟩
        · simp only [if_neg h1, if_neg h2, if_neg h3, if_neg h4, Atom.val]
          have e1 : (k == 1) = false := beq_eq_false_iff_ne.2 h1
          have e2 : (k == 2) = false := beq_eq_false_iff_ne.2 h2
          have e3 : (k == 3) = false := beq_eq_false_iff_ne.2 h3
          have e4 : (k == 4) = false := beq_eq_false_iff_ne.2 h4
          clear h1 h2 h3 h4
          go_enter Tryd.func9, Tryd.ntmps9
          go_wp2
          go_ret
          exact ⟨rfl, rfl⟩

theorem made_any (x : Raw) (w : World) : Calls Tryd.prog 9 #[x.val] w fun e w' => e = .returned x.atom.val ∧ Below w.heap.size w w' :=
  (made_eq x w).mono fun _ _ ⟨he, hw⟩ => ⟨he, hw ▸ (Below.refl _ _).alloc (Nat.le_refl _) _⟩

theorem kind_any (x : Raw) (w : World) : Calls Tryd.prog 14 #[x.val] w fun e w' => e = .returned (.int .i64 x.kind) ∧ Below w.heap.size w w' := by
  obtain ⟨k, n, s, r⟩ := x
  simp only [Raw.val, Raw.cs, Raw.kind]
  by_cases h1 : 1 ≤ k
  · by_cases h3 : k ≤ 3
    · rw [if_pos ⟨h1, h3⟩]
      go_enter Tryd.func14, Tryd.ntmps14
      go_wp2
      go_ret
      exact ⟨rfl, (Below.refl _ _).alloc (Nat.le_refl _) _⟩
    · rw [if_neg (fun h => h3 h.2)]
      have e : decide (k ≤ 3) = false := decide_eq_false h3
      go_enter Tryd.func14, Tryd.ntmps14
      go_wp2
      go_ret
      exact ⟨rfl, (Below.refl _ _).alloc (Nat.le_refl _) _⟩
  · rw [if_neg (fun h => h1 h.1)]
    have e : decide (1 ≤ k) = false := decide_eq_false h1
    go_enter Tryd.func14, Tryd.ntmps14
    go_wp2
    go_ret
    exact ⟨rfl, (Below.refl _ _).alloc (Nat.le_refl _) _⟩

theorem Raw.kind_atom (x y : Raw) (h : x.kind ≠ y.kind) : sameA x.atom y.atom = false := by
  obtain ⟨k, n, s, r⟩ := x
  obtain ⟨k', n', s', r'⟩ := y
  simp only [Raw.kind, Raw.atom] at h ⊢
  by_cases a1 : k = 1 <;> by_cases a2 : k = 2 <;> by_cases a3 : k = 3 <;> by_cases a4 : k = 4 <;> by_cases b1 : k' = 1 <;> by_cases b2 : k' = 2 <;> by_cases b3 : k' = 3 <;> by_cases b4 : k' = 4 <;> simp_all [sameA]

theorem bl_drew {B : Nat} {W w : World} (h : Below B W.drew w) : Below B W w := ⟨h.os, h.tape, h.output, h.size, h.block⟩

/-- The four kinds. -/
theorem Raw.kinds (x : Raw) : (x.kind = 1 ∧ x.atom = .num x.n) ∨ (x.kind = 2 ∧ x.atom = .txt x.s) ∨ (x.kind = 3 ∧ x.atom = .sgn x.r) ∨ (x.kind = 0 ∧ ∀ a, sameA x.atom a = false) := by
  obtain ⟨k, n, s, r⟩ := x
  simp only [Raw.kind, Raw.atom]
  by_cases a1 : k = 1
  · subst a1; exact .inl ⟨by simp, by simp⟩
  · by_cases a2 : k = 2
    · subst a2; exact .inr (.inl ⟨by simp, by simp⟩)
    · by_cases a3 : k = 3
      · subst a3; exact .inr (.inr (.inl ⟨by simp, by simp⟩))
      · refine .inr (.inr (.inr ⟨if_neg (by omega), fun a => ?_⟩))
        by_cases a4 : k = 4
        · subst a4; cases a <;> simp [sameA]
        · simp only [if_neg a1, if_neg a2, if_neg a3, if_neg a4]; cases a <;> simp [sameA]

section
variable (x y : Raw) (w : World)
set_option maxHeartbeats 1000000
theorem lsame_ne (hk : x.kind ≠ y.kind) : Calls Tryd.prog 20 #[x.val, y.val] w fun e w' => e = .returned (.bool false) ∧ Below w.heap.size w w' := by
    have K1 := Lib.hid (kind_any x)
    have K2 := Lib.hid (kind_any y)
    have e1 : (x.kind != y.kind) = true := by simp [bne, hk]
    clear hk
    generalize x.kind = kx at *
    generalize y.kind = ky at *
    obtain ⟨k, n, s, r⟩ := x
    obtain ⟨k', n', s', r'⟩ := y
    simp only [Raw.val, Raw.cs] at K1 K2 ⊢
    go_enter Tryd.func20, Tryd.ntmps20
    go_wp2_with fail
    have B0 : Below w.heap.size w ((w.alloc (.cells #[.int .i64 k, .int .i64 n, .string s, .int .i32 r] 23)).alloc (.cells #[.int .i64 k', .int .i64 n', .string s', .int .i32 r'] 23)) := ((Below.refl _ _).alloc (Nat.le_refl _) _).alloc (by simp) _
    have kx1 := (Blk.new w 23 #[.int .i64 k, .int .i64 n, .string s, .int .i32 r]).alloc (.cells #[.int .i64 k', .int .i64 n', .string s', .int .i32 r'] 23)
    have ky1 := Blk.new (w.alloc (.cells #[.int .i64 k, .int .i64 n, .string s, .int .i32 r] 23)) 23 #[.int .i64 k', .int .i64 n', .string s', .int .i32 r']
    simp at ky1
    generalize (w.alloc (.cells #[.int .i64 k, .int .i64 n, .string s, .int .i32 r] 23)).alloc (.cells #[.int .i64 k', .int .i64 n', .string s', .int .i32 r'] 23) = W at *
    have c0 := kx1.cell 0; have c1 := kx1.cell 1; have c2 := kx1.cell 2; have c3 := kx1.cell 3
    have d0 := ky1.cell 0; have d1 := ky1.cell 1; have d2 := ky1.cell 2; have d3 := ky1.cell 3
    simp at c0 c1 c2 c3 d0 d1 d2 d3
    have HB := Lib.hid B0
    have HA := Lib.hid B0.size
    clear B0 kx1 ky1
    generalize hA : w.heap.size = A at *
    generalize hB : A + 1 = B at *
    go_region_held3 (fun w' => w'.cell? ⟨A, 0, none⟩ = some (.int .i64 k) ∧ w'.cell? ⟨A, 1, none⟩ = some (.int .i64 n) ∧ w'.cell? ⟨A, 2, none⟩ = some (.string s) ∧ w'.cell? ⟨A, 3, none⟩ = some (.int .i32 r) ∧ w'.cell? ⟨B, 0, none⟩ = some (.int .i64 k') ∧ w'.cell? ⟨B, 1, none⟩ = some (.int .i64 n') ∧ w'.cell? ⟨B, 2, none⟩ = some (.string s') ∧ w'.cell? ⟨B, 3, none⟩ = some (.int .i32 r'))
      (first | (go_keep; done) | assumption | exact (And.imp (cell_later hb1) (And.imp (cell_later hb1) (And.imp (cell_later hb1) (And.imp (cell_later hb1) (And.imp (cell_later hb1) (And.imp (cell_later hb1) (And.imp (cell_later hb1) (cell_later hb1)))))))) (by assumption) | exact (And.imp (cell_later hb2) (And.imp (cell_later hb2) (And.imp (cell_later hb2) (And.imp (cell_later hb2) (And.imp (cell_later hb2) (And.imp (cell_later hb2) (And.imp (cell_later hb2) (cell_later hb2)))))))) (by assumption))
      (first | ((with_reducible refine (K1.out _).mono ?_); rintro e w1 ⟨rfl, hb1⟩) | ((with_reducible refine (K2.out _).mono ?_); rintro e w2 ⟨rfl, hb2⟩))
    all_goals go_wp2_with fail
    go_ret
    exact ⟨rfl, by rw [hA]; exact (HB.out.trans ((bl_drew hb1).mono HA.out)).trans (hb2.mono (Nat.le_trans HA.out hb1.size))⟩

theorem lsame_1 (h1 : x.kind = 1) (h2 : y.kind = 1) : Calls Tryd.prog 20 #[x.val, y.val] w fun e w' => e = .returned (.bool (x.n == y.n)) ∧ Below w.heap.size w w' := by
    have K1 := Lib.hid (kind_any x)
    have K2 := Lib.hid (kind_any y)
    rw [h1] at K1
    rw [h2] at K2
    clear h1 h2
    obtain ⟨k, n, s, r⟩ := x
    obtain ⟨k', n', s', r'⟩ := y
    simp only [Raw.val, Raw.cs] at K1 K2 ⊢
    go_enter Tryd.func20, Tryd.ntmps20
    go_wp2_with fail
    have B0 : Below w.heap.size w ((w.alloc (.cells #[.int .i64 k, .int .i64 n, .string s, .int .i32 r] 23)).alloc (.cells #[.int .i64 k', .int .i64 n', .string s', .int .i32 r'] 23)) := ((Below.refl _ _).alloc (Nat.le_refl _) _).alloc (by simp) _
    have kx1 := (Blk.new w 23 #[.int .i64 k, .int .i64 n, .string s, .int .i32 r]).alloc (.cells #[.int .i64 k', .int .i64 n', .string s', .int .i32 r'] 23)
    have ky1 := Blk.new (w.alloc (.cells #[.int .i64 k, .int .i64 n, .string s, .int .i32 r] 23)) 23 #[.int .i64 k', .int .i64 n', .string s', .int .i32 r']
    simp at ky1
    generalize (w.alloc (.cells #[.int .i64 k, .int .i64 n, .string s, .int .i32 r] 23)).alloc (.cells #[.int .i64 k', .int .i64 n', .string s', .int .i32 r'] 23) = W at *
    have c0 := kx1.cell 0; have c1 := kx1.cell 1; have c2 := kx1.cell 2; have c3 := kx1.cell 3
    have d0 := ky1.cell 0; have d1 := ky1.cell 1; have d2 := ky1.cell 2; have d3 := ky1.cell 3
    simp at c0 c1 c2 c3 d0 d1 d2 d3
    have HB := Lib.hid B0
    have HA := Lib.hid B0.size
    clear B0 kx1 ky1
    generalize hA : w.heap.size = A at *
    generalize hB : A + 1 = B at *
    go_region_held3 (fun w' => w'.cell? ⟨A, 0, none⟩ = some (.int .i64 k) ∧ w'.cell? ⟨A, 1, none⟩ = some (.int .i64 n) ∧ w'.cell? ⟨A, 2, none⟩ = some (.string s) ∧ w'.cell? ⟨A, 3, none⟩ = some (.int .i32 r) ∧ w'.cell? ⟨B, 0, none⟩ = some (.int .i64 k') ∧ w'.cell? ⟨B, 1, none⟩ = some (.int .i64 n') ∧ w'.cell? ⟨B, 2, none⟩ = some (.string s') ∧ w'.cell? ⟨B, 3, none⟩ = some (.int .i32 r'))
      (first | (go_keep; done) | assumption | exact (And.imp (cell_later hb1) (And.imp (cell_later hb1) (And.imp (cell_later hb1) (And.imp (cell_later hb1) (And.imp (cell_later hb1) (And.imp (cell_later hb1) (And.imp (cell_later hb1) (cell_later hb1)))))))) (by assumption) | exact (And.imp (cell_later hb2) (And.imp (cell_later hb2) (And.imp (cell_later hb2) (And.imp (cell_later hb2) (And.imp (cell_later hb2) (And.imp (cell_later hb2) (And.imp (cell_later hb2) (cell_later hb2)))))))) (by assumption))
      (first | ((with_reducible refine (K1.out _).mono ?_); rintro e w1 ⟨rfl, hb1⟩) | ((with_reducible refine (K2.out _).mono ?_); rintro e w2 ⟨rfl, hb2⟩))
    all_goals go_wp2_with fail
    obtain ⟨c0, c1, c2, c3, d0, d1, d2, d3⟩ := (by assumption : w2.cell? ⟨A, 0, none⟩ = some (.int .i64 k) ∧ w2.cell? ⟨A, 1, none⟩ = some (.int .i64 n) ∧ w2.cell? ⟨A, 2, none⟩ = some (.string s) ∧ w2.cell? ⟨A, 3, none⟩ = some (.int .i32 r) ∧ w2.cell? ⟨B, 0, none⟩ = some (.int .i64 k') ∧ w2.cell? ⟨B, 1, none⟩ = some (.int .i64 n') ∧ w2.cell? ⟨B, 2, none⟩ = some (.string s') ∧ w2.cell? ⟨B, 3, none⟩ = some (.int .i32 r'))
    refine (K1.out _).mono ?_; rintro e w3 ⟨rfl, hb3⟩
    have e0 := cell_later hb3 c0; have e1 := cell_later hb3 c1; have e2 := cell_later hb3 c2; have e3 := cell_later hb3 c3
    have g0 := cell_later hb3 d0; have g1 := cell_later hb3 d1; have g2 := cell_later hb3 d2; have g3 := cell_later hb3 d3
    clear c0 c1 c2 c3 d0 d1 d2 d3
    go_wp2_with fail
    go_ret
    exact ⟨rfl, by rw [hA]; exact ((HB.out.trans ((bl_drew hb1).mono HA.out)).trans (hb2.mono (Nat.le_trans HA.out hb1.size))).trans (hb3.mono (Nat.le_trans HA.out (Nat.le_trans hb1.size hb2.size)))⟩

theorem lsame_2 (h1 : x.kind = 2) (h2 : y.kind = 2) : Calls Tryd.prog 20 #[x.val, y.val] w fun e w' => e = .returned (.bool (x.s.toList == y.s.toList)) ∧ Below w.heap.size w w' := by
    have K1 := Lib.hid (kind_any x)
    have K2 := Lib.hid (kind_any y)
    rw [h1] at K1
    rw [h2] at K2
    clear h1 h2
    obtain ⟨k, n, s, r⟩ := x
    obtain ⟨k', n', s', r'⟩ := y
    simp only [Raw.val, Raw.cs] at K1 K2 ⊢
    go_enter Tryd.func20, Tryd.ntmps20
    go_wp2_with fail
    have B0 : Below w.heap.size w ((w.alloc (.cells #[.int .i64 k, .int .i64 n, .string s, .int .i32 r] 23)).alloc (.cells #[.int .i64 k', .int .i64 n', .string s', .int .i32 r'] 23)) := ((Below.refl _ _).alloc (Nat.le_refl _) _).alloc (by simp) _
    have kx1 := (Blk.new w 23 #[.int .i64 k, .int .i64 n, .string s, .int .i32 r]).alloc (.cells #[.int .i64 k', .int .i64 n', .string s', .int .i32 r'] 23)
    have ky1 := Blk.new (w.alloc (.cells #[.int .i64 k, .int .i64 n, .string s, .int .i32 r] 23)) 23 #[.int .i64 k', .int .i64 n', .string s', .int .i32 r']
    simp at ky1
    generalize (w.alloc (.cells #[.int .i64 k, .int .i64 n, .string s, .int .i32 r] 23)).alloc (.cells #[.int .i64 k', .int .i64 n', .string s', .int .i32 r'] 23) = W at *
    have c0 := kx1.cell 0; have c1 := kx1.cell 1; have c2 := kx1.cell 2; have c3 := kx1.cell 3
    have d0 := ky1.cell 0; have d1 := ky1.cell 1; have d2 := ky1.cell 2; have d3 := ky1.cell 3
    simp at c0 c1 c2 c3 d0 d1 d2 d3
    have HB := Lib.hid B0
    have HA := Lib.hid B0.size
    clear B0 kx1 ky1
    generalize hA : w.heap.size = A at *
    generalize hB : A + 1 = B at *
    go_region_held3 (fun w' => w'.cell? ⟨A, 0, none⟩ = some (.int .i64 k) ∧ w'.cell? ⟨A, 1, none⟩ = some (.int .i64 n) ∧ w'.cell? ⟨A, 2, none⟩ = some (.string s) ∧ w'.cell? ⟨A, 3, none⟩ = some (.int .i32 r) ∧ w'.cell? ⟨B, 0, none⟩ = some (.int .i64 k') ∧ w'.cell? ⟨B, 1, none⟩ = some (.int .i64 n') ∧ w'.cell? ⟨B, 2, none⟩ = some (.string s') ∧ w'.cell? ⟨B, 3, none⟩ = some (.int .i32 r'))
      (first | (go_keep; done) | assumption | exact (And.imp (cell_later hb1) (And.imp (cell_later hb1) (And.imp (cell_later hb1) (And.imp (cell_later hb1) (And.imp (cell_later hb1) (And.imp (cell_later hb1) (And.imp (cell_later hb1) (cell_later hb1)))))))) (by assumption) | exact (And.imp (cell_later hb2) (And.imp (cell_later hb2) (And.imp (cell_later hb2) (And.imp (cell_later hb2) (And.imp (cell_later hb2) (And.imp (cell_later hb2) (And.imp (cell_later hb2) (cell_later hb2)))))))) (by assumption))
      (first | ((with_reducible refine (K1.out _).mono ?_); rintro e w1 ⟨rfl, hb1⟩) | ((with_reducible refine (K2.out _).mono ?_); rintro e w2 ⟨rfl, hb2⟩))
    all_goals go_wp2_with fail
    obtain ⟨c0, c1, c2, c3, d0, d1, d2, d3⟩ := (by assumption : w2.cell? ⟨A, 0, none⟩ = some (.int .i64 k) ∧ w2.cell? ⟨A, 1, none⟩ = some (.int .i64 n) ∧ w2.cell? ⟨A, 2, none⟩ = some (.string s) ∧ w2.cell? ⟨A, 3, none⟩ = some (.int .i32 r) ∧ w2.cell? ⟨B, 0, none⟩ = some (.int .i64 k') ∧ w2.cell? ⟨B, 1, none⟩ = some (.int .i64 n') ∧ w2.cell? ⟨B, 2, none⟩ = some (.string s') ∧ w2.cell? ⟨B, 3, none⟩ = some (.int .i32 r'))
    refine (K1.out _).mono ?_; rintro e w3 ⟨rfl, hb3⟩
    have e0 := cell_later hb3 c0; have e1 := cell_later hb3 c1; have e2 := cell_later hb3 c2; have e3 := cell_later hb3 c3
    have g0 := cell_later hb3 d0; have g1 := cell_later hb3 d1; have g2 := cell_later hb3 d2; have g3 := cell_later hb3 d3
    clear c0 c1 c2 c3 d0 d1 d2 d3
    go_wp2_with fail
    go_ret
    exact ⟨rfl, by rw [hA]; exact ((HB.out.trans ((bl_drew hb1).mono HA.out)).trans (hb2.mono (Nat.le_trans HA.out hb1.size))).trans (hb3.mono (Nat.le_trans HA.out (Nat.le_trans hb1.size hb2.size)))⟩

theorem lsame_3 (h1 : x.kind = 3) (h2 : y.kind = 3) : Calls Tryd.prog 20 #[x.val, y.val] w fun e w' => e = .returned (.bool (x.r == y.r)) ∧ Below w.heap.size w w' := by
    have K1 := Lib.hid (kind_any x)
    have K2 := Lib.hid (kind_any y)
    rw [h1] at K1
    rw [h2] at K2
    clear h1 h2
    obtain ⟨k, n, s, r⟩ := x
    obtain ⟨k', n', s', r'⟩ := y
    simp only [Raw.val, Raw.cs] at K1 K2 ⊢
    go_enter Tryd.func20, Tryd.ntmps20
    go_wp2_with fail
    have B0 : Below w.heap.size w ((w.alloc (.cells #[.int .i64 k, .int .i64 n, .string s, .int .i32 r] 23)).alloc (.cells #[.int .i64 k', .int .i64 n', .string s', .int .i32 r'] 23)) := ((Below.refl _ _).alloc (Nat.le_refl _) _).alloc (by simp) _
    have kx1 := (Blk.new w 23 #[.int .i64 k, .int .i64 n, .string s, .int .i32 r]).alloc (.cells #[.int .i64 k', .int .i64 n', .string s', .int .i32 r'] 23)
    have ky1 := Blk.new (w.alloc (.cells #[.int .i64 k, .int .i64 n, .string s, .int .i32 r] 23)) 23 #[.int .i64 k', .int .i64 n', .string s', .int .i32 r']
    simp at ky1
    generalize (w.alloc (.cells #[.int .i64 k, .int .i64 n, .string s, .int .i32 r] 23)).alloc (.cells #[.int .i64 k', .int .i64 n', .string s', .int .i32 r'] 23) = W at *
    have c0 := kx1.cell 0; have c1 := kx1.cell 1; have c2 := kx1.cell 2; have c3 := kx1.cell 3
    have d0 := ky1.cell 0; have d1 := ky1.cell 1; have d2 := ky1.cell 2; have d3 := ky1.cell 3
    simp at c0 c1 c2 c3 d0 d1 d2 d3
    have HB := Lib.hid B0
    have HA := Lib.hid B0.size
    clear B0 kx1 ky1
    generalize hA : w.heap.size = A at *
    generalize hB : A + 1 = B at *
    go_region_held3 (fun w' => w'.cell? ⟨A, 0, none⟩ = some (.int .i64 k) ∧ w'.cell? ⟨A, 1, none⟩ = some (.int .i64 n) ∧ w'.cell? ⟨A, 2, none⟩ = some (.string s) ∧ w'.cell? ⟨A, 3, none⟩ = some (.int .i32 r) ∧ w'.cell? ⟨B, 0, none⟩ = some (.int .i64 k') ∧ w'.cell? ⟨B, 1, none⟩ = some (.int .i64 n') ∧ w'.cell? ⟨B, 2, none⟩ = some (.string s') ∧ w'.cell? ⟨B, 3, none⟩ = some (.int .i32 r'))
      (first | (go_keep; done) | assumption | exact (And.imp (cell_later hb1) (And.imp (cell_later hb1) (And.imp (cell_later hb1) (And.imp (cell_later hb1) (And.imp (cell_later hb1) (And.imp (cell_later hb1) (And.imp (cell_later hb1) (cell_later hb1)))))))) (by assumption) | exact (And.imp (cell_later hb2) (And.imp (cell_later hb2) (And.imp (cell_later hb2) (And.imp (cell_later hb2) (And.imp (cell_later hb2) (And.imp (cell_later hb2) (And.imp (cell_later hb2) (cell_later hb2)))))))) (by assumption))
      (first | ((with_reducible refine (K1.out _).mono ?_); rintro e w1 ⟨rfl, hb1⟩) | ((with_reducible refine (K2.out _).mono ?_); rintro e w2 ⟨rfl, hb2⟩))
    all_goals go_wp2_with fail
    obtain ⟨c0, c1, c2, c3, d0, d1, d2, d3⟩ := (by assumption : w2.cell? ⟨A, 0, none⟩ = some (.int .i64 k) ∧ w2.cell? ⟨A, 1, none⟩ = some (.int .i64 n) ∧ w2.cell? ⟨A, 2, none⟩ = some (.string s) ∧ w2.cell? ⟨A, 3, none⟩ = some (.int .i32 r) ∧ w2.cell? ⟨B, 0, none⟩ = some (.int .i64 k') ∧ w2.cell? ⟨B, 1, none⟩ = some (.int .i64 n') ∧ w2.cell? ⟨B, 2, none⟩ = some (.string s') ∧ w2.cell? ⟨B, 3, none⟩ = some (.int .i32 r'))
    refine (K1.out _).mono ?_; rintro e w3 ⟨rfl, hb3⟩
    have e0 := cell_later hb3 c0; have e1 := cell_later hb3 c1; have e2 := cell_later hb3 c2; have e3 := cell_later hb3 c3
    have g0 := cell_later hb3 d0; have g1 := cell_later hb3 d1; have g2 := cell_later hb3 d2; have g3 := cell_later hb3 d3
    clear c0 c1 c2 c3 d0 d1 d2 d3
    go_wp2_with fail
    go_ret
    exact ⟨rfl, by rw [hA]; exact ((HB.out.trans ((bl_drew hb1).mono HA.out)).trans (hb2.mono (Nat.le_trans HA.out hb1.size))).trans (hb3.mono (Nat.le_trans HA.out (Nat.le_trans hb1.size hb2.size)))⟩

theorem lsame_0 (h1 : x.kind = 0) (h2 : y.kind = 0) : Calls Tryd.prog 20 #[x.val, y.val] w fun e w' => e = .returned (.bool (false)) ∧ Below w.heap.size w w' := by
    have K1 := Lib.hid (kind_any x)
    have K2 := Lib.hid (kind_any y)
    rw [h1] at K1
    rw [h2] at K2
    clear h1 h2
    obtain ⟨k, n, s, r⟩ := x
    obtain ⟨k', n', s', r'⟩ := y
    simp only [Raw.val, Raw.cs] at K1 K2 ⊢
    go_enter Tryd.func20, Tryd.ntmps20
    go_wp2_with fail
    have B0 : Below w.heap.size w ((w.alloc (.cells #[.int .i64 k, .int .i64 n, .string s, .int .i32 r] 23)).alloc (.cells #[.int .i64 k', .int .i64 n', .string s', .int .i32 r'] 23)) := ((Below.refl _ _).alloc (Nat.le_refl _) _).alloc (by simp) _
    have kx1 := (Blk.new w 23 #[.int .i64 k, .int .i64 n, .string s, .int .i32 r]).alloc (.cells #[.int .i64 k', .int .i64 n', .string s', .int .i32 r'] 23)
    have ky1 := Blk.new (w.alloc (.cells #[.int .i64 k, .int .i64 n, .string s, .int .i32 r] 23)) 23 #[.int .i64 k', .int .i64 n', .string s', .int .i32 r']
    simp at ky1
    generalize (w.alloc (.cells #[.int .i64 k, .int .i64 n, .string s, .int .i32 r] 23)).alloc (.cells #[.int .i64 k', .int .i64 n', .string s', .int .i32 r'] 23) = W at *
    have c0 := kx1.cell 0; have c1 := kx1.cell 1; have c2 := kx1.cell 2; have c3 := kx1.cell 3
    have d0 := ky1.cell 0; have d1 := ky1.cell 1; have d2 := ky1.cell 2; have d3 := ky1.cell 3
    simp at c0 c1 c2 c3 d0 d1 d2 d3
    have HB := Lib.hid B0
    have HA := Lib.hid B0.size
    clear B0 kx1 ky1
    generalize hA : w.heap.size = A at *
    generalize hB : A + 1 = B at *
    go_region_held3 (fun w' => w'.cell? ⟨A, 0, none⟩ = some (.int .i64 k) ∧ w'.cell? ⟨A, 1, none⟩ = some (.int .i64 n) ∧ w'.cell? ⟨A, 2, none⟩ = some (.string s) ∧ w'.cell? ⟨A, 3, none⟩ = some (.int .i32 r) ∧ w'.cell? ⟨B, 0, none⟩ = some (.int .i64 k') ∧ w'.cell? ⟨B, 1, none⟩ = some (.int .i64 n') ∧ w'.cell? ⟨B, 2, none⟩ = some (.string s') ∧ w'.cell? ⟨B, 3, none⟩ = some (.int .i32 r'))
      (first | (go_keep; done) | assumption | exact (And.imp (cell_later hb1) (And.imp (cell_later hb1) (And.imp (cell_later hb1) (And.imp (cell_later hb1) (And.imp (cell_later hb1) (And.imp (cell_later hb1) (And.imp (cell_later hb1) (cell_later hb1)))))))) (by assumption) | exact (And.imp (cell_later hb2) (And.imp (cell_later hb2) (And.imp (cell_later hb2) (And.imp (cell_later hb2) (And.imp (cell_later hb2) (And.imp (cell_later hb2) (And.imp (cell_later hb2) (cell_later hb2)))))))) (by assumption))
      (first | ((with_reducible refine (K1.out _).mono ?_); rintro e w1 ⟨rfl, hb1⟩) | ((with_reducible refine (K2.out _).mono ?_); rintro e w2 ⟨rfl, hb2⟩))
    all_goals go_wp2_with fail
    obtain ⟨c0, c1, c2, c3, d0, d1, d2, d3⟩ := (by assumption : w2.cell? ⟨A, 0, none⟩ = some (.int .i64 k) ∧ w2.cell? ⟨A, 1, none⟩ = some (.int .i64 n) ∧ w2.cell? ⟨A, 2, none⟩ = some (.string s) ∧ w2.cell? ⟨A, 3, none⟩ = some (.int .i32 r) ∧ w2.cell? ⟨B, 0, none⟩ = some (.int .i64 k') ∧ w2.cell? ⟨B, 1, none⟩ = some (.int .i64 n') ∧ w2.cell? ⟨B, 2, none⟩ = some (.string s') ∧ w2.cell? ⟨B, 3, none⟩ = some (.int .i32 r'))
    refine (K1.out _).mono ?_; rintro e w3 ⟨rfl, hb3⟩
    have e0 := cell_later hb3 c0; have e1 := cell_later hb3 c1; have e2 := cell_later hb3 c2; have e3 := cell_later hb3 c3
    have g0 := cell_later hb3 d0; have g1 := cell_later hb3 d1; have g2 := cell_later hb3 d2; have g3 := cell_later hb3 d3
    clear c0 c1 c2 c3 d0 d1 d2 d3
    go_wp2_with fail
    go_ret
    exact ⟨rfl, by rw [hA]; exact ((HB.out.trans ((bl_drew hb1).mono HA.out)).trans (hb2.mono (Nat.le_trans HA.out hb1.size))).trans (hb3.mono (Nat.le_trans HA.out (Nat.le_trans hb1.size hb2.size)))⟩

end

theorem lsame_any (x y : Raw) (w : World) : Calls Tryd.prog 20 #[x.val, y.val] w fun e w' => e = .returned (.bool (sameA x.atom y.atom)) ∧ Below w.heap.size w w' := by
  by_cases hk : x.kind = y.kind
  · rcases x.kinds with ⟨h1, hx⟩ | ⟨h1, hx⟩ | ⟨h1, hx⟩ | ⟨h1, hx⟩
    · rcases y.kinds with ⟨h2, hy⟩ | ⟨h2, hy⟩ | ⟨h2, hy⟩ | ⟨h2, hy⟩ <;> try omega
      rw [hx, hy]; exact lsame_1 x y w h1 h2
    · rcases y.kinds with ⟨h2, hy⟩ | ⟨h2, hy⟩ | ⟨h2, hy⟩ | ⟨h2, hy⟩ <;> try omega
      rw [hx, hy]; exact lsame_2 x y w h1 h2
    · rcases y.kinds with ⟨h2, hy⟩ | ⟨h2, hy⟩ | ⟨h2, hy⟩ | ⟨h2, hy⟩ <;> try omega
      rw [hx, hy]; exact lsame_3 x y w h1 h2
    · rw [hx]; exact lsame_0 x y w h1 (by omega)
  · rw [Raw.kind_atom x y hk]
    exact lsame_ne x y w hk
end Go.Proofs.YtonnbckjlfadcaaDoor
