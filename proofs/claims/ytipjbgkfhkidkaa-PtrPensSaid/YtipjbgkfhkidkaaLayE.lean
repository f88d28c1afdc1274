/- Contracts of one cell, and of how many there are. -/
import Derived.Test.YtipjbgkfhkidkaaLayD
namespace Go.Proofs.Ytipjbgkfhkidkaa
open Go.RowKit

set_option maxRecDepth 100000

/-- How many cells each part has, and how many stand ahead of it. -/
def szF (V S T : Int) : Nat → Int
  | 0 => T
  | 1 => 1
  | 2 => S * 7
  | 3 => vn V
  | 4 => pr V
  | _ => nd V S * 7
def preF (V S T : Int) : Nat → Int
  | 0 => 0
  | k + 1 => preF V S T k + szF V S T k
theorem szF_bd {V S T : Int} (h : Rt V S T) (k : Nat) : 0 ≤ szF V S T k ∧ szF V S T k ≤ 3920 := by
  have hz := sizes h
  obtain ⟨_, _, h1, h2, h3, h4⟩ := h
  obtain ⟨_, _, z1, z2, _, _, _, z3, z4, _, _, z5, z6⟩ := hz
  unfold szF; split <;> omega
theorem preF_bd {V S T : Int} (h : Rt V S T) (k : Nat) : 0 ≤ preF V S T k ∧ preF V S T k ≤ 3920 * k := by
  induction k with
  | zero => simp [preF]
  | succ k ih => have := szF_bd h k; simp only [preF]; omega
theorem preF_1 (V S T : Int) : preF V S T 1 = T := by simp [preF, szF]
theorem preF_2 (V S T : Int) : preF V S T 2 = T + 1 := by simp [preF, szF]
theorem preF_3 (V S T : Int) : preF V S T 3 = o3 S T := by simp [preF, szF, o3]
theorem preF_4 (V S T : Int) : preF V S T 4 = o4 V S T := by simp [preF, szF, o4]
theorem preF_5 (V S T : Int) : preF V S T 5 = o5 V S T := by simp [preF, szF, o5]
theorem preF_6 (V S T : Int) : preF V S T 6 = cn V S T := by simp [preF, szF, cn]

theorem sz_cells {V S T : Int} {w : World} {k : Nat} (hk : k < 6) : (w.alloc (.cells #[.int .i64 T, .int .i64 1, .int .i64 (S * 7), .int .i64 (vn V), .int .i64 (pr V), .int .i64 (nd V S * 7)] 101)).cell? ⟨w.heap.size, k, none⟩ = some (.int .i64 (szF V S T k)) := by
  have : k = 0 ∨ k = 1 ∨ k = 2 ∨ k = 3 ∨ k = 4 ∨ k = 5 := by omega
  rcases this with rfl | rfl | rfl | rfl | rfl | rfl <;> simp [szF, go_sem]

set_option maxHeartbeats 2000000 in
theorem cell_no (V S T : Int) (h : Rt V S T) (p : Nat) (hp : p ≤ 5) (x : Int) (hx : x < 0 ∨ szF V S T p ≤ x) (w : World) :
    Calls Try.prog 47 #[vL V S T, .int .i64 (p : Int), .int .i64 x] w fun e w' => e = .returned (.int .i64 (-1)) ∧ Below w.heap.size w w' := by
  by_cases h0 : x < 0
  · clear hx
    go_enter Try.func47, Try.ntmps47
    go_wp2_with fail
    refine (sizes_yes V S T h _).mono ?_; rintro e w1 ⟨rfl, hb1⟩
    go_wp2_with fail
    go_ret
    exact ⟨rfl, (keepL ((Below.refl _ _).alloc (Nat.le_refl _) _) hb1).alloc (by have := hb1.size; simp at this; omega) _⟩
  · have h1 : szF V S T p ≤ x := by omega
    clear hx
    have i0 : (0 : Int) ≤ (p : Int) := Int.natCast_nonneg _
    have i1 : (p : Int) < 6 := by omega
    go_enter Try.func47, Try.ntmps47
    go_wp2_with fail
    refine (sizes_yes V S T h _).mono ?_; rintro e w1 ⟨rfl, hb1⟩
    have hc := sz_cells (V := V) (S := S) (T := T) (w := w1) (k := p) (by omega)
    go_wp2_with fail
    go_ret
    exact ⟨rfl, (keepL ((Below.refl _ _).alloc (Nat.le_refl _) _) hb1).alloc (by have := hb1.size; simp at this; omega) _⟩

set_option maxHeartbeats 2000000 in
theorem cell_yes (V S T : Int) (h : Rt V S T) (p : Nat) (hp : p ≤ 5) (x : Int) (h0 : 0 ≤ x) (h1 : x < szF V S T p) (w : World) :
    Calls Try.prog 47 #[vL V S T, .int .i64 (p : Int), .int .i64 x] w fun e w' => e = .returned (.int .i64 (x + preF V S T p)) ∧ Below w.heap.size w w' := by
  have i0 : (0 : Int) ≤ (p : Int) := Int.natCast_nonneg _
  have i1 : (p : Int) < 6 := by omega
  have i2 : (p : Int) ≤ 6 := by omega
  have x2 : x ≤ 3920 := by have := szF_bd h p; omega
  go_enter Try.func47, Try.ntmps47
  go_wp2_with fail
  refine (sizes_yes V S T h _).mono ?_; rintro e w1 ⟨rfl, hb1⟩
  have HC : Hid (∀ k, k < 6 → (w1.alloc (.cells #[.int .i64 T, .int .i64 1, .int .i64 (S * 7), .int .i64 (vn V), .int .i64 (pr V), .int .i64 (nd V S * 7)] 101)).cell? ⟨w1.heap.size, k, none⟩ = some (.int .i64 (szF V S T k))) := Lib.hid fun k hk => sz_cells hk
  have hc := HC.out p (by omega)
  go_wp2_with fail
  clear hc h1
  go_loop [2, 24] (fun at_ i => ∃ k : Nat, k ≤ p ∧ i = .int .i64 k ∧ at_ = .int .i64 (x + preF V S T k)) (fun _ i => p - (intOf i).toNat)
  case atStart => exact ⟨0, Nat.zero_le _, rfl, by simp [preF]⟩
  case round =>
    obtain ⟨k, hk, rfl, rfl⟩ := hrel
    have q := preF_bd h k
    have q1 : 0 ≤ preF V S T k := q.1
    have q2 : preF V S T k ≤ 23520 := by omega
    clear q
    by_cases hlt : k < p
    · have hc := HC.out k (by omega)
      have s1 := (szF_bd h k).1
      have s2 := (szF_bd h k).2
      go_wp2_with fail
      go_round
      case rel => exact ⟨k + 1, by omega, by go_num, by simp only [preF]; go_num⟩
      case measure => simp [intOf]; omega
    · have : k = p := by omega
      subst this
      go_wp2_with fail
      go_ret
      exact ⟨rfl, (keepL ((Below.refl _ _).alloc (Nat.le_refl _) _) hb1).alloc (by have := hb1.size; simp at this; omega) _⟩

theorem cell_any (V S T : Int) (h : Rt V S T) (p : Nat) (hp : p ≤ 5) (x : Int) (w : World) :
    Calls Try.prog 47 #[vL V S T, .int .i64 (p : Int), .int .i64 x] w fun e w' => e = .returned (.int .i64 (cl (szF V S T p) (preF V S T p) x)) ∧ Below w.heap.size w w' := by
  by_cases hx : x < 0 ∨ szF V S T p ≤ x
  · rw [cl_no hx]; exact cell_no V S T h p hp x hx w
  · rw [cl_yes (by omega) (by omega)]; exact cell_yes V S T h p hp x (by omega) (by omega) w

theorem run_sizes (V S T : Int) {k : Nat} (hk : k < 6) (W : World) : (Instr.index 101 (vZ V S T) (.int .i64 (k : Int))).run Try.prog W = .ok (.int .i64 (szF V S T k)) W := by
  have hc : k = 0 ∨ k = 1 ∨ k = 2 ∨ k = 3 ∨ k = 4 ∨ k = 5 := by omega
  rcases hc with rfl | rfl | rfl | rfl | rfl | rfl <;> rfl
set_option maxHeartbeats 2000000 in
theorem cells_yes (V S T : Int) (h : Rt V S T) (w : World) :
    Calls Try.prog 36 #[vL V S T] w fun e w' => e = .returned (.int .i64 (cn V S T)) ∧ Below w.heap.size w w' := by
  go_enter Try.func36, Try.ntmps36
  go_wp2_with fail
  refine (sizes_yes V S T h _).mono ?_; rintro e w1 ⟨rfl, hb1⟩
  go_wp2_with fail
  go_loop [3, 8] (fun s i => ∃ k : Nat, k ≤ 6 ∧ i = .int .i64 k ∧ s = .int .i64 (preF V S T k)) (fun _ i => 6 - (intOf i).toNat)
  case atStart => exact ⟨0, Nat.zero_le _, rfl, rfl⟩
  case round =>
    obtain ⟨k, hk, rfl, rfl⟩ := hrel
    have q1 : 0 ≤ preF V S T k := (preF_bd h k).1
    have q2 : preF V S T k ≤ 23520 := by have := (preF_bd h k).2; omega
    by_cases hlt : k < 6
    · have s1 := (szF_bd h k).1
      have s2 := (szF_bd h k).2
      have hi := fun W => run_sizes V S T hlt W
      go_wp2_with fail
      go_round
      case rel => exact ⟨k + 1, by omega, by go_num, by simp only [preF]⟩
      case measure => simp [intOf]; omega
    · have : k = 6 := by omega
      subst this
      go_wp2_with fail
      go_ret
      exact ⟨retL_int (preF_6 V S T), keepL ((Below.refl _ _).alloc (Nat.le_refl _) _) hb1⟩
end Go.Proofs.Ytipjbgkfhkidkaa
