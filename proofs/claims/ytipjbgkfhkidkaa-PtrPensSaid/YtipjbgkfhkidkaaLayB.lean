/- Contracts of the small calls. -/
import Derived.Test.YtipjbgkfhkidkaaRows
import Derived.Test.YtipjbgkfhkidkaaMem
import Derived.Test.YtipjbgkfhkidkaaLayA
import Derived.ProofKit
import Derived.OpenShut
import Derived.WalkSpells
import Derived.WalkLawsBesides
import Derived.Below
import Derived.Lib.Hide
import Derived.BigQuiet
import Derived.Deep.QuietTactic
import Derived.Deep.RegionHeld3
namespace Go.Proofs.Ytipjbgkfhkidkaa
open Go.RowKit

theorem bcellL {W w1 : World} (hb : Below W.heap.size W w1) : (∀ b o, b < W.heap.size → w1.cell? ⟨b, o, none⟩ = W.cell? ⟨b, o, none⟩) ∧ (∀ b o, b < W.heap.size → w1.frozen? ⟨b, o, none⟩ = W.frozen? ⟨b, o, none⟩) :=
  ⟨fun b o h => hb.cell (p := ⟨b, o, none⟩) h, fun b o h => hb.frozen (p := ⟨b, o, none⟩) h⟩
theorem keepL {n : Nat} {W w1 w2 : World} (h : Below n W w1) (k : Below w1.heap.size w1 w2) (hn : n ≤ w1.heap.size := by first | assumption | omega | (simp; done) | (simp; omega)) : Below n W w2 :=
  h.trans (k.mono hn)

/-- A lay as a value. -/
abbrev vL (V S T : Int) : Value := .agg #[.int .i64 V, .int .i64 S, .int .i64 T]

theorem place_no (r R c C : Int) (h : r < 0 ∨ R ≤ r ∨ c < 0 ∨ C ≤ c) (w : World) :
    Calls Try.prog 49 #[.int .i64 r, .int .i64 R, .int .i64 c, .int .i64 C] w fun e w' => e = .returned (.int .i64 (-1)) ∧ w = w' := by
  by_cases h1 : r < 0
  · clear h
    go_enter Try.func49, Try.ntmps49
    go_wp2
    go_ret
    exact ⟨rfl, rfl⟩
  by_cases h2 : R ≤ r
  · clear h
    go_enter Try.func49, Try.ntmps49
    go_wp2
    go_ret
    exact ⟨rfl, rfl⟩
  by_cases h3 : c < 0
  · clear h
    go_enter Try.func49, Try.ntmps49
    go_wp2
    go_ret
    exact ⟨rfl, rfl⟩
  have h4 : C ≤ c := by omega
  clear h
  go_enter Try.func49, Try.ntmps49
  go_wp2
  go_ret
  exact ⟨rfl, rfl⟩

theorem place_any (r R c C : Int) (hR : R ≤ 600) (hC : C ≤ 600) (w : World) :
    Calls Try.prog 49 #[.int .i64 r, .int .i64 R, .int .i64 c, .int .i64 C] w fun e w' => e = .returned (.int .i64 (pl r R c C)) ∧ w = w' := by
  by_cases h : r < 0 ∨ R ≤ r ∨ c < 0 ∨ C ≤ c
  · rw [pl_no h]; exact place_no r R c C h w
  · have e := pl_yes (r := r) (R := R) (c := c) (C := C) (by omega) (by omega) (by omega) (by omega)
    rw [e]
    have b1 : 0 ≤ r * C := Int.mul_nonneg (by omega) (by omega)
    have b2 : r * C ≤ 599 * C := Int.mul_le_mul_of_nonneg_right (by omega) (by omega)
    have b3 : r * C ≤ 360000 := by omega
    have a1 : 0 ≤ r := by omega
    have a2 : r < R := by omega
    have a3 : 0 ≤ c := by omega
    have a4 : c < C := by omega
    clear h e b2
    go_enter Try.func49, Try.ntmps49
    go_wp2
    go_ret
    exact ⟨rfl, rfl⟩

set_option maxRecDepth 100000 in
theorem len64_small (n : Nat) (h1 : 1 ≤ n) (h2 : n ≤ 16) (w : World) :
    Calls Try.prog 66 #[.int .u64 (n : Int)] w fun e w' => e = .returned (.int .i64 (lv (n : Int))) ∧ w = w' := by
  have : n = 1 ∨ n = 2 ∨ n = 3 ∨ n = 4 ∨ n = 5 ∨ n = 6 ∨ n = 7 ∨ n = 8 ∨ n = 9 ∨ n = 10 ∨ n = 11 ∨ n = 12 ∨ n = 13 ∨ n = 14 ∨ n = 15 ∨ n = 16 := by omega
  clear h1 h2
  rcases this with h | h | h | h | h | h | h | h | h | h | h | h | h | h | h | h <;> subst h
  all_goals
    go_enter Try.func66, Try.ntmps66
    go_wp2
    go_ret
    exact ⟨by kernel_rfl, rfl⟩

theorem retL_bool {a b : Bool} (h : a = b) : Ending.returned (.bool a) = .returned (.bool b) := by rw [h]
theorem retL_int {k : IntKind} {a b : Int} (h : a = b) : Ending.returned (.int k a) = .returned (.int k b) := by rw [h]

theorem right_any (V S T : Int) (w : World) :
    Calls Try.prog 57 #[vL V S T] w fun e w' => e = .returned (.bool (rtB V S T)) ∧ Below w.heap.size w w' := by
  go_enter Try.func57, Try.ntmps57
  go_wp2
  all_goals (go_ret; exact ⟨retL_bool (by unfold rtB; rw [Bool.eq_iff_iff]; simp; omega), (Below.refl _ _).alloc (Nat.le_refl _) _⟩)

theorem len_small (n : Nat) (h1 : 1 ≤ n) (h2 : n ≤ 16) (w : World) :
    Calls Try.prog 64 #[.int .u64 (n : Int)] w fun e w' => e = .returned (.int .i64 (lv (n : Int))) ∧ w = w' := by
  have hb := lv_bd (n : Int)
  go_enter Try.func64, Try.ntmps64
  go_wp2_with (refine (len64_small _ h1 h2 _).mono ?_; rintro e w1 ⟨rfl, rfl⟩)
  go_ret
  exact ⟨rfl, rfl⟩
end Go.Proofs.Ytipjbgkfhkidkaa
