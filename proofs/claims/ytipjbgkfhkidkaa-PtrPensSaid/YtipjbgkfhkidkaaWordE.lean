/- Contracts of the document's own answers for layer 1. -/
import Derived.Test.YtipjbgkfhkidkaaWordD
namespace Go.Proofs.Ytipjbgkfhkidkaa
open Go.RowKit

theorem ret_bool {a b : Bool} (h : a = b) : Ending.returned (.bool a) = .returned (.bool b) := by rw [h]
theorem ret_u64 {a b : Int} (h : a = b) : Ending.returned (.int .u64 a) = .returned (.int .u64 b) := by rw [h]
theorem ret_i64 {a b : Int} (h : a = b) : Ending.returned (.int .i64 a) = .returned (.int .i64 b) := by rw [h]

theorem rightW_eq (o n th tg : Int) : rightW o n th tg = decide ((th = 0 → n = o ∧ tg = 0) ∧ 0 ≤ o ∧ o ≤ 65535 ∧ 0 ≤ n ∧ n ≤ 65535 ∧ 0 ≤ th ∧ th ≤ 8 ∧ 0 ≤ tg ∧ tg ≤ 16777215) := by
  unfold rightW; split <;> (rw [decide_eq_decide]; omega)

theorem way_tg {b t : Int} {P : Prop} [Decidable P] (h : t = b ↔ P) : (t == b) = decide P := by
  rw [Bool.eq_iff_iff]; simp [h]

set_option maxHeartbeats 1000000 in
theorem wrright_any (o n th tg : Int) (w : World) :
    Calls Try.prog 22 #[vW o n th tg] w fun e w' => e = .returned (.bool (rightW o n th tg)) ∧ Below w.heap.size w w' := by
  go_enter Try.func22, Try.ntmps22
  go_wp2
  all_goals
    go_ret
    refine ⟨ret_bool ?_, (Below.refl _ _).alloc (Nat.le_refl _) _⟩
    rw [rightW_eq]
    first | exact (decide_eq_false (by omega)).symm | exact (decide_eq_true (by omega)).symm | exact way_tg (by omega)

set_option maxHeartbeats 1000000 in
theorem rbits_any (o n th tg : Int) (w : World) (h : rightW o n th tg = true) :
    Calls Try.prog 32 #[vW o n th tg] w fun e w' => e = .returned (.int .u64 (((tg * 256 + th) * 65536 + o) * 65536 + n)) ∧ Below w.heap.size w w' := by
  obtain ⟨h1, h2, h3, h4, h5, h6, h7, h8⟩ := right_bd h
  go_enter Try.func32, Try.ntmps32
  go_wp2
  go_ret
  exact ⟨rfl, (Below.refl _ _).alloc (Nat.le_refl _) _⟩

set_option maxHeartbeats 1000000 in
theorem rparts_any (v : Int) (w : World) (h1 : 0 ≤ v) (h2 : v ≤ 18446744073709551615) :
    Calls Try.prog 21 #[.int .u64 v] w fun e w' => e = .returned (vW (v / 65536 % 65536) (v % 65536) (v / 4294967296 % 256) (v / 1099511627776)) ∧ Below w.heap.size w w' := by
  go_enter Try.func21, Try.ntmps21
  go_wp2
  have e1 : v / 65536 / 65536 = v / 4294967296 := by omega
  have e2 : v / 65536 / 65536 / 256 = v / 1099511627776 := by omega
  rw [← e2, ← e1]
  exact bodyPost_ret (v := vW (v / 65536 % 65536) (v % 65536) (v / 65536 / 65536 % 256) (v / 65536 / 65536 / 256)) (by simp [results, Try.results21, go_sem]) rfl ⟨rfl, ((Below.refl _ _).alloc (Nat.le_refl _) _).alloc (by simp) _⟩

theorem rplain_any (x : Int) (w : World) (h1 : 0 ≤ x) (h2 : x ≤ 65535) :
    Calls Try.prog 13 #[.int .i64 x] w fun e w' => e = .returned (.int .u64 (x * 65537)) ∧ w = w' := by
  go_enter Try.func13, Try.ntmps13
  go_wp2
  go_ret
  exact ⟨rfl, rfl⟩

theorem rstate_any (t : Int) (d : Bool) (w : World) (h1 : 0 ≤ t) (h2 : t ≤ 16777215) :
    Calls Try.prog 33 #[.int .i64 t, .bool d] w fun e w' => e = .returned (.int .u64 (stateV t d)) ∧ w = w' := by
  cases d
  all_goals
    go_enter Try.func33, Try.ntmps33
    go_wp2
    go_ret
    exact ⟨ret_u64 (by simp [stateV]; omega), rfl⟩

/-- What bits mean, by the bits of a state. -/
def rmeansV (v s : Int) : Int := if v / 4294967296 % 256 = 0 ∨ v / 1099511627776 < s / 2 ∨ (s / 2 = v / 1099511627776 ∧ s % 2 = 1) then v % 65536 else v / 65536 % 65536

set_option maxHeartbeats 1000000 in
theorem rmeans_any (v s : Int) (w : World) (h1 : 0 ≤ v) (h2 : v ≤ 18446744073709551615) (h3 : 0 ≤ s) (h4 : s ≤ 18446744073709551615) :
    Calls Try.prog 25 #[.int .u64 v, .int .u64 s] w fun e w' => e = .returned (.int .i64 (rmeansV v s)) ∧ Below w.heap.size w w' := by
  go_enter Try.func25, Try.ntmps25
  go_wp2_with (go_at_call 21; refine (rparts_any _ _ (by omega) (by omega)).mono ?_; rintro e w1 ⟨rfl, hb⟩; obtain ⟨hc, hf⟩ := bcellW hb)
  all_goals
    go_ret
    refine ⟨ret_i64 ?_, hb.alloc hb.size _⟩
    clear hc hf hb
    try simp only [beq_iff_eq, beq_eq_false_iff_ne] at *
    unfold rmeansV
    split
    all_goals first | with_reducible rfl | omega
end Go.Proofs.Ytipjbgkfhkidkaa
