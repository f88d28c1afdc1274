/- Walk of LayCounts. Printed by wip/tools/laylc.py. -/
import Derived.Test.YtflcddjoeadngaaLayK
namespace Go.Proofs.Ytflcddjoeadngaa
open Go.RowKit

set_option maxRecDepth 100000 in
set_option maxHeartbeats 4000000 in
theorem layCounts_no (V S T : Int) (w : World) (hr : rtB V S T = false) :
    Calls Try.prog 7 #[vL V S T] w fun e w' => e = .returned (.bool true) ∧ Below w.heap.size w w' := by
  have hR := Lib.hid hr; clear hr
  go_enter Try.func7, Try.ntmps7
  go_wp2_with fail
  refine (ref_any V S T _).mono ?_; rintro e w1 ⟨rfl, b⟩
  have HB : Hid (Below w.heap.size w w1) := Lib.hid (keepL ((Below.refl _ _).alloc (Nat.le_refl _) _) b)
  have HL : Hid (Blk w1 w.heap.size 23 #[.int .i64 V, .int .i64 S, .int .i64 T]) := Lib.hid ((Blk.new _ _ _).below b (by simp))
  clear b
  have c0 : w1.cell? ⟨w.heap.size, 0, none⟩ = some (.int .i64 V) := HL.out.cell 0
  have c1 : w1.cell? ⟨w.heap.size, 1, none⟩ = some (.int .i64 S) := HL.out.cell 1
  have c2 : w1.cell? ⟨w.heap.size, 2, none⟩ = some (.int .i64 T) := HL.out.cell 2
  have z : w.heap.size < w1.heap.size := HL.out.lt
  go_wp2_with fail
  refine (isB (rright_any V S T _) (v' := false) hR.out).mono ?_; rintro e w2 ⟨rfl, b⟩
  have HN := Lib.hid (HL.out.below b z)
  have HC := Lib.hid (keepL HB.out b (Nat.le_of_lt z))
  clear HL HB c0 c1 c2 z b
  have HL := HN
  have HB := HC
  clear HN HC
  have c0 : w2.cell? ⟨w.heap.size, 0, none⟩ = some (.int .i64 V) := HL.out.cell 0
  have c1 : w2.cell? ⟨w.heap.size, 1, none⟩ = some (.int .i64 S) := HL.out.cell 1
  have c2 : w2.cell? ⟨w.heap.size, 2, none⟩ = some (.int .i64 T) := HL.out.cell 2
  have z : w.heap.size < w2.heap.size := HL.out.lt
  go_wp2_with fail
  refine (awakeL_any _).mono ?_; rintro e w3 ⟨rfl, b⟩
  have HN := Lib.hid (HL.out.below b z)
  have HC := Lib.hid (keepL HB.out b (Nat.le_of_lt z))
  clear HL HB c0 c1 c2 z b
  have HL := HN
  have HB := HC
  clear HN HC
  have c0 : w3.cell? ⟨w.heap.size, 0, none⟩ = some (.int .i64 V) := HL.out.cell 0
  have c1 : w3.cell? ⟨w.heap.size, 1, none⟩ = some (.int .i64 S) := HL.out.cell 1
  have c2 : w3.cell? ⟨w.heap.size, 2, none⟩ = some (.int .i64 T) := HL.out.cell 2
  have z : w.heap.size < w3.heap.size := HL.out.lt
  go_wp2_with fail
  go_ret
  exact ⟨rfl, HB.out⟩

theorem lv_half {j : Int} (h1 : 2 ≤ j) (h2 : j ≤ 16) : lv j = lv (j / 2) + 1 := by unfold lv; split <;> (try split) <;> (try split) <;> (try split) <;> (try split) <;> (try split) <;> (try split) <;> (try split) <;> omega
theorem lv_one {j : Int} (h1 : 1 ≤ j) (h2 : j ≤ 1) : lv j = 1 := by unfold lv; rw [if_pos (by omega)]
theorem nodes_eq (V S : Int) : lv V * (V + 2 * S) = nd V S := by
  unfold nd vn sn
  rw [Int.mul_add, Int.mul_comm S, Int.mul_assoc]
theorem levels_eq (V : Int) : V * lv V = vn V := Int.mul_comm _ _
/-- What holds at each round's head. -/
def HalfAt (V i j : Int) : Prop := 1 ≤ j ∧ j ≤ 16 ∧ 1 ≤ i ∧ i ≤ 5 ∧ lv V = i - 1 + lv j

set_option maxRecDepth 100000 in
set_option maxHeartbeats 4000000 in
theorem layCounts_yes (V S T : Int) (w : World) (h : Rt V S T) :
    Calls Try.prog 7 #[vL V S T] w fun e w' => e = .returned (.bool true) ∧ Below w.heap.size w w' := by
  have hR := Lib.hid h.yes
  have H := Lib.hid h
  have v1 := h.v1
  have v2 := h.v2
  have s1 := h.s1
  have s2 := h.s2
  have t1 := h.t1
  have t2 := h.t2
  have q := sizes h
  have q1 := q.nd1
  have q2 := q.nd2
  have q3 := q.vn1
  have q4 := q.vn2
  have q5 := q.pr1
  have q6 := q.pr2
  have q7 := q.l1
  have q8 := q.l2
  have m1 : 0 ≤ V * (V - 1) := Int.mul_nonneg (by omega) (by omega)
  have m2 : V * (V - 1) ≤ 1000 := by
    have := Int.mul_le_mul_of_nonneg_right v2 (show 0 ≤ V - 1 by omega)
    omega
  have e1 := nodes_eq V S
  have e2 := levels_eq V
  have e3 : V * (V - 1) / 2 = pr V := rfl
  have e4 : (cn V S T == T + 1 + 7 * S + vn V + pr V + 7 * nd V S) = true := beq_iff_eq.2 (by unfold cn; omega)
  have G := Lib.hid (And.intro e1 (And.intro e2 (And.intro e3 e4)))
  clear h q e1 e2 e3 e4
  go_enter Try.func7, Try.ntmps7
  go_wp2_with fail
  refine (ref_any V S T _).mono ?_; rintro e w1 ⟨rfl, b⟩
  have HB : Hid (Below w.heap.size w w1) := Lib.hid (keepL ((Below.refl _ _).alloc (Nat.le_refl _) _) b)
  have HL : Hid (Blk w1 w.heap.size 23 #[.int .i64 V, .int .i64 S, .int .i64 T]) := Lib.hid ((Blk.new _ _ _).below b (by simp))
  clear b
  have c0 : w1.cell? ⟨w.heap.size, 0, none⟩ = some (.int .i64 V) := HL.out.cell 0
  have c1 : w1.cell? ⟨w.heap.size, 1, none⟩ = some (.int .i64 S) := HL.out.cell 1
  have c2 : w1.cell? ⟨w.heap.size, 2, none⟩ = some (.int .i64 T) := HL.out.cell 2
  have z : w.heap.size < w1.heap.size := HL.out.lt
  go_wp2_with fail
  refine (isB (rright_any V S T _) (v' := true) hR.out).mono ?_; rintro e w2 ⟨rfl, b⟩
  have HN := Lib.hid (HL.out.below b z)
  have HC := Lib.hid (keepL HB.out b (Nat.le_of_lt z))
  clear HL HB c0 c1 c2 z b
  have HL := HN
  have HB := HC
  clear HN HC
  have c0 : w2.cell? ⟨w.heap.size, 0, none⟩ = some (.int .i64 V) := HL.out.cell 0
  have c1 : w2.cell? ⟨w.heap.size, 1, none⟩ = some (.int .i64 S) := HL.out.cell 1
  have c2 : w2.cell? ⟨w.heap.size, 2, none⟩ = some (.int .i64 T) := HL.out.cell 2
  have z : w.heap.size < w2.heap.size := HL.out.lt
  go_wp2_with fail
  go_loop [3, 4] (fun n p => ∃ i j : Int, HalfAt V i j ∧ n = .int .i64 i ∧ p = .int .i64 j) (fun _ p => (intOf p).toNat)
  case atStart => exact ⟨1, V, ⟨v1, v2, by omega, by omega, by omega⟩, rfl, rfl⟩
  case round =>
    obtain ⟨i, j, hp, rfl, rfl⟩ := hrel
    have b1 : 1 ≤ j := hp.1
    have b2 : j ≤ 16 := hp.2.1
    have b3 : 1 ≤ i := hp.2.2.1
    have b4 : i ≤ 5 := hp.2.2.2.1
    have HP := Lib.hid hp.2.2.2.2
    clear hp
    by_cases hlt : 1 < j
    · go_wp2_with fail
      go_round
      case rel => exact ⟨_, _, ⟨by omega, by omega, by omega, by have := lv_half (j := j) (by omega) b2; have := HP.out; have := (lv_bd (j / 2)).1; omega, by have := lv_half (j := j) (by omega) b2; have := HP.out; omega⟩, rfl, rfl⟩
      case measure => simp [intOf]; omega
    · have hi : i = lv V := by have := HP.out; have := lv_one b1 (by omega); omega
      subst hi
      obtain ⟨e1, e2, e3, e4⟩ := G.out
      go_wp2_with fail
      refine (levels_yes V S T H.out _).mono ?_; rintro e w3 ⟨rfl, b⟩
      have HN := Lib.hid (HL.out.below b z)
      have HC := Lib.hid (keepL HB.out b (Nat.le_of_lt z))
      clear HL HB c0 c1 c2 z b
      have HL := HN
      have HB := HC
      clear HN HC
      have c0 : w3.cell? ⟨w.heap.size, 0, none⟩ = some (.int .i64 V) := HL.out.cell 0
      have c1 : w3.cell? ⟨w.heap.size, 1, none⟩ = some (.int .i64 S) := HL.out.cell 1
      have c2 : w3.cell? ⟨w.heap.size, 2, none⟩ = some (.int .i64 T) := HL.out.cell 2
      have z : w.heap.size < w3.heap.size := HL.out.lt
      go_wp2_with fail
      refine (nodes_yes V S T H.out _).mono ?_; rintro e w4 ⟨rfl, b⟩
      have HN := Lib.hid (HL.out.below b z)
      have HC := Lib.hid (keepL HB.out b (Nat.le_of_lt z))
      clear HL HB c0 c1 c2 z b
      have HL := HN
      have HB := HC
      clear HN HC
      have c0 : w4.cell? ⟨w.heap.size, 0, none⟩ = some (.int .i64 V) := HL.out.cell 0
      have c1 : w4.cell? ⟨w.heap.size, 1, none⟩ = some (.int .i64 S) := HL.out.cell 1
      have c2 : w4.cell? ⟨w.heap.size, 2, none⟩ = some (.int .i64 T) := HL.out.cell 2
      have z : w.heap.size < w4.heap.size := HL.out.lt
      go_wp2_with fail
      refine (cells_yes V S T H.out _).mono ?_; rintro e w5 ⟨rfl, b⟩
      have HN := Lib.hid (HL.out.below b z)
      have HC := Lib.hid (keepL HB.out b (Nat.le_of_lt z))
      clear HL HB c0 c1 c2 z b
      have HL := HN
      have HB := HC
      clear HN HC
      have c0 : w5.cell? ⟨w.heap.size, 0, none⟩ = some (.int .i64 V) := HL.out.cell 0
      have c1 : w5.cell? ⟨w.heap.size, 1, none⟩ = some (.int .i64 S) := HL.out.cell 1
      have c2 : w5.cell? ⟨w.heap.size, 2, none⟩ = some (.int .i64 T) := HL.out.cell 2
      have z : w.heap.size < w5.heap.size := HL.out.lt
      go_wp2_with fail
      refine (awakeL_any _).mono ?_; rintro e w6 ⟨rfl, b⟩
      have HN := Lib.hid (HL.out.below b z)
      have HC := Lib.hid (keepL HB.out b (Nat.le_of_lt z))
      clear HL HB c0 c1 c2 z b
      have HL := HN
      have HB := HC
      clear HN HC
      have c0 : w6.cell? ⟨w.heap.size, 0, none⟩ = some (.int .i64 V) := HL.out.cell 0
      have c1 : w6.cell? ⟨w.heap.size, 1, none⟩ = some (.int .i64 S) := HL.out.cell 1
      have c2 : w6.cell? ⟨w.heap.size, 2, none⟩ = some (.int .i64 T) := HL.out.cell 2
      have z : w.heap.size < w6.heap.size := HL.out.lt
      go_wp2_with fail
      go_ret
      exact ⟨rfl, HB.out⟩

theorem layCounts_walk (V S T : Int) (w : World) :
    Calls Try.prog 7 #[vL V S T] w fun e w' => e = .returned (.bool true) ∧ Below w.heap.size w w' := by
  cases hr : rtB V S T
  · exact layCounts_no V S T w hr
  · exact layCounts_yes V S T w (rtB_yes hr)
end Go.Proofs.Ytflcddjoeadngaa
