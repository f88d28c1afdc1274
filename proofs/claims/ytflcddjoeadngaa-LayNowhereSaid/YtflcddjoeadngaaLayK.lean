/- The fixed answer. Printed by wip/tools/layk.py. -/
import Derived.Test.YtflcddjoeadngaaLayN
namespace Go.Proofs.Ytflcddjoeadngaa
open Go.RowKit

theorem isI {f : FuncId} {args : Array Value} {w : World} {v v' : Int} (h : Calls Try.prog f args w fun e w' => e = .returned (.int .i64 v) ∧ Below w.heap.size w w') (e : v = v') :
    Calls Try.prog f args w fun e w' => e = .returned (.int .i64 v') ∧ Below w.heap.size w w' := e ▸ h
theorem isB {f : FuncId} {args : Array Value} {w : World} {v v' : Bool} (h : Calls Try.prog f args w fun e w' => e = .returned (.bool v) ∧ Below w.heap.size w w') (e : v = v') :
    Calls Try.prog f args w fun e w' => e = .returned (.bool v') ∧ Below w.heap.size w w' := e ▸ h

theorem node_5 (w : World) : Calls Try.prog 16 #[vL 2 1 1, .int .i64 5] w fun e w' => e = .returned (.tuple #[vT true 0 0 0 0, .bool true]) ∧ Below w.heap.size w w' :=
  node_arc 2 1 1 5 ⟨by omega, by omega, by omega, by omega, by omega, by omega⟩ (by decide) (by decide) w

set_option maxRecDepth 100000 in
set_option maxHeartbeats 4000000 in
theorem awakeL_any (w : World) : Calls Try.prog 11 #[] w fun e w' => e = .returned (.bool true) ∧ Below w.heap.size w w' := by
  have H : Hid (Rt 2 1 1) := Lib.hid ⟨by omega, by omega, by omega, by omega, by omega, by omega⟩
  go_enter Try.func11, Try.ntmps11
  go_wp2_with fail
  refine (node_5 _).mono ?_; rintro e w1 ⟨rfl, b1⟩
  have B1 : Below w.heap.size w w1 := keepL ((Below.refl _ _).alloc (Nat.le_refl _) _) b1
  have L1 : Blk w1 w.heap.size 23 #[.int .i64 2, .int .i64 1, .int .i64 1] := (Blk.new _ _ _).below b1 (by simp)
  have c0 : w1.cell? ⟨w.heap.size, 0, none⟩ = some (.int .i64 2) := L1.cell 0
  have c1 : w1.cell? ⟨w.heap.size, 1, none⟩ = some (.int .i64 1) := L1.cell 1
  have c2 : w1.cell? ⟨w.heap.size, 2, none⟩ = some (.int .i64 1) := L1.cell 2
  have z1 := L1.lt
  have HL := Lib.hid L1
  have HB := Lib.hid B1
  clear L1 B1 b1
  go_wp2_with fail
  refine (isB (right_any 2 1 1 _) (v' := true) rfl).mono ?_; rintro e w2 ⟨rfl, b⟩
  have HT : Hid (Blk w2 w1.heap.size 34 #[.bool true, .int .i64 0, .int .i64 0, .int .i64 0, .int .i64 0]) := Lib.hid ((Blk.new w1 _ _).below b (by simp))
  have HN := Lib.hid ((HL.out.alloc _).below b (Nat.lt_succ_of_lt z1 |> fun h => by simpa using h))
  have HC := Lib.hid (keepL (HB.out.alloc (Nat.le_of_lt z1) _) b (by simp; omega))
  clear HL HB c0 c1 c2 z1
  have c0 : w2.cell? ⟨w.heap.size, 0, none⟩ = some (.int .i64 2) := HN.out.cell 0
  have c1 : w2.cell? ⟨w.heap.size, 1, none⟩ = some (.int .i64 1) := HN.out.cell 1
  have c2 : w2.cell? ⟨w.heap.size, 2, none⟩ = some (.int .i64 1) := HN.out.cell 2
  have z2 := HN.out.lt
  have HL := HN
  have HB := HC
  clear HN HC
  clear b
  go_wp2_with fail
  refine (isI (levels_yes 2 1 1 H.out _) (v' := 2) rfl).mono ?_; rintro e w3 ⟨rfl, b⟩
  have HT' := Lib.hid (HT.out.below b HT.out.lt)
  have HN := Lib.hid (HL.out.below b z2)
  have HC := Lib.hid (keepL HB.out b (Nat.le_of_lt z2))
  clear HL HB c0 c1 c2 z2
  have c0 : w3.cell? ⟨w.heap.size, 0, none⟩ = some (.int .i64 2) := HN.out.cell 0
  have c1 : w3.cell? ⟨w.heap.size, 1, none⟩ = some (.int .i64 1) := HN.out.cell 1
  have c2 : w3.cell? ⟨w.heap.size, 2, none⟩ = some (.int .i64 1) := HN.out.cell 2
  have z3 := HN.out.lt
  have HL := HN
  have HB := HC
  clear HN HC
  clear HT
  have HT := HT'
  clear HT'
  clear b
  go_wp2_with fail
  refine (isI (nodes_yes 2 1 1 H.out _) (v' := 8) rfl).mono ?_; rintro e w4 ⟨rfl, b⟩
  have HT' := Lib.hid (HT.out.below b HT.out.lt)
  have HN := Lib.hid (HL.out.below b z3)
  have HC := Lib.hid (keepL HB.out b (Nat.le_of_lt z3))
  clear HL HB c0 c1 c2 z3
  have c0 : w4.cell? ⟨w.heap.size, 0, none⟩ = some (.int .i64 2) := HN.out.cell 0
  have c1 : w4.cell? ⟨w.heap.size, 1, none⟩ = some (.int .i64 1) := HN.out.cell 1
  have c2 : w4.cell? ⟨w.heap.size, 2, none⟩ = some (.int .i64 1) := HN.out.cell 2
  have z4 := HN.out.lt
  have HL := HN
  have HB := HC
  clear HN HC
  clear HT
  have HT := HT'
  clear HT'
  clear b
  go_wp2_with fail
  refine (isI (cells_yes 2 1 1 H.out _) (v' := 70) rfl).mono ?_; rintro e w5 ⟨rfl, b⟩
  have HT' := Lib.hid (HT.out.below b HT.out.lt)
  have HN := Lib.hid (HL.out.below b z4)
  have HC := Lib.hid (keepL HB.out b (Nat.le_of_lt z4))
  clear HL HB c0 c1 c2 z4
  have c0 : w5.cell? ⟨w.heap.size, 0, none⟩ = some (.int .i64 2) := HN.out.cell 0
  have c1 : w5.cell? ⟨w.heap.size, 1, none⟩ = some (.int .i64 1) := HN.out.cell 1
  have c2 : w5.cell? ⟨w.heap.size, 2, none⟩ = some (.int .i64 1) := HN.out.cell 2
  have z5 := HN.out.lt
  have HL := HN
  have HB := HC
  clear HN HC
  clear HT
  have HT := HT'
  clear HT'
  clear b
  go_wp2_with fail
  refine (isI (vertex_yes 2 1 1 1 1 H.out _) (v' := 4) rfl).mono ?_; rintro e w6 ⟨rfl, b⟩
  have HT' := Lib.hid (HT.out.below b HT.out.lt)
  have HN := Lib.hid (HL.out.below b z5)
  have HC := Lib.hid (keepL HB.out b (Nat.le_of_lt z5))
  clear HL HB c0 c1 c2 z5
  have c0 : w6.cell? ⟨w.heap.size, 0, none⟩ = some (.int .i64 2) := HN.out.cell 0
  have c1 : w6.cell? ⟨w.heap.size, 1, none⟩ = some (.int .i64 1) := HN.out.cell 1
  have c2 : w6.cell? ⟨w.heap.size, 2, none⟩ = some (.int .i64 1) := HN.out.cell 2
  have z6 := HN.out.lt
  have HL := HN
  have HB := HC
  clear HN HC
  clear HT
  have HT := HT'
  clear HT'
  clear b
  go_wp2_with fail
  refine (isI (arc_yes 2 1 1 0 1 1 H.out _) (v' := 8) rfl).mono ?_; rintro e w7 ⟨rfl, b⟩
  have HT' := Lib.hid (HT.out.below b HT.out.lt)
  have HN := Lib.hid (HL.out.below b z6)
  have HC := Lib.hid (keepL HB.out b (Nat.le_of_lt z6))
  clear HL HB c0 c1 c2 z6
  have c0 : w7.cell? ⟨w.heap.size, 0, none⟩ = some (.int .i64 2) := HN.out.cell 0
  have c1 : w7.cell? ⟨w.heap.size, 1, none⟩ = some (.int .i64 1) := HN.out.cell 1
  have c2 : w7.cell? ⟨w.heap.size, 2, none⟩ = some (.int .i64 1) := HN.out.cell 2
  have z7 := HN.out.lt
  have HL := HN
  have HB := HC
  clear HN HC
  clear HT
  have HT := HT'
  clear HT'
  have d0 : w7.cell? ⟨w1.heap.size, 0, none⟩ = some (.bool true) := HT.out.cell 0
  have d1 : w7.cell? ⟨w1.heap.size, 1, none⟩ = some (.int .i64 0) := HT.out.cell 1
  clear b
  go_wp2_with fail
  refine (isI (state_yes 2 1 1 1 (by omega) (by omega) H.out _) (v' := 0) rfl).mono ?_; rintro e w8 ⟨rfl, b⟩
  have HT' := Lib.hid (HT.out.below b HT.out.lt)
  have HN := Lib.hid (HL.out.below b z7)
  have HC := Lib.hid (keepL HB.out b (Nat.le_of_lt z7))
  clear HL HB c0 c1 c2 z7
  have c0 : w8.cell? ⟨w.heap.size, 0, none⟩ = some (.int .i64 2) := HN.out.cell 0
  have c1 : w8.cell? ⟨w.heap.size, 1, none⟩ = some (.int .i64 1) := HN.out.cell 1
  have c2 : w8.cell? ⟨w.heap.size, 2, none⟩ = some (.int .i64 1) := HN.out.cell 2
  have z8 := HN.out.lt
  have HL := HN
  have HB := HC
  clear HN HC
  clear HT
  have HT := HT'
  clear HT'
  clear d0 d1
  clear b
  go_wp2_with fail
  refine (isI (free_yes 2 1 1 H.out _) (v' := 1) rfl).mono ?_; rintro e w9 ⟨rfl, b⟩
  have HT' := Lib.hid (HT.out.below b HT.out.lt)
  have HN := Lib.hid (HL.out.below b z8)
  have HC := Lib.hid (keepL HB.out b (Nat.le_of_lt z8))
  clear HL HB c0 c1 c2 z8
  have c0 : w9.cell? ⟨w.heap.size, 0, none⟩ = some (.int .i64 2) := HN.out.cell 0
  have c1 : w9.cell? ⟨w.heap.size, 1, none⟩ = some (.int .i64 1) := HN.out.cell 1
  have c2 : w9.cell? ⟨w.heap.size, 2, none⟩ = some (.int .i64 1) := HN.out.cell 2
  have z9 := HN.out.lt
  have HL := HN
  have HB := HC
  clear HN HC
  clear HT
  have HT := HT'
  clear HT'
  clear b
  go_wp2_with fail
  refine (isI (edge_yes 2 1 1 1 0 H.out _) (v' := 13) rfl).mono ?_; rintro e w10 ⟨rfl, b⟩
  have HT' := Lib.hid (HT.out.below b HT.out.lt)
  have HN := Lib.hid (HL.out.below b z9)
  have HC := Lib.hid (keepL HB.out b (Nat.le_of_lt z9))
  clear HL HB c0 c1 c2 z9
  have c0 : w10.cell? ⟨w.heap.size, 0, none⟩ = some (.int .i64 2) := HN.out.cell 0
  have c1 : w10.cell? ⟨w.heap.size, 1, none⟩ = some (.int .i64 1) := HN.out.cell 1
  have c2 : w10.cell? ⟨w.heap.size, 2, none⟩ = some (.int .i64 1) := HN.out.cell 2
  have z10 := HN.out.lt
  have HL := HN
  have HB := HC
  clear HN HC
  clear HT
  have HT := HT'
  clear HT'
  clear b
  go_wp2_with fail
  refine (isI (field_yes 2 1 1 1 0 H.out (by omega) (by omega) _) (v' := 14) rfl).mono ?_; rintro e w11 ⟨rfl, b⟩
  have HT' := Lib.hid (HT.out.below b HT.out.lt)
  have HN := Lib.hid (HL.out.below b z10)
  have HC := Lib.hid (keepL HB.out b (Nat.le_of_lt z10))
  clear HL HB c0 c1 c2 z10
  have c0 : w11.cell? ⟨w.heap.size, 0, none⟩ = some (.int .i64 2) := HN.out.cell 0
  have c1 : w11.cell? ⟨w.heap.size, 1, none⟩ = some (.int .i64 1) := HN.out.cell 1
  have c2 : w11.cell? ⟨w.heap.size, 2, none⟩ = some (.int .i64 1) := HN.out.cell 2
  have z11 := HN.out.lt
  have HL := HN
  have HB := HC
  clear HN HC
  clear HT
  have HT := HT'
  clear HT'
  clear b
  go_wp2_with fail
  refine (isI (field_yes 2 1 1 9 0 H.out (by omega) (by omega) _) (v' := -1) rfl).mono ?_; rintro e w12 ⟨rfl, b⟩
  have HT' := Lib.hid (HT.out.below b HT.out.lt)
  have HN := Lib.hid (HL.out.below b z11)
  have HC := Lib.hid (keepL HB.out b (Nat.le_of_lt z11))
  clear HL HB c0 c1 c2 z11
  have c0 : w12.cell? ⟨w.heap.size, 0, none⟩ = some (.int .i64 2) := HN.out.cell 0
  have c1 : w12.cell? ⟨w.heap.size, 1, none⟩ = some (.int .i64 1) := HN.out.cell 1
  have c2 : w12.cell? ⟨w.heap.size, 2, none⟩ = some (.int .i64 1) := HN.out.cell 2
  have z12 := HN.out.lt
  have HL := HN
  have HB := HC
  clear HN HC
  clear HT
  have HT := HT'
  clear HT'
  clear b
  go_wp2_with fail
  refine (isB (right_any 0 0 0 _) (v' := false) rfl).mono ?_; rintro e w13 ⟨rfl, b⟩
  have HT' := Lib.hid (HT.out.below b HT.out.lt)
  have HN := Lib.hid (HL.out.below b z12)
  have HC := Lib.hid (keepL HB.out b (Nat.le_of_lt z12))
  clear HL HB c0 c1 c2 z12
  have c0 : w13.cell? ⟨w.heap.size, 0, none⟩ = some (.int .i64 2) := HN.out.cell 0
  have c1 : w13.cell? ⟨w.heap.size, 1, none⟩ = some (.int .i64 1) := HN.out.cell 1
  have c2 : w13.cell? ⟨w.heap.size, 2, none⟩ = some (.int .i64 1) := HN.out.cell 2
  have z13 := HN.out.lt
  have HL := HN
  have HB := HC
  clear HN HC
  clear HT
  have HT := HT'
  clear HT'
  clear b
  go_wp2_with fail
  go_ret
  exact ⟨rfl, HB.out⟩
end Go.Proofs.Ytflcddjoeadngaa
