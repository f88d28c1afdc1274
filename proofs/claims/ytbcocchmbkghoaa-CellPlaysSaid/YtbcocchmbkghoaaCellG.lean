/- The contract of CellPlays's helper. -/
import Derived.Test.YtbcocchmbkghoaaCellF
namespace Go.Proofs.Ytbcocchmbkghoaa
open Go.RowKit

section
variable {p g n cap : Nat} {c f : Nat → Int} {w : World}
set_option maxHeartbeats 4000000 in
theorem refuses_any (A : Ar w p g n cap c f) (o : OpV) (hi : o.i < 0 ∨ (n : Int) ≤ o.i) :
    Calls Try.prog 13 #[.pointer (some ⟨p, 0, none⟩), .agg #[.int .i64 o.k, .int .i64 o.i, .int .u64 o.a, .int .u64 o.v]] w fun e w' => e = .returned (.bool true) ∧ Below w.heap.size w w' := by
  have A1 := A.alloc (.cells #[.int .i64 o.k, .int .i64 o.i, .int .u64 o.a, .int .u64 o.v] 34)
  have HI := Lib.hid hi; clear hi
  clear A
  go_enter Try.func13, Try.ntmps13
  go_wp2_with fail
  refine (counts_any A1).mono ?_; rintro e w1 ⟨rfl, B1⟩; obtain ⟨hc1, hf1⟩ := bcell B1
  have hz1 : w.heap.size < w1.heap.size := by have := B1.size; simp at this; omega
  have A2 := (A1.below B1 (Nat.le_refl _)).alloc (.cells #[.int .i64 (c 0), .int .i64 (c 1), .int .i64 (c 2), .int .i64 (c 3), .int .i64 (c 4)] 31)
  clear A1
  go_wp2_with (first | (refine (load_no A2 HI.out).mono ?_; rintro e w2 ⟨rfl, rfl⟩) | (refine (store_no A2 HI.out _).mono ?_; rintro e w2 ⟨rfl, rfl⟩) | (refine (swap_no A2 HI.out _ _).mono ?_; rintro e w2 ⟨rfl, rfl⟩) | (refine (add_no A2 HI.out _).mono ?_; rintro e w2 ⟨rfl, rfl⟩))
  have X := Blk.new w1 31 #[.int .i64 (c 0), .int .i64 (c 1), .int .i64 (c 2), .int .i64 (c 3), .int .i64 (c 4)]
  have z0 := X.cell 0
  have z1 := X.cell 1
  have z2 := X.cell 2
  have z3 := X.cell 3
  have z4 := X.cell 4
  simp only [List.getElem?_toArray, List.getElem?_cons_zero, List.getElem?_cons_succ] at z0 z1 z2 z3 z4
  clear hc1 hf1
  go_region_held3 (fun w' => w'.cell? ⟨w1.heap.size, 0, none⟩ = some (.int .i64 (c 0)) ∧ w'.cell? ⟨w1.heap.size, 1, none⟩ = some (.int .i64 (c 1)) ∧ w'.cell? ⟨w1.heap.size, 2, none⟩ = some (.int .i64 (c 2)) ∧ w'.cell? ⟨w1.heap.size, 3, none⟩ = some (.int .i64 (c 3)) ∧ w'.cell? ⟨w1.heap.size, 4, none⟩ = some (.int .i64 (c 4)))
    (first | assumption | exact ⟨z0, z1, z2, z3, z4⟩ | exact (And.imp (cell_later hb9) (And.imp (cell_later hb9) (And.imp (cell_later hb9) (And.imp (cell_later hb9) (cell_later hb9))))) (by assumption))
    (first | ((with_reducible refine (counts_any A2.drew).mono ?_); rintro e w9 ⟨rfl, hb9⟩))
  all_goals go_wp2_with fail
  go_ret
  exact ⟨rfl, keepB (keepB ((Below.refl _ _).alloc (Nat.le_refl _) _) B1) (keepB ((Below.refl _ _).alloc (Nat.le_refl _) _) ⟨hb9.os, hb9.tape, hb9.output, hb9.size, hb9.block⟩)⟩
end
end Go.Proofs.Ytbcocchmbkghoaa
