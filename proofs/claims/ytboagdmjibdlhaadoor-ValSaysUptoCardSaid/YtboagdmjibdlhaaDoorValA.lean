/- Values that are no lists, and the contracts of what looks at one value. -/
import Derived.Test.YtboagdmjibdlhaaDoorMem
namespace Go.Proofs.YtboagdmjibdlhaaDoor
open Go.RowKit

/-- A value that is no list. -/
inductive Atom where
  | num (n : Int)
  | txt (s : ByteArray)
  | sgn (r : Int)
  | flt (v : Value)
  | nil

def Atom.val : Atom → Value
  | .num n => .iface 3 (.int .i64 n)
  | .txt s => .iface 9 (.string s)
  | .sgn r => .iface 21 (.int .i32 r)
  | .flt v => .iface 53 v
  | .nil => .nilIface

theorem taI_hit (v : Value) (w : World) : (Instr.typeAssert (.iface 3 v) 20 3 true).run Tryd.prog w = .ok (.tuple #[v, .bool true]) w := by
  simp [Instr.typeAssert, run_underlying Tryd.underlying3]
theorem taI_miss {u : TypeId} (hu : u ≠ 3) (v : Value) (w : World) : (Instr.typeAssert (.iface u v) 20 3 true).run Tryd.prog w = .ok (.tuple #[.int .i64 0, .bool false]) w := by
  simp [Instr.typeAssert, run_underlying Tryd.underlying3, hu, Tryd.zeroValue3]
theorem taI_nil (w : World) : (Instr.typeAssert .nilIface 20 3 true).run Tryd.prog w = .ok (.tuple #[.int .i64 0, .bool false]) w := by
  simp [Instr.typeAssert, run_underlying Tryd.underlying3, Tryd.zeroValue3]
theorem taS_hit (v : Value) (w : World) : (Instr.typeAssert (.iface 9 v) 20 9 true).run Tryd.prog w = .ok (.tuple #[v, .bool true]) w := by
  simp [Instr.typeAssert, run_underlying Tryd.underlying9]
theorem taS_miss {u : TypeId} (hu : u ≠ 9) (v : Value) (w : World) : (Instr.typeAssert (.iface u v) 20 9 true).run Tryd.prog w = .ok (.tuple #[.string { data := #[] }, .bool false]) w := by
  simp [Instr.typeAssert, run_underlying Tryd.underlying9, hu, Tryd.zeroValue9]
theorem taS_nil (w : World) : (Instr.typeAssert .nilIface 20 9 true).run Tryd.prog w = .ok (.tuple #[.string { data := #[] }, .bool false]) w := by
  simp [Instr.typeAssert, run_underlying Tryd.underlying9, Tryd.zeroValue9]
theorem taR_hit (v : Value) (w : World) : (Instr.typeAssert (.iface 21 v) 20 21 true).run Tryd.prog w = .ok (.tuple #[v, .bool true]) w := by
  simp [Instr.typeAssert, run_underlying Tryd.underlying21]
theorem taR_miss {u : TypeId} (hu : u ≠ 21) (v : Value) (w : World) : (Instr.typeAssert (.iface u v) 20 21 true).run Tryd.prog w = .ok (.tuple #[.int .i32 0, .bool false]) w := by
  simp [Instr.typeAssert, run_underlying Tryd.underlying21, hu, Tryd.zeroValue21]
theorem taR_nil (w : World) : (Instr.typeAssert .nilIface 20 21 true).run Tryd.prog w = .ok (.tuple #[.int .i32 0, .bool false]) w := by
  simp [Instr.typeAssert, run_underlying Tryd.underlying21, Tryd.zeroValue21]
theorem taL_hit (v : Value) (w : World) : (Instr.typeAssert (.iface 29 v) 20 29 true).run Tryd.prog w = .ok (.tuple #[v, .bool true]) w := by
  simp [Instr.typeAssert, run_underlying Tryd.underlying29]
theorem taL_miss {u : TypeId} (hu : u ≠ 29) (v : Value) (w : World) : (Instr.typeAssert (.iface u v) 20 29 true).run Tryd.prog w = .ok (.tuple #[.slice none 0 0, .bool false]) w := by
  simp [Instr.typeAssert, run_underlying Tryd.underlying29, hu, Tryd.zeroValue29]
theorem taL_nil (w : World) : (Instr.typeAssert .nilIface 20 29 true).run Tryd.prog w = .ok (.tuple #[.slice none 0 0, .bool false]) w := by
  simp [Instr.typeAssert, run_underlying Tryd.underlying29, Tryd.zeroValue29]

theorem kind_num (n : Int) (w : World) : Calls Tryd.prog 27 #[(Atom.num n).val] w fun e w' => e = .returned (.int .i64 1) ∧ w = w' := by
  have hI := taI_hit
  have hS := taS_miss (u := 3) (by decide)
  have hR := taR_miss (u := 3) (by decide)
  have hL := taL_miss (u := 3) (by decide)
  go_enter Tryd.func27, Tryd.ntmps27
  simp only [Atom.val]
  go_wp2
  go_ret
  exact ⟨rfl, rfl⟩
theorem kind_txt (s : ByteArray) (w : World) : Calls Tryd.prog 27 #[(Atom.txt s).val] w fun e w' => e = .returned (.int .i64 2) ∧ w = w' := by
  have hI := taI_miss (u := 9) (by decide)
  have hS := taS_hit
  have hR := taR_miss (u := 9) (by decide)
  have hL := taL_miss (u := 9) (by decide)
  go_enter Tryd.func27, Tryd.ntmps27
  simp only [Atom.val]
  go_wp2
  go_ret
  exact ⟨rfl, rfl⟩
theorem kind_sgn (r : Int) (w : World) : Calls Tryd.prog 27 #[(Atom.sgn r).val] w fun e w' => e = .returned (.int .i64 3) ∧ w = w' := by
  have hI := taI_miss (u := 21) (by decide)
  have hS := taS_miss (u := 21) (by decide)
  have hR := taR_hit
  have hL := taL_miss (u := 21) (by decide)
  go_enter Tryd.func27, Tryd.ntmps27
  simp only [Atom.val]
  go_wp2
  go_ret
  exact ⟨rfl, rfl⟩
theorem kind_flt (x : Value) (w : World) : Calls Tryd.prog 27 #[(Atom.flt x).val] w fun e w' => e = .returned (.int .i64 0) ∧ w = w' := by
  have hI := taI_miss (u := 53) (by decide)
  have hS := taS_miss (u := 53) (by decide)
  have hR := taR_miss (u := 53) (by decide)
  have hL := taL_miss (u := 53) (by decide)
  go_enter Tryd.func27, Tryd.ntmps27
  simp only [Atom.val]
  go_wp2
  go_ret
  exact ⟨rfl, rfl⟩
theorem kind_nil  (w : World) : Calls Tryd.prog 27 #[Atom.nil.val] w fun e w' => e = .returned (.int .i64 0) ∧ w = w' := by
  have hI := taI_nil
  have hS := taS_nil
  have hR := taR_nil
  have hL := taL_nil
  go_enter Tryd.func27, Tryd.ntmps27
  simp only [Atom.val]
  go_wp2
  go_ret
  exact ⟨rfl, rfl⟩
theorem kind_lst (a : Option Addr) (n c : Nat) (w : World) : Calls Tryd.prog 27 #[Value.iface 29 (.slice a n c)] w fun e w' => e = .returned (.int .i64 4) ∧ w = w' := by
  have hI := taI_miss (u := 29) (by decide)
  have hS := taS_miss (u := 29) (by decide)
  have hR := taR_miss (u := 29) (by decide)
  have hL := taL_hit
  go_enter Tryd.func27, Tryd.ntmps27
  go_wp2
  go_ret
  exact ⟨rfl, rfl⟩
theorem num_num (n : Int) (w : World) : Calls Tryd.prog 26 #[(Atom.num n).val] w fun e w' => e = .returned (.tuple #[.int .i64 n, .bool true]) ∧ w = w' := by
  have hI := taI_hit
  go_enter Tryd.func26, Tryd.ntmps26
  simp only [Atom.val]
  go_wp2
  go_ret2
  exact ⟨rfl, rfl⟩
theorem num_txt (s : ByteArray) (w : World) : Calls Tryd.prog 26 #[(Atom.txt s).val] w fun e w' => e = .returned (.tuple #[.int .i64 0, .bool false]) ∧ w = w' := by
  have hI := taI_miss (u := 9) (by decide)
  go_enter Tryd.func26, Tryd.ntmps26
  simp only [Atom.val]
  go_wp2
  go_ret2
  exact ⟨rfl, rfl⟩
theorem num_sgn (r : Int) (w : World) : Calls Tryd.prog 26 #[(Atom.sgn r).val] w fun e w' => e = .returned (.tuple #[.int .i64 0, .bool false]) ∧ w = w' := by
  have hI := taI_miss (u := 21) (by decide)
  go_enter Tryd.func26, Tryd.ntmps26
  simp only [Atom.val]
  go_wp2
  go_ret2
  exact ⟨rfl, rfl⟩
theorem num_flt (x : Value) (w : World) : Calls Tryd.prog 26 #[(Atom.flt x).val] w fun e w' => e = .returned (.tuple #[.int .i64 0, .bool false]) ∧ w = w' := by
  have hI := taI_miss (u := 53) (by decide)
  go_enter Tryd.func26, Tryd.ntmps26
  simp only [Atom.val]
  go_wp2
  go_ret2
  exact ⟨rfl, rfl⟩
theorem num_nil  (w : World) : Calls Tryd.prog 26 #[Atom.nil.val] w fun e w' => e = .returned (.tuple #[.int .i64 0, .bool false]) ∧ w = w' := by
  have hI := taI_nil
  go_enter Tryd.func26, Tryd.ntmps26
  simp only [Atom.val]
  go_wp2
  go_ret2
  exact ⟨rfl, rfl⟩
theorem num_lst (a : Option Addr) (n c : Nat) (w : World) : Calls Tryd.prog 26 #[Value.iface 29 (.slice a n c)] w fun e w' => e = .returned (.tuple #[.int .i64 0, .bool false]) ∧ w = w' := by
  have hI := taI_miss (u := 29) (by decide)
  go_enter Tryd.func26, Tryd.ntmps26
  go_wp2
  go_ret2
  exact ⟨rfl, rfl⟩
theorem items_num (n : Int) (w : World) : Calls Tryd.prog 44 #[(Atom.num n).val] w fun e w' => e = .returned (.tuple #[.slice none 0 0, .bool false]) ∧ w = w' := by
  have hL := taL_miss (u := 3) (by decide)
  go_enter Tryd.func44, Tryd.ntmps44
  simp only [Atom.val]
  go_wp2
  go_ret2
  exact ⟨rfl, rfl⟩
theorem items_txt (s : ByteArray) (w : World) : Calls Tryd.prog 44 #[(Atom.txt s).val] w fun e w' => e = .returned (.tuple #[.slice none 0 0, .bool false]) ∧ w = w' := by
  have hL := taL_miss (u := 9) (by decide)
  go_enter Tryd.func44, Tryd.ntmps44
  simp only [Atom.val]
  go_wp2
  go_ret2
  exact ⟨rfl, rfl⟩
theorem items_sgn (r : Int) (w : World) : Calls Tryd.prog 44 #[(Atom.sgn r).val] w fun e w' => e = .returned (.tuple #[.slice none 0 0, .bool false]) ∧ w = w' := by
  have hL := taL_miss (u := 21) (by decide)
  go_enter Tryd.func44, Tryd.ntmps44
  simp only [Atom.val]
  go_wp2
  go_ret2
  exact ⟨rfl, rfl⟩
theorem items_flt (x : Value) (w : World) : Calls Tryd.prog 44 #[(Atom.flt x).val] w fun e w' => e = .returned (.tuple #[.slice none 0 0, .bool false]) ∧ w = w' := by
  have hL := taL_miss (u := 53) (by decide)
  go_enter Tryd.func44, Tryd.ntmps44
  simp only [Atom.val]
  go_wp2
  go_ret2
  exact ⟨rfl, rfl⟩
theorem items_nil  (w : World) : Calls Tryd.prog 44 #[Atom.nil.val] w fun e w' => e = .returned (.tuple #[.slice none 0 0, .bool false]) ∧ w = w' := by
  have hL := taL_nil
  go_enter Tryd.func44, Tryd.ntmps44
  simp only [Atom.val]
  go_wp2
  go_ret2
  exact ⟨rfl, rfl⟩
theorem items_lst (a : Option Addr) (n c : Nat) (w : World) : Calls Tryd.prog 44 #[Value.iface 29 (.slice a n c)] w fun e w' => e = .returned (.tuple #[.slice a n c, .bool true]) ∧ w = w' := by
  have hL := taL_hit
  go_enter Tryd.func44, Tryd.ntmps44
  go_wp2
  go_ret2
  exact ⟨rfl, rfl⟩
end Go.Proofs.YtboagdmjibdlhaaDoor
