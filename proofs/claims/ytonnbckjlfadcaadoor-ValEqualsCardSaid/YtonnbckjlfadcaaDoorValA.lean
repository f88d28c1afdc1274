/- Values that are no lists, and the contracts of what looks at one value. -/
import Derived.Test.YtonnbckjlfadcaaDoorMem
namespace Go.Proofs.YtonnbckjlfadcaaDoor
open Go.RowKit

/-- A value that is no list. -/
inductive Atom where
  | num (n : Int)
  | txt (s : ByteArray)
  | sgn (r : Int)
  | flt (v : Value)
  | nil

def Atom.val : Atom → Value
  | .num n => .iface 3 (.int .i64 n)
  | .txt s => .iface 9 (.string s)
  | .sgn r => .iface 21 (.int .i32 r)
  | .flt v => .iface 47 v
  | .nil => .nilIface

theorem taI_hit (v : Value) (w : World) : (Instr.typeAssert (.iface 3 v) 20 3 true).run Tryd.prog w = .ok (.tuple #[v, .bool true]) w := by
  simp [Instr.typeAssert, run_underlying Tryd.underlying3]
theorem taI_miss {u : TypeId} (hu : u ≠ 3) (v : Value) (w : World) : (Instr.typeAssert (.iface u v) 20 3 true).run Tryd.prog w = .ok (.tuple #[.int .i64 0, .bool false]) w := by
  simp [Instr.typeAssert, run_underlying Tryd.underlying3, hu, Tryd.zeroValue3]
theorem taI_nil (w : World) : (Instr.typeAssert .nilIface 20 3 true).run Tryd.prog w = .ok (.tuple #[.int .i64 0, .bool false]) w := by
  simp [Instr.typeAssert, run_underlying Tryd.underlying3, Tryd.zeroValue3]
theorem taS_hit (v : Value) (w : World) : (Instr.typeAssert (.iface 9 v) 20 9 true).run Tryd.prog w = .ok (.tuple #[v, .bool true]) w := by
  simp [Instr.typeAssert, run_underlying Tryd.underlying9]
theorem taS_miss {u : TypeId} (hu : u ≠ 9) (v : Value) (w : World) : (Instr.typeAssert (.iface u v) 20 9 true).run Tryd.prog w = .ok (.tuple #[.string { data := #[] }, .bool false]) w := by
  simp [Instr.typeAssert, run_underlying Tryd.underlying9, hu, Tryd.zeroValue9]
theorem taS_nil (w : World) : (Instr.typeAssert .nilIface 20 9 true).run Tryd.prog w = .ok (.tuple #[.string { data := #[] }, .bool false]) w := by
  simp [Instr.typeAssert, run_underlying Tryd.underlying9, Tryd.zeroValue9]
theorem taR_hit (v : Value) (w : World) : (Instr.typeAssert (.iface 21 v) 20 21 true).run Tryd.prog w = .ok (.tuple #[v, .bool true]) w := by
  simp [Instr.typeAssert, run_underlying Tryd.underlying21]
theorem taR_miss {u : TypeId} (hu : u ≠ 21) (v : Value) (w : World) : (Instr.typeAssert (.iface u v) 20 21 true).run Tryd.prog w = .ok (.tuple #[.int .i32 0, .bool false]) w := by
  simp [Instr.typeAssert, run_underlying Tryd.underlying21, hu, Tryd.zeroValue21]
theorem taR_nil (w : World) : (Instr.typeAssert .nilIface 20 21 true).run Tryd.prog w = .ok (.tuple #[.int .i32 0, .bool false]) w := by
  simp [Instr.typeAssert, run_underlying Tryd.underlying21, Tryd.zeroValue21]
theorem taL_hit (v : Value) (w : World) : (Instr.typeAssert (.iface 33 v) 20 33 true).run Tryd.prog w = .ok (.tuple #[v, .bool true]) w := by
  simp [Instr.typeAssert, run_underlying Tryd.underlying33]
theorem taL_miss {u : TypeId} (hu : u ≠ 33) (v : Value) (w : World) : (Instr.typeAssert (.iface u v) 20 33 true).run Tryd.prog w = .ok (.tuple #[.slice none 0 0, .bool false]) w := by
  simp [Instr.typeAssert, run_underlying Tryd.underlying33, hu, Tryd.zeroValue33]
theorem taL_nil (w : World) : (Instr.typeAssert .nilIface 20 33 true).run Tryd.prog w = .ok (.tuple #[.slice none 0 0, .bool false]) w := by
  simp [Instr.typeAssert, run_underlying Tryd.underlying33, Tryd.zeroValue33]

theorem kind_num (n : Int) (w : World) : Calls Tryd.prog 15 #[(Atom.num n).val] w fun e w' => e = .returned (.int .i64 1) ∧ w = w' := by
  have hI := taI_hit
  have hS := taS_miss (u := 3) (by decide)
  have hR := taR_miss (u := 3) (by decide)
  have hL := taL_miss (u := 3) (by decide)
  go_enter Tryd.func15, Tryd.ntmps15
  simp only [Atom.val]
  go_wp2
  go_ret
  exact ⟨rfl, rfl⟩
theorem kind_txt (s : ByteArray) (w : World) : Calls Tryd.prog 15 #[(Atom.txt s).val] w fun e w' => e = .returned (.int .i64 2) ∧ w = w' := by
  have hI := taI_miss (u := 9) (by decide)
  have hS := taS_hit
  have hR := taR_miss (u := 9) (by decide)
  have hL := taL_miss (u := 9) (by decide)
  go_enter Tryd.func15, Tryd.ntmps15
  simp only [Atom.val]
  go_wp2
  go_ret
  exact ⟨rfl, rfl⟩
theorem kind_sgn (r : Int) (w : World) : Calls Tryd.prog 15 #[(Atom.sgn r).val] w fun e w' => e = .returned (.int .i64 3) ∧ w = w' := by
  have hI := taI_miss (u := 21) (by decide)
  have hS := taS_miss (u := 21) (by decide)
  have hR := taR_hit
  have hL := taL_miss (u := 21) (by decide)
  go_enter Tryd.func15, Tryd.ntmps15
  simp only [Atom.val]
  go_wp2
  go_ret
  exact ⟨rfl, rfl⟩
theorem kind_flt (x : Value) (w : World) : Calls Tryd.prog 15 #[(Atom.flt x).val] w fun e w' => e = .returned (.int .i64 0) ∧ w = w' := by
  have hI := taI_miss (u := 47) (by decide)
  have hS := taS_miss (u := 47) (by decide)
  have hR := taR_miss (u := 47) (by decide)
  have hL := taL_miss (u := 47) (by decide)
  go_enter Tryd.func15, Tryd.ntmps15
  simp only [Atom.val]
  go_wp2
  go_ret
  exact ⟨rfl, rfl⟩
theorem kind_nil  (w : World) : Calls Tryd.prog 15 #[Atom.nil.val] w fun e w' => e = .returned (.int .i64 0) ∧ w = w' := by
  have hI := taI_nil
  have hS := taS_nil
  have hR := taR_nil
  have hL := taL_nil
  go_enter Tryd.func15, Tryd.ntmps15
  simp only [Atom.val]
  go_wp2
  go_ret
  exact ⟨rfl, rfl⟩
theorem kind_lst (a : Option Addr) (n c : Nat) (w : World) : Calls Tryd.prog 15 #[Value.iface 33 (.slice a n c)] w fun e w' => e = .returned (.int .i64 4) ∧ w = w' := by
  have hI := taI_miss (u := 33) (by decide)
  have hS := taS_miss (u := 33) (by decide)
  have hR := taR_miss (u := 33) (by decide)
  have hL := taL_hit
  go_enter Tryd.func15, Tryd.ntmps15
  go_wp2
  go_ret
  exact ⟨rfl, rfl⟩
theorem num_num (n : Int) (w : World) : Calls Tryd.prog 10 #[(Atom.num n).val] w fun e w' => e = .returned (.tuple #[.int .i64 n, .bool true]) ∧ w = w' := by
  have hI := taI_hit
  go_enter Tryd.func10, Tryd.ntmps10
  simp only [Atom.val]
  go_wp2
  go_ret2
  exact ⟨rfl, rfl⟩
theorem num_txt (s : ByteArray) (w : World) : Calls Tryd.prog 10 #[(Atom.txt s).val] w fun e w' => e = .returned (.tuple #[.int .i64 0, .bool false]) ∧ w = w' := by
  have hI := taI_miss (u := 9) (by decide)
  go_enter Tryd.func10, Tryd.ntmps10
  simp only [Atom.val]
  go_wp2
  go_ret2
  exact ⟨rfl, rfl⟩
theorem num_sgn (r : Int) (w : World) : Calls Tryd.prog 10 #[(Atom.sgn r).val] w fun e w' => e = .returned (.tuple #[.int .i64 0, .bool false]) ∧ w = w' := by
  have hI := taI_miss (u := 21) (by decide)
  go_enter Tryd.func10, Tryd.ntmps10
  simp only [Atom.val]
  go_wp2
  go_ret2
  exact ⟨rfl, rfl⟩
theorem num_flt (x : Value) (w : World) : Calls Tryd.prog 10 #[(Atom.flt x).val] w fun e w' => e = .returned (.tuple #[.int .i64 0, .bool false]) ∧ w = w' := by
  have hI := taI_miss (u := 47) (by decide)
  go_enter Tryd.func10, Tryd.ntmps10
  simp only [Atom.val]
  go_wp2
  go_ret2
  exact ⟨rfl, rfl⟩
theorem num_nil  (w : World) : Calls Tryd.prog 10 #[Atom.nil.val] w fun e w' => e = .returned (.tuple #[.int .i64 0, .bool false]) ∧ w = w' := by
  have hI := taI_nil
  go_enter Tryd.func10, Tryd.ntmps10
  simp only [Atom.val]
  go_wp2
  go_ret2
  exact ⟨rfl, rfl⟩
theorem num_lst (a : Option Addr) (n c : Nat) (w : World) : Calls Tryd.prog 10 #[Value.iface 33 (.slice a n c)] w fun e w' => e = .returned (.tuple #[.int .i64 0, .bool false]) ∧ w = w' := by
  have hI := taI_miss (u := 33) (by decide)
  go_enter Tryd.func10, Tryd.ntmps10
  go_wp2
  go_ret2
  exact ⟨rfl, rfl⟩
theorem str_num (n : Int) (w : World) : Calls Tryd.prog 11 #[(Atom.num n).val] w fun e w' => e = .returned (.tuple #[.string { data := #[] }, .bool false]) ∧ w = w' := by
  have hS := taS_miss (u := 3) (by decide)
  go_enter Tryd.func11, Tryd.ntmps11
  simp only [Atom.val]
  go_wp2
  go_ret2
  exact ⟨rfl, rfl⟩
theorem str_txt (s : ByteArray) (w : World) : Calls Tryd.prog 11 #[(Atom.txt s).val] w fun e w' => e = .returned (.tuple #[.string s, .bool true]) ∧ w = w' := by
  have hS := taS_hit
  go_enter Tryd.func11, Tryd.ntmps11
  simp only [Atom.val]
  go_wp2
  go_ret2
  exact ⟨rfl, rfl⟩
theorem str_sgn (r : Int) (w : World) : Calls Tryd.prog 11 #[(Atom.sgn r).val] w fun e w' => e = .returned (.tuple #[.string { data := #[] }, .bool false]) ∧ w = w' := by
  have hS := taS_miss (u := 21) (by decide)
  go_enter Tryd.func11, Tryd.ntmps11
  simp only [Atom.val]
  go_wp2
  go_ret2
  exact ⟨rfl, rfl⟩
theorem str_flt (x : Value) (w : World) : Calls Tryd.prog 11 #[(Atom.flt x).val] w fun e w' => e = .returned (.tuple #[.string { data := #[] }, .bool false]) ∧ w = w' := by
  have hS := taS_miss (u := 47) (by decide)
  go_enter Tryd.func11, Tryd.ntmps11
  simp only [Atom.val]
  go_wp2
  go_ret2
  exact ⟨rfl, rfl⟩
theorem str_nil  (w : World) : Calls Tryd.prog 11 #[Atom.nil.val] w fun e w' => e = .returned (.tuple #[.string { data := #[] }, .bool false]) ∧ w = w' := by
  have hS := taS_nil
  go_enter Tryd.func11, Tryd.ntmps11
  simp only [Atom.val]
  go_wp2
  go_ret2
  exact ⟨rfl, rfl⟩
theorem str_lst (a : Option Addr) (n c : Nat) (w : World) : Calls Tryd.prog 11 #[Value.iface 33 (.slice a n c)] w fun e w' => e = .returned (.tuple #[.string { data := #[] }, .bool false]) ∧ w = w' := by
  have hS := taS_miss (u := 33) (by decide)
  go_enter Tryd.func11, Tryd.ntmps11
  go_wp2
  go_ret2
  exact ⟨rfl, rfl⟩
theorem rune_num (n : Int) (w : World) : Calls Tryd.prog 12 #[(Atom.num n).val] w fun e w' => e = .returned (.tuple #[.int .i32 0, .bool false]) ∧ w = w' := by
  have hR := taR_miss (u := 3) (by decide)
  go_enter Tryd.func12, Tryd.ntmps12
  simp only [Atom.val]
  go_wp2
  go_ret2
  exact ⟨rfl, rfl⟩
theorem rune_txt (s : ByteArray) (w : World) : Calls Tryd.prog 12 #[(Atom.txt s).val] w fun e w' => e = .returned (.tuple #[.int .i32 0, .bool false]) ∧ w = w' := by
  have hR := taR_miss (u := 9) (by decide)
  go_enter Tryd.func12, Tryd.ntmps12
  simp only [Atom.val]
  go_wp2
  go_ret2
  exact ⟨rfl, rfl⟩
theorem rune_sgn (r : Int) (w : World) : Calls Tryd.prog 12 #[(Atom.sgn r).val] w fun e w' => e = .returned (.tuple #[.int .i32 r, .bool true]) ∧ w = w' := by
  have hR := taR_hit
  go_enter Tryd.func12, Tryd.ntmps12
  simp only [Atom.val]
  go_wp2
  go_ret2
  exact ⟨rfl, rfl⟩
theorem rune_flt (x : Value) (w : World) : Calls Tryd.prog 12 #[(Atom.flt x).val] w fun e w' => e = .returned (.tuple #[.int .i32 0, .bool false]) ∧ w = w' := by
  have hR := taR_miss (u := 47) (by decide)
  go_enter Tryd.func12, Tryd.ntmps12
  simp only [Atom.val]
  go_wp2
  go_ret2
  exact ⟨rfl, rfl⟩
theorem rune_nil  (w : World) : Calls Tryd.prog 12 #[Atom.nil.val] w fun e w' => e = .returned (.tuple #[.int .i32 0, .bool false]) ∧ w = w' := by
  have hR := taR_nil
  go_enter Tryd.func12, Tryd.ntmps12
  simp only [Atom.val]
  go_wp2
  go_ret2
  exact ⟨rfl, rfl⟩
theorem rune_lst (a : Option Addr) (n c : Nat) (w : World) : Calls Tryd.prog 12 #[Value.iface 33 (.slice a n c)] w fun e w' => e = .returned (.tuple #[.int .i32 0, .bool false]) ∧ w = w' := by
  have hR := taR_miss (u := 33) (by decide)
  go_enter Tryd.func12, Tryd.ntmps12
  go_wp2
  go_ret2
  exact ⟨rfl, rfl⟩
theorem items_num (n : Int) (w : World) : Calls Tryd.prog 13 #[(Atom.num n).val] w fun e w' => e = .returned (.tuple #[.slice none 0 0, .bool false]) ∧ w = w' := by
  have hL := taL_miss (u := 3) (by decide)
  go_enter Tryd.func13, Tryd.ntmps13
  simp only [Atom.val]
  go_wp2
  go_ret2
  exact ⟨rfl, rfl⟩
theorem items_txt (s : ByteArray) (w : World) : Calls Tryd.prog 13 #[(Atom.txt s).val] w fun e w' => e = .returned (.tuple #[.slice none 0 0, .bool false]) ∧ w = w' := by
  have hL := taL_miss (u := 9) (by decide)
  go_enter Tryd.func13, Tryd.ntmps13
  simp only [Atom.val]
  go_wp2
  go_ret2
  exact ⟨rfl, rfl⟩
theorem items_sgn (r : Int) (w : World) : Calls Tryd.prog 13 #[(Atom.sgn r).val] w fun e w' => e = .returned (.tuple #[.slice none 0 0, .bool false]) ∧ w = w' := by
  have hL := taL_miss (u := 21) (by decide)
  go_enter Tryd.func13, Tryd.ntmps13
  simp only [Atom.val]
  go_wp2
  go_ret2
  exact ⟨rfl, rfl⟩
theorem items_flt (x : Value) (w : World) : Calls Tryd.prog 13 #[(Atom.flt x).val] w fun e w' => e = .returned (.tuple #[.slice none 0 0, .bool false]) ∧ w = w' := by
  have hL := taL_miss (u := 47) (by decide)
  go_enter Tryd.func13, Tryd.ntmps13
  simp only [Atom.val]
  go_wp2
  go_ret2
  exact ⟨rfl, rfl⟩
theorem items_nil  (w : World) : Calls Tryd.prog 13 #[Atom.nil.val] w fun e w' => e = .returned (.tuple #[.slice none 0 0, .bool false]) ∧ w = w' := by
  have hL := taL_nil
  go_enter Tryd.func13, Tryd.ntmps13
  simp only [Atom.val]
  go_wp2
  go_ret2
  exact ⟨rfl, rfl⟩
theorem items_lst (a : Option Addr) (n c : Nat) (w : World) : Calls Tryd.prog 13 #[Value.iface 33 (.slice a n c)] w fun e w' => e = .returned (.tuple #[.slice a n c, .bool true]) ∧ w = w' := by
  have hL := taL_hit
  go_enter Tryd.func13, Tryd.ntmps13
  go_wp2
  go_ret2
  exact ⟨rfl, rfl⟩
end Go.Proofs.YtonnbckjlfadcaaDoor
