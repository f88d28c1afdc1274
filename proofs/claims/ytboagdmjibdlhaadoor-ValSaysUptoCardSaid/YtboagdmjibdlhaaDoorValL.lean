/- Contracts of MustNum, MustStr, and of the law's num and str, that recover. -/
import Derived.Test.YtboagdmjibdlhaaDoorValK
import Derived.Recover
namespace Go.Proofs.YtboagdmjibdlhaaDoor
set_option maxRecDepth 100000
open Go.RowKit


theorem taI_bad {u : TypeId} (hu : u ≠ 3) (v : Value) (w : World) : (Instr.typeAssert (.iface u v) 20 3 false).run Tryd.prog w = .halt (.panic (.iface 15 (.pointer (some ⟨w.heap.size, 0, none⟩))))
    (w.alloc (.cells #[typeHandle Tryd.prog 20, typeHandle Tryd.prog u, typeHandle Tryd.prog 3, strVal ""] 112)) := by
  simp [Instr.typeAssert, run_underlying Tryd.underlying3, hu, runtimePanic, newVar, elemOf, run_underlying Tryd.underlying15]
  rfl
theorem taI_badnil (w : World) : (Instr.typeAssert .nilIface 20 3 false).run Tryd.prog w = .halt (.panic (.iface 15 (.pointer (some ⟨w.heap.size, 0, none⟩))))
    (w.alloc (.cells #[typeHandle Tryd.prog 20, .pointer none, typeHandle Tryd.prog 3, strVal ""] 112)) := by
  simp [Instr.typeAssert, run_underlying Tryd.underlying3, runtimePanic, newVar, elemOf, run_underlying Tryd.underlying15]
  rfl
theorem taI_good (v : Value) (w : World) : (Instr.typeAssert (.iface 3 v) 20 3 false).run Tryd.prog w = .ok v w := by
  simp [Instr.typeAssert, run_underlying Tryd.underlying3]

theorem mustnum_yes (n : Int) (w : World) : Calls Tryd.prog 28 #[(Atom.num n).val] w fun e w' => e = .returned (.int .i64 n) ∧ w = w' := by
  have h := taI_good
  simp only [Atom.val]
  go_enter Tryd.func28, Tryd.ntmps28
  go_wp2
  go_ret
  exact ⟨rfl, rfl⟩

/-- It is none. -/
def not_num (v : Value) : Prop := v = .nilIface ∨ ∃ u y, v = .iface u y ∧ u ≠ 3

theorem mustnum_no {v : Value} (hv : not_num v) (w : World) : Calls Tryd.prog 28 #[v] w fun e w' => ∃ u pv, e = .panicked [{ v := .iface u pv, recovered := false }] ∧ Below w.heap.size w w' := by
  rcases hv with rfl | ⟨u, y, rfl, hu⟩
  · have h := taI_badnil
    go_enter Tryd.func28, Tryd.ntmps28
    go_wp2
    exact ⟨rfl, _, _, rfl, (Below.refl _ _).alloc (Nat.le_refl _) _⟩
  · have h := @taI_bad u hu
    clear hu
    go_enter Tryd.func28, Tryd.ntmps28
    go_wp2
    exact ⟨rfl, _, _, rfl, (Below.refl _ _).alloc (Nat.le_refl _) _⟩

theorem taS_bad {u : TypeId} (hu : u ≠ 9) (v : Value) (w : World) : (Instr.typeAssert (.iface u v) 20 9 false).run Tryd.prog w = .halt (.panic (.iface 15 (.pointer (some ⟨w.heap.size, 0, none⟩))))
    (w.alloc (.cells #[typeHandle Tryd.prog 20, typeHandle Tryd.prog u, typeHandle Tryd.prog 9, strVal ""] 112)) := by
  simp [Instr.typeAssert, run_underlying Tryd.underlying9, hu, runtimePanic, newVar, elemOf, run_underlying Tryd.underlying15]
  rfl
theorem taS_badnil (w : World) : (Instr.typeAssert .nilIface 20 9 false).run Tryd.prog w = .halt (.panic (.iface 15 (.pointer (some ⟨w.heap.size, 0, none⟩))))
    (w.alloc (.cells #[typeHandle Tryd.prog 20, .pointer none, typeHandle Tryd.prog 9, strVal ""] 112)) := by
  simp [Instr.typeAssert, run_underlying Tryd.underlying9, runtimePanic, newVar, elemOf, run_underlying Tryd.underlying15]
  rfl
theorem taS_good (v : Value) (w : World) : (Instr.typeAssert (.iface 9 v) 20 9 false).run Tryd.prog w = .ok v w := by
  simp [Instr.typeAssert, run_underlying Tryd.underlying9]

theorem muststr_yes (s : ByteArray) (w : World) : Calls Tryd.prog 29 #[(Atom.txt s).val] w fun e w' => e = .returned (.string s) ∧ w = w' := by
  have h := taS_good
  simp only [Atom.val]
  go_enter Tryd.func29, Tryd.ntmps29
  go_wp2
  go_ret
  exact ⟨rfl, rfl⟩

/-- It is none. -/
def not_str (v : Value) : Prop := v = .nilIface ∨ ∃ u y, v = .iface u y ∧ u ≠ 9

theorem muststr_no {v : Value} (hv : not_str v) (w : World) : Calls Tryd.prog 29 #[v] w fun e w' => ∃ u pv, e = .panicked [{ v := .iface u pv, recovered := false }] ∧ Below w.heap.size w w' := by
  rcases hv with rfl | ⟨u, y, rfl, hu⟩
  · have h := taS_badnil
    go_enter Tryd.func29, Tryd.ntmps29
    go_wp2
    exact ⟨rfl, _, _, rfl, (Below.refl _ _).alloc (Nat.le_refl _) _⟩
  · have h := @taS_bad u hu
    clear hu
    go_enter Tryd.func29, Tryd.ntmps29
    go_wp2
    exact ⟨rfl, _, _, rfl, (Below.refl _ _).alloc (Nat.le_refl _) _⟩

end Go.Proofs.YtboagdmjibdlhaaDoor
