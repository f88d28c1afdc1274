/- Contracts of MustNum, MustStr, and of the law's num and str, that recover. -/
import Derived.Test.YtonnbckjlfadcaaDoorValK
import Derived.Recover
namespace Go.Proofs.YtonnbckjlfadcaaDoor
open Go.RowKit


theorem taI_bad {u : TypeId} (hu : u ≠ 3) (v : Value) (w : World) : (Instr.typeAssert (.iface u v) 20 3 false).run Tryd.prog w = .halt (.panic (.iface 15 (.pointer (some ⟨w.heap.size, 0, none⟩))))
    (w.alloc (.cells #[typeHandle Tryd.prog 20, typeHandle Tryd.prog u, typeHandle Tryd.prog 3, strVal ""] 95)) := by
  simp [Instr.typeAssert, run_underlying Tryd.underlying3, hu, runtimePanic, newVar, elemOf, run_underlying Tryd.underlying15]
  rfl
theorem taI_badnil (w : World) : (Instr.typeAssert .nilIface 20 3 false).run Tryd.prog w = .halt (.panic (.iface 15 (.pointer (some ⟨w.heap.size, 0, none⟩))))
    (w.alloc (.cells #[typeHandle Tryd.prog 20, .pointer none, typeHandle Tryd.prog 3, strVal ""] 95)) := by
  simp [Instr.typeAssert, run_underlying Tryd.underlying3, runtimePanic, newVar, elemOf, run_underlying Tryd.underlying15]
  rfl
theorem taI_good (v : Value) (w : World) : (Instr.typeAssert (.iface 3 v) 20 3 false).run Tryd.prog w = .ok v w := by
  simp [Instr.typeAssert, run_underlying Tryd.underlying3]

theorem mustnum_yes (n : Int) (w : World) : Calls Tryd.prog 23 #[(Atom.num n).val] w fun e w' => e = .returned (.int .i64 n) ∧ w = w' := by
  have h := taI_good
  simp only [Atom.val]
  go_enter Tryd.func23, Tryd.ntmps23
  go_wp2
  go_ret
  exact ⟨rfl, rfl⟩

/-- It is none. -/
def not_num (v : Value) : Prop := v = .nilIface ∨ ∃ u y, v = .iface u y ∧ u ≠ 3

theorem mustnum_no {v : Value} (hv : not_num v) (w : World) : Calls Tryd.prog 23 #[v] w fun e w' => ∃ u pv, e = .panicked [{ v := .iface u pv, recovered := false }] ∧ Below w.heap.size w w' := by
  rcases hv with rfl | ⟨u, y, rfl, hu⟩
  · have h := taI_badnil
    go_enter Tryd.func23, Tryd.ntmps23
    go_wp2
    exact ⟨rfl, _, _, rfl, (Below.refl _ _).alloc (Nat.le_refl _) _⟩
  · have h := @taI_bad u hu
    clear hu
    go_enter Tryd.func23, Tryd.ntmps23
    go_wp2
    exact ⟨rfl, _, _, rfl, (Below.refl _ _).alloc (Nat.le_refl _) _⟩

theorem num_catch (g k : Nat) (x : Int) (y : Bool) (u : TypeId) (pv : Value) (older : List PanicEntry) (w : World) (h1 : w.cell? ⟨g, 0, none⟩ = some (.int .i64 x)) (f1 : w.frozen? ⟨g, 0, none⟩ = false) (h2 : (w.setCell ⟨g, 0, none⟩ (.int .i64 0)).cell? ⟨k, 0, none⟩ = some (.bool y)) (f2 : w.frozen? ⟨k, 0, none⟩ = false) :
    CallsD Tryd.prog 25 #[.pointer (some ⟨g, 0, none⟩), .pointer (some ⟨k, 0, none⟩)] (.panicking ({ v := .iface u pv, recovered := false } :: older)) w fun e u' w' =>
      e = .returned (.tuple #[]) ∧ u' = .panicking ({ v := .iface u pv, recovered := true } :: older) ∧ w' = (w.setCell ⟨g, 0, none⟩ (.int .i64 0)).setCell ⟨k, 0, none⟩ (.bool false) := by
  refine callsD_of_wpS Tryd.func25 rfl fun c₀ cs hu => ?_
  apply wpS_seq
  apply wpS_region
  simp [wpOpsS, go_sem, recoverD, hu, Tryd.ntmps25, Exit.thenS]
  refine wpS_cond (t := true) (by simp [Act.eval, Array.replicate]) ?_
  simp only [if_true]
  apply wpS_region
  simp [wpOpsS, go_sem, h1, f1, h2, f2, bodyPostS, results, Tryd.results25]

theorem num_idle (g k : Nat) (w : World) :
    CallsD Tryd.prog 25 #[.pointer (some ⟨g, 0, none⟩), .pointer (some ⟨k, 0, none⟩)] .returning w fun e u' w' => e = .returned (.tuple #[]) ∧ u' = .returning ∧ w' = w := by
  refine callsD_of_wpS Tryd.func25 rfl fun c₀ cs hu => ?_
  apply wpS_seq
  apply wpS_region
  simp [wpOpsS, go_sem, recoverD, hu, Tryd.ntmps25, Exit.thenS]
  refine wpS_cond (t := false) (by simp [Act.eval, Array.replicate]) ?_
  simp only [Bool.false_eq_true, if_false]
  refine wpS_of_wp (wp_skip ?_)
  cases c₀
  simp_all [bodyPostS, results, Tryd.results25]

theorem num_yes (n : Int) (w : World) : Calls Tryd.prog 17 #[(Atom.num n).val] w fun e w' => e = .returned (.tuple #[.int .i64 n, .bool true]) ∧ Below w.heap.size w w' := by
  have hmf : ∀ (fn : Fn) (first cap : Array Value) (w : World), (Instr.makeFunc fn first cap).run Tryd.prog w = .ok (.func fn first cap) w := fun _ _ _ _ => rfl
  have hm := mustnum_yes
  simp only [Atom.val] at hm ⊢
  have HM := Lib.hid hm; clear hm
  go_enter_defers Tryd.func17, Tryd.ntmps17
  go_wp2_with (refine (HM.out _ _).mono ?_; rintro e w1 ⟨rfl, rfl⟩)
  refine leaves_cons (f := 25) (args := #[.pointer (some ⟨w.heap.size, 0, none⟩), .pointer (some ⟨w.heap.size + 1, 0, none⟩)]) (by simp) (by simp [go_sem]) ?_
  refine (num_idle _ _ _).mono ?_
  rintro e u' w'' ⟨rfl, rfl, rfl⟩
  simp [Leaves, settle, results, Tryd.results17, go_sem]
  exact ((Below.refl _ _).alloc (Nat.le_refl _) _).alloc (by simp) _

theorem num_no {v : Value} (hv : not_num v) (w : World) : Calls Tryd.prog 17 #[v] w fun e w' => e = .returned (.tuple #[.int .i64 0, .bool false]) ∧ Below w.heap.size w w' := by
  have hmf : ∀ (fn : Fn) (first cap : Array Value) (w : World), (Instr.makeFunc fn first cap).run Tryd.prog w = .ok (.func fn first cap) w := fun _ _ _ _ => rfl
  have HM := Lib.hid (mustnum_no hv)
  clear hv
  go_enter_defers Tryd.func17, Tryd.ntmps17
  go_wp2_with (refine (HM.out _).mono ?_; rintro e w1 ⟨u, pv, rfl, hb⟩)
  have k1 := (Blk.new w 3 #[.int .i64 0]).alloc (.cells #[.bool false] 4)
  have k2 := Blk.new (w.alloc (.cells #[.int .i64 0] 3)) 4 #[.bool false]
  have j1 := k1.below hb k1.lt
  have j2 := k2.below hb k2.lt
  simp at j2
  have B : Below w.heap.size w w1 := ((((Below.refl w.heap.size w).alloc (Nat.le_refl _) _).alloc (by simp) _).trans (hb.mono (by simp; omega)))
  refine leaves_cons (f := 25) (args := #[.pointer (some ⟨w.heap.size, 0, none⟩), .pointer (some ⟨w.heap.size + 1, 0, none⟩)]) (by simp) (by simp [go_sem]) ?_
  refine (num_catch _ _ _ _ _ _ _ _ (j1.cell 0) (j1.frozen 0) ((j2.far (p := ⟨w.heap.size, 0, none⟩) (by simp) _).cell 0) (j2.frozen 0)).mono ?_
  rintro e u' w'' ⟨rfl, rfl, rfl⟩
  have e1 := (j1.set_ 0 (.int .i64 0)).far (p := ⟨w.heap.size + 1, 0, none⟩) (by simp) (.bool false)
  have e2 := (j2.far (p := ⟨w.heap.size, 0, none⟩) (by simp) (.int .i64 0)).set_ 0 (.bool false)
  have c1 := e1.cell 0
  have c2 := e2.cell 0
  simp at c1 c2
  simp [Leaves, settle, results, Tryd.results17, go_sem, c1, c2]
  exact (B.setCell (p := ⟨w.heap.size, 0, none⟩) (Nat.le_refl _) _).setCell (p := ⟨w.heap.size + 1, 0, none⟩) (by simp) _


theorem taS_bad {u : TypeId} (hu : u ≠ 9) (v : Value) (w : World) : (Instr.typeAssert (.iface u v) 20 9 false).run Tryd.prog w = .halt (.panic (.iface 15 (.pointer (some ⟨w.heap.size, 0, none⟩))))
    (w.alloc (.cells #[typeHandle Tryd.prog 20, typeHandle Tryd.prog u, typeHandle Tryd.prog 9, strVal ""] 95)) := by
  simp [Instr.typeAssert, run_underlying Tryd.underlying9, hu, runtimePanic, newVar, elemOf, run_underlying Tryd.underlying15]
  rfl
theorem taS_badnil (w : World) : (Instr.typeAssert .nilIface 20 9 false).run Tryd.prog w = .halt (.panic (.iface 15 (.pointer (some ⟨w.heap.size, 0, none⟩))))
    (w.alloc (.cells #[typeHandle Tryd.prog 20, .pointer none, typeHandle Tryd.prog 9, strVal ""] 95)) := by
  simp [Instr.typeAssert, run_underlying Tryd.underlying9, runtimePanic, newVar, elemOf, run_underlying Tryd.underlying15]
  rfl
theorem taS_good (v : Value) (w : World) : (Instr.typeAssert (.iface 9 v) 20 9 false).run Tryd.prog w = .ok v w := by
  simp [Instr.typeAssert, run_underlying Tryd.underlying9]

theorem muststr_yes (s : ByteArray) (w : World) : Calls Tryd.prog 24 #[(Atom.txt s).val] w fun e w' => e = .returned (.string s) ∧ w = w' := by
  have h := taS_good
  simp only [Atom.val]
  go_enter Tryd.func24, Tryd.ntmps24
  go_wp2
  go_ret
  exact ⟨rfl, rfl⟩

/-- It is none. -/
def not_str (v : Value) : Prop := v = .nilIface ∨ ∃ u y, v = .iface u y ∧ u ≠ 9

theorem muststr_no {v : Value} (hv : not_str v) (w : World) : Calls Tryd.prog 24 #[v] w fun e w' => ∃ u pv, e = .panicked [{ v := .iface u pv, recovered := false }] ∧ Below w.heap.size w w' := by
  rcases hv with rfl | ⟨u, y, rfl, hu⟩
  · have h := taS_badnil
    go_enter Tryd.func24, Tryd.ntmps24
    go_wp2
    exact ⟨rfl, _, _, rfl, (Below.refl _ _).alloc (Nat.le_refl _) _⟩
  · have h := @taS_bad u hu
    clear hu
    go_enter Tryd.func24, Tryd.ntmps24
    go_wp2
    exact ⟨rfl, _, _, rfl, (Below.refl _ _).alloc (Nat.le_refl _) _⟩

theorem str_catch (g k : Nat) (x : ByteArray) (y : Bool) (u : TypeId) (pv : Value) (older : List PanicEntry) (w : World) (h1 : w.cell? ⟨g, 0, none⟩ = some (.string x)) (f1 : w.frozen? ⟨g, 0, none⟩ = false) (h2 : (w.setCell ⟨g, 0, none⟩ (.string { data := #[] })).cell? ⟨k, 0, none⟩ = some (.bool y)) (f2 : w.frozen? ⟨k, 0, none⟩ = false) :
    CallsD Tryd.prog 26 #[.pointer (some ⟨g, 0, none⟩), .pointer (some ⟨k, 0, none⟩)] (.panicking ({ v := .iface u pv, recovered := false } :: older)) w fun e u' w' =>
      e = .returned (.tuple #[]) ∧ u' = .panicking ({ v := .iface u pv, recovered := true } :: older) ∧ w' = (w.setCell ⟨g, 0, none⟩ (.string { data := #[] })).setCell ⟨k, 0, none⟩ (.bool false) := by
  refine callsD_of_wpS Tryd.func26 rfl fun c₀ cs hu => ?_
  apply wpS_seq
  apply wpS_region
  simp [wpOpsS, go_sem, recoverD, hu, Tryd.ntmps26, Exit.thenS]
  refine wpS_cond (t := true) (by simp [Act.eval, Array.replicate]) ?_
  simp only [if_true]
  apply wpS_region
  simp [wpOpsS, go_sem, h1, f1, h2, f2, bodyPostS, results, Tryd.results26]

theorem str_idle (g k : Nat) (w : World) :
    CallsD Tryd.prog 26 #[.pointer (some ⟨g, 0, none⟩), .pointer (some ⟨k, 0, none⟩)] .returning w fun e u' w' => e = .returned (.tuple #[]) ∧ u' = .returning ∧ w' = w := by
  refine callsD_of_wpS Tryd.func26 rfl fun c₀ cs hu => ?_
  apply wpS_seq
  apply wpS_region
  simp [wpOpsS, go_sem, recoverD, hu, Tryd.ntmps26, Exit.thenS]
  refine wpS_cond (t := false) (by simp [Act.eval, Array.replicate]) ?_
  simp only [Bool.false_eq_true, if_false]
  refine wpS_of_wp (wp_skip ?_)
  cases c₀
  simp_all [bodyPostS, results, Tryd.results26]

theorem str_yes (s : ByteArray) (w : World) : Calls Tryd.prog 18 #[(Atom.txt s).val] w fun e w' => e = .returned (.tuple #[.string s, .bool true]) ∧ Below w.heap.size w w' := by
  have hmf : ∀ (fn : Fn) (first cap : Array Value) (w : World), (Instr.makeFunc fn first cap).run Tryd.prog w = .ok (.func fn first cap) w := fun _ _ _ _ => rfl
  have hm := muststr_yes
  simp only [Atom.val] at hm ⊢
  have HM := Lib.hid hm; clear hm
  go_enter_defers Tryd.func18, Tryd.ntmps18
  go_wp2_with (refine (HM.out _ _).mono ?_; rintro e w1 ⟨rfl, rfl⟩)
  refine leaves_cons (f := 26) (args := #[.pointer (some ⟨w.heap.size, 0, none⟩), .pointer (some ⟨w.heap.size + 1, 0, none⟩)]) (by simp) (by simp [go_sem]) ?_
  refine (str_idle _ _ _).mono ?_
  rintro e u' w'' ⟨rfl, rfl, rfl⟩
  simp [Leaves, settle, results, Tryd.results18, go_sem]
  exact ((Below.refl _ _).alloc (Nat.le_refl _) _).alloc (by simp) _

theorem str_no {v : Value} (hv : not_str v) (w : World) : Calls Tryd.prog 18 #[v] w fun e w' => e = .returned (.tuple #[.string { data := #[] }, .bool false]) ∧ Below w.heap.size w w' := by
  have hmf : ∀ (fn : Fn) (first cap : Array Value) (w : World), (Instr.makeFunc fn first cap).run Tryd.prog w = .ok (.func fn first cap) w := fun _ _ _ _ => rfl
  have HM := Lib.hid (muststr_no hv)
  clear hv
  go_enter_defers Tryd.func18, Tryd.ntmps18
  go_wp2_with (refine (HM.out _).mono ?_; rintro e w1 ⟨u, pv, rfl, hb⟩)
  have k1 := (Blk.new w 9 #[.string { data := #[] }]).alloc (.cells #[.bool false] 4)
  have k2 := Blk.new (w.alloc (.cells #[.string { data := #[] }] 9)) 4 #[.bool false]
  have j1 := k1.below hb k1.lt
  have j2 := k2.below hb k2.lt
  simp at j2
  have B : Below w.heap.size w w1 := ((((Below.refl w.heap.size w).alloc (Nat.le_refl _) _).alloc (by simp) _).trans (hb.mono (by simp; omega)))
  refine leaves_cons (f := 26) (args := #[.pointer (some ⟨w.heap.size, 0, none⟩), .pointer (some ⟨w.heap.size + 1, 0, none⟩)]) (by simp) (by simp [go_sem]) ?_
  refine (str_catch _ _ _ _ _ _ _ _ (j1.cell 0) (j1.frozen 0) ((j2.far (p := ⟨w.heap.size, 0, none⟩) (by simp) _).cell 0) (j2.frozen 0)).mono ?_
  rintro e u' w'' ⟨rfl, rfl, rfl⟩
  have e1 := (j1.set_ 0 (.string { data := #[] })).far (p := ⟨w.heap.size + 1, 0, none⟩) (by simp) (.bool false)
  have e2 := (j2.far (p := ⟨w.heap.size, 0, none⟩) (by simp) (.string { data := #[] })).set_ 0 (.bool false)
  have c1 := e1.cell 0
  have c2 := e2.cell 0
  simp at c1 c2
  simp [Leaves, settle, results, Tryd.results18, go_sem, c1, c2]
  exact (B.setCell (p := ⟨w.heap.size, 0, none⟩) (Nat.le_refl _) _).setCell (p := ⟨w.heap.size + 1, 0, none⟩) (by simp) _

end Go.Proofs.YtonnbckjlfadcaaDoor
