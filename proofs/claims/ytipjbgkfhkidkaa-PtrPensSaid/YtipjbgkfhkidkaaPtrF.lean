/- Contracts of Begin, Commit and End; a look in memory. -/
import Derived.Test.YtipjbgkfhkidkaaPtrE
namespace Go.Proofs.Ytipjbgkfhkidkaa
open Go.RowKit

set_option maxRecDepth 100000

section
variable {w : World} {p g n cap k m t : Nat} {c f : Nat → Int} {th tg V T : Int} {S : Nat}

theorem begin_any (hR : Rt V S T) (hth : th = (t : Int) + 1) (htT : th ≤ T) (A : Ar w p g n cap c f) (hk : t < n) (g0 : 0 ≤ tg) (g1 : tg ≤ 16777215) (hm : CB c m) (hb : m ≤ 999990) :
    Calls Try.prog 14 #[vP th tg, .iface 28 (pmV p), vL V S T] w fun e w' =>
      e = .returned (.tuple #[]) ∧ Ar w' p g n cap (upd c 1 (c 1 + 1)) (upd f t (stateV tg false)) ∧ Only p g w w' := by
  have HA := Lib.hid A
  have HM := Lib.hid hm
  have HT := Lib.hid hth
  have HR := Lib.hid hR
  clear A hm hth hR
  go_enter Try.func14, Try.ntmps14
  go_wp2_with fail
  refine (turn_any HR.out HT.out htT false ((HA.out.alloc _).alloc _) hk g0 g1 HM.out hb).mono ?_; rintro e w1 ⟨rfl, A1, O1⟩
  go_wp2_with fail
  go_end0
  exact ⟨rfl, A1, (((Only.refl p g w).alloc _).alloc _).trans O1⟩

theorem commit_any (hR : Rt V S T) (hth : th = (t : Int) + 1) (htT : th ≤ T) (A : Ar w p g n cap c f) (hk : t < n) (g0 : 0 ≤ tg) (g1 : tg ≤ 16777215) (hm : CB c m) (hb : m ≤ 999990) :
    Calls Try.prog 16 #[vP th tg, .iface 28 (pmV p), vL V S T] w fun e w' =>
      e = .returned (.tuple #[]) ∧ Ar w' p g n cap (upd c 1 (c 1 + 1)) (upd f t (stateV tg true)) ∧ Only p g w w' := by
  have HA := Lib.hid A
  have HM := Lib.hid hm
  have HT := Lib.hid hth
  have HR := Lib.hid hR
  clear A hm hth hR
  go_enter Try.func16, Try.ntmps16
  go_wp2_with fail
  refine (turn_any HR.out HT.out htT true ((HA.out.alloc _).alloc _) hk g0 g1 HM.out hb).mono ?_; rintro e w1 ⟨rfl, A1, O1⟩
  go_wp2_with fail
  go_end0
  exact ⟨rfl, A1, (((Only.refl p g w).alloc _).alloc _).trans O1⟩

theorem end_any (hR : Rt V S T) (hth : th = (t : Int) + 1) (htT : th ≤ T) (A : Ar w p g n cap c f) (hk : t < n) (g0 : 0 ≤ tg) (g1 : tg + 1 ≤ 16777215) (hm : CB c m) (hb : m ≤ 999990) :
    Calls Try.prog 18 #[vP th tg, .iface 28 (pmV p), vL V S T] w fun e w' =>
      e = .returned (.tuple #[]) ∧ Ar w' p g n cap (upd c 1 (c 1 + 1)) (upd f t (stateV (tg + 1) false)) ∧ Only p g w w' := by
  have HA := Lib.hid A
  have HM := Lib.hid hm
  have HT := Lib.hid hth
  have HR := Lib.hid hR
  clear A hm hth hR
  go_enter Try.func18, Try.ntmps18
  go_wp2_with fail
  refine (turn_any HR.out HT.out htT false ((HA.out.alloc _).alloc _) hk (by omega) g1 HM.out hb).mono ?_; rintro e w1 ⟨rfl, A1, O1⟩
  go_wp2_with fail
  go_end0
  exact ⟨rfl, A1, (((Only.refl p g w).alloc _).alloc _).trans O1⟩
end

/-- A look in memory: its lay, its cell, the step that comes next, the word that it loaded, its value. -/
def Lk (w : World) (q : Nat) (V : Int) (S : Nat) (T : Int) (k : Nat) (a o x th tg y : Int) : Prop :=
  Blk w q 100 #[.int .i64 V, .int .i64 S, .int .i64 T, .int .i64 (k : Int), .int .i64 a, .int .i64 o, .int .i64 x, .int .i64 th, .int .i64 tg, .int .i64 y]

section
variable {w w' : World} {q p g n cap k m t : Nat} {c f : Nat → Int} {a o x th tg y V T : Int} {S : Nat}
theorem Lk.later (h : Lk w q V S T k a o x th tg y) (hb : Below w.heap.size w w') : Lk w' q V S T k a o x th tg y := Blk.later h hb
theorem Lk.alloc (h : Lk w q V S T k a o x th tg y) (O : Obj) : Lk (w.alloc O) q V S T k a o x th tg y := Blk.alloc h O
theorem Lk.drew (h : Lk w q V S T k a o x th tg y) : Lk w.drew q V S T k a o x th tg y := h
theorem Lk.lt (h : Lk w q V S T k a o x th tg y) : q < w.heap.size := Blk.lt h
theorem Lk.arena (h : Lk w q V S T k a o x th tg y) (A : Ar w p g n cap c f) (ho : Only p g w w') : Lk w' q V S T k a o x th tg y := Blk.arena h A ho (by decide) (by decide)
theorem Lk.ne_p (h : Lk w q V S T k a o x th tg y) (A : Ar w p g n cap c f) : q ≠ p := Blk.ne_p h A (by decide)
theorem Lk.ne_g (h : Lk w q V S T k a o x th tg y) (A : Ar w p g n cap c f) : q ≠ g := Blk.ne_g h A (by decide)
theorem Lk.cells (h : Lk w q V S T k a o x th tg y) : w.cell? ⟨q, 0, none⟩ = some (.int .i64 V) ∧ w.cell? ⟨q, 1, none⟩ = some (.int .i64 S) ∧ w.cell? ⟨q, 2, none⟩ = some (.int .i64 T) ∧ w.cell? ⟨q, 3, none⟩ = some (.int .i64 k) ∧ w.cell? ⟨q, 4, none⟩ = some (.int .i64 a) ∧
    w.cell? ⟨q, 5, none⟩ = some (.int .i64 o) ∧ w.cell? ⟨q, 6, none⟩ = some (.int .i64 x) ∧ w.cell? ⟨q, 7, none⟩ = some (.int .i64 th) ∧ w.cell? ⟨q, 8, none⟩ = some (.int .i64 tg) ∧ w.cell? ⟨q, 9, none⟩ = some (.int .i64 y) :=
  ⟨Blk.cell h 0, Blk.cell h 1, Blk.cell h 2, Blk.cell h 3, Blk.cell h 4, Blk.cell h 5, Blk.cell h 6, Blk.cell h 7, Blk.cell h 8, Blk.cell h 9⟩
theorem Lk.fz (h : Lk w q V S T k a o x th tg y) (i : Nat) : w.frozen? ⟨q, i, none⟩ = false := Blk.frozen h i
theorem Lk.setA (h : Lk w q V S T k a o x th tg y) (a' : Int) : Lk (w.setCell ⟨q, 4, none⟩ (.int .i64 a')) q V S T k a' o x th tg y := Blk.set_ h 4 _
theorem Lk.setY (h : Lk w q V S T k a o x th tg y) (y' : Int) : Lk (w.setCell ⟨q, 9, none⟩ (.int .i64 y')) q V S T k a o x th tg y' := Blk.set_ h 9 _
theorem Lk.setW (h : Lk w q V S T k a o x th tg y) (o' x' th' tg' : Int) : Lk ((((w.setCell ⟨q, 5, none⟩ (.int .i64 o')).setCell ⟨q, 6, none⟩ (.int .i64 x')).setCell ⟨q, 7, none⟩ (.int .i64 th')).setCell ⟨q, 8, none⟩ (.int .i64 tg')) q V S T k a o' x' th' tg' y :=
  (((Blk.set_ h 5 _).set_ 6 _).set_ 7 _).set_ 8 _

theorem look_done (h : Lk w q V S T k a o x th tg y) :
    Calls Try.prog 27 #[.pointer (some ⟨q, 0, none⟩)] w fun e w' => e = .returned (.bool (a == 2)) ∧ w = w' := by
  obtain ⟨d0, d1, d2, d3, d4, d5, d6, d7, d8, d9⟩ := h.cells
  clear h
  go_enter Try.func27, Try.ntmps27
  go_wp2
  go_ret
  exact ⟨rfl, rfl⟩
theorem look_value (h : Lk w q V S T k a o x th tg y) :
    Calls Try.prog 28 #[.pointer (some ⟨q, 0, none⟩)] w fun e w' => e = .returned (.int .i64 y) ∧ w = w' := by
  obtain ⟨d0, d1, d2, d3, d4, d5, d6, d7, d8, d9⟩ := h.cells
  clear h
  go_enter Try.func28, Try.ntmps28
  go_wp2
  go_ret
  exact ⟨rfl, rfl⟩
/-- A new look. -/
def Fresh (V : Int) (S : Nat) (T : Int) (k : Nat) (w : World) (e : Ending) (w' : World) : Prop := ∃ q, e = .returned (.pointer (some ⟨q, 0, none⟩)) ∧ w.heap.size ≤ q ∧ Lk w' q V S T k 0 0 0 0 0 0 ∧ Below w.heap.size w w'
theorem look_new :
    Calls Try.prog 26 #[vL V S T, .int .i64 (k : Int)] w (Fresh V S T k w) := by
  go_enter Try.func26, Try.ntmps26
  go_wp2_with fail
  go_ret
  exact ⟨w.heap.size + 1, by simp, by simp, new_next w _ _ _ _, ((Below.refl _ _).alloc (Nat.le_refl _) _).alloc (by simp) _⟩

/-- A look that is done does nothing. -/
theorem look_2 (h : Lk w q V S T k 2 o x th tg y) :
    Calls Try.prog 29 #[.pointer (some ⟨q, 0, none⟩), .pointer (some ⟨p, 0, none⟩)] w fun e w' => e = .returned (.bool true) ∧ Below w.heap.size w w' := by
  have HL := Lib.hid h
  clear h
  go_enter Try.func29, Try.ntmps29
  go_wp2_with fail
  refine (pm_of p _).mono ?_; rintro e w1 ⟨rfl, hb1⟩
  have HL1 := Lib.hid (HL.out.later hb1)
  have HB1 := Lib.hid hb1
  clear hb1
  obtain ⟨d0, d1, d2, d3, d4, d5, d6, d7, d8, d9⟩ := HL1.out.cells
  have hl := HL1.out.lt
  go_wp2_with fail
  refine (look_done (HL1.out.alloc _)).mono ?_; rintro e w2 ⟨rfl, rfl⟩
  go_wp2_with fail
  go_ret
  exact ⟨rfl, HB1.out.alloc HB1.out.size _⟩
end
end Go.Proofs.Ytipjbgkfhkidkaa
