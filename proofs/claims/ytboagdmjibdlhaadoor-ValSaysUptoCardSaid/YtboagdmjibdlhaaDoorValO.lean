/- Contract of the law's awake. -/
import Derived.Test.YtboagdmjibdlhaaDoorValN
namespace Go.Proofs.YtboagdmjibdlhaaDoor
set_option maxRecDepth 100000
open Go.RowKit

def ab : ByteArray := { data := #[97, 98] }
/-- The list that awake makes. -/
def wake (g : Nat) : Tr := .lst (some ⟨g, 0, none⟩) 3 3 fun i => if i = 0 then .one (.num 3) else if i = 1 then .one (.txt ab) else .one (.sgn 43)

theorem wake_evs (g : Nat) : (wake g).evs = [.op, .one (.num 3), .one (.txt ab), .one (.sgn 43), .cl] := rfl
theorem wake_val (g : Nat) : (wake g).val = .iface 29 (.slice (some ⟨g, 0, none⟩) 3 3) := rfl
theorem wake_same (g : Nat) : sameE (wake g).evs (wake g).evs = true := by
  rw [wake_evs]
  simp [sameE, sameA]
theorem itoa3 : Lib.itoa 3 = [51] := by
  rw [show Lib.itoa 3 = Lib.decDigits 3 by simp [Lib.itoa], Lib.decDigits, dif_pos (by decide)]
  rfl
theorem wake_say (g : Nat) : (⟨(sayE false (wake g).evs).toArray⟩ : ByteArray) = { data := #[40, 51, 32, 97, 98, 32, 43, 41] } := by
  rw [wake_evs]
  have h : sayE false [.op, .one (.num 3), .one (.txt ab), .one (.sgn 43), .cl] = [40, 51, 32, 97, 98, 32, 43, 41] := by
    simp only [sayE, textA, itoa3]
    decide
  rw [h]
theorem wake_lies (g : Nat) (w : World) (h : VBlk w g #[.iface 3 (.int .i64 3), .iface 9 (.string ab), .iface 21 (.int .i32 43)]) : (wake g).Lies w :=
  ⟨fun _ => ⟨g, _, rfl, h, fun i hi => by
    match i, hi with
    | 0, _ => rfl
    | 1, _ => rfl
    | 2, _ => rfl⟩, fun i hi => by
    match i, hi with
    | 0, _ => exact trivial
    | 1, _ => exact trivial
    | 2, _ => exact trivial⟩

theorem wake_say_any (g : Nat) (w : World) (h : (wake g).Lies w) : Calls Tryd.prog 13 #[.iface 29 (.slice (some ⟨g, 0, none⟩) 3 3)] w fun e w' => e = .returned (.string { data := #[40, 51, 32, 97, 98, 32, 43, 41] }) ∧ Below w.heap.size w w' := by
  have := say_any (wake g) w h (by rw [wake_evs]; decide) (fun a ha => by
    rw [wake_evs] at ha
    simp at ha
    rcases ha with rfl | rfl | rfl
    · exact .inl ⟨by decide, by decide⟩
    · exact trivial
    · exact trivial) (by
      have h := wake_say g
      have h2 : (sayE false (wake g).evs).toArray = #[40, 51, 32, 97, 98, 32, 43, 41] := congrArg ByteArray.data h
      have h3 : (sayE false (wake g).evs).length = 8 := by have := congrArg Array.size h2; simpa using this
      omega)
  rw [wake_say] at this
  exact this

theorem float_say_any (v : Value) (w : World) : Calls Tryd.prog 13 #[.iface 53 v] w fun e w' => e = .returned (.string { data := #[63] }) ∧ Below w.heap.size w w' :=
  say_any (.one (.flt v)) w trivial (by show 1 ≤ 900000000; decide) (fun a ha => by simp [Tr.evs] at ha; subst ha; exact trivial) (by simp [Tr.evs, sayE, textA])

theorem wake_equal_any (g : Nat) (w : World) (h : (wake g).Lies w) : Calls Tryd.prog 25 #[.iface 29 (.slice (some ⟨g, 0, none⟩) 3 3), .iface 29 (.slice (some ⟨g, 0, none⟩) 3 3)] w fun e w' => e = .returned (.bool true) ∧ Below w.heap.size w w' := by
  have := equal_any (wake g) (wake g) w h h (by rw [wake_evs]; decide) (by rw [wake_evs]; decide)
  rw [wake_same] at this
  exact this

theorem nil_equal_any (w : World) : Calls Tryd.prog 25 #[.nilIface, .nilIface] w fun e w' => e = .returned (.bool false) ∧ Below w.heap.size w w' :=
  equal_any (.one .nil) (.one .nil) w trivial trivial (by show 1 ≤ 900000000; decide) (by show 1 ≤ 900000000; decide)

theorem num3_any (w : World) : Calls Tryd.prog 26 #[.iface 3 (.int .i64 3)] w fun e w' => e = .returned (.tuple #[.int .i64 3, .bool true]) ∧ w = w' := num_num 3 w
theorem numab_any (w : World) : Calls Tryd.prog 26 #[.iface 9 (.string { data := #[97, 98] })] w fun e w' => e = .returned (.tuple #[.int .i64 0, .bool false]) ∧ w = w' := num_txt ab w
theorem kindnil_any (w : World) : Calls Tryd.prog 27 #[.nilIface] w fun e w' => e = .returned (.int .i64 0) ∧ w = w' := kind_nil w
theorem must3_any (w : World) : Calls Tryd.prog 28 #[.iface 3 (.int .i64 3)] w fun e w' => e = .returned (.int .i64 3) ∧ w = w' := mustnum_yes 3 w
theorem mustab_any (w : World) : Calls Tryd.prog 29 #[.iface 9 (.string { data := #[97, 98] })] w fun e w' => e = .returned (.string { data := #[97, 98] }) ∧ w = w' := muststr_yes ab w

set_option maxHeartbeats 4000000 in
theorem awake_any (w : World) : Calls Tryd.prog 11 #[] w fun e w' => e = .returned (.bool true) ∧ Below w.heap.size w w' := by
  go_enter Tryd.func11, Tryd.ntmps11
  go_wp2_with fail
  have hk := Blk.new w 20 #[.iface 3 (.int .i64 3), .iface 9 (.string { data := #[97, 98] }), .iface 21 (.int .i32 43)]
  have B0 : Below w.heap.size w (w.alloc (.cells #[.iface 3 (.int .i64 3), .iface 9 (.string { data := #[97, 98] }), .iface 21 (.int .i32 43)] 20)) := (Below.refl _ _).alloc (Nat.le_refl _) _
  generalize w.alloc (.cells #[.iface 3 (.int .i64 3), .iface 9 (.string { data := #[97, 98] }), .iface 21 (.int .i32 43)] 20) = W at *
  have c0 := hk.cell 0
  have c1 := hk.cell 1
  simp at c0 c1
  have HL := Lib.hid (wake_lies w.heap.size W hk)
  clear hk
  have HB := Lib.hid B0
  clear B0
  refine (num3_any _).mono ?_; rintro e w1 ⟨rfl, rfl⟩
  go_wp2_with fail
  refine (numab_any _).mono ?_; rintro e w1 ⟨rfl, rfl⟩
  go_wp2_with fail
  refine (kind_lst _ _ _ _).mono ?_; rintro e w1 ⟨rfl, rfl⟩
  go_wp2_with fail
  refine (kindnil_any _).mono ?_; rintro e w1 ⟨rfl, rfl⟩
  go_wp2_with fail
  refine (wake_say_any _ _ HL.out).mono ?_; rintro e w1 ⟨rfl, b1⟩
  have HB1 := Lib.hid (keepB HB.out b1)
  have HL1 := Lib.hid (HL.out.keep (Keeps.below b1))
  replace c0 := cell_later b1 c0
  replace c1 := cell_later b1 c1
  clear HB HL b1
  go_wp2_with fail
  refine (float_say_any _ _).mono ?_; rintro e w2 ⟨rfl, b2⟩
  have HB2 := Lib.hid (keepB HB1.out b2)
  have HL2 := Lib.hid (HL1.out.keep (Keeps.below b2))
  replace c0 := cell_later b2 c0
  replace c1 := cell_later b2 c1
  clear HB1 HL1 b2
  go_wp2_with fail
  refine (wake_equal_any _ _ HL2.out).mono ?_; rintro e w3 ⟨rfl, b3⟩
  have HB3 := Lib.hid (keepB HB2.out b3)
  replace c0 := cell_later b3 c0
  replace c1 := cell_later b3 c1
  clear HB2 HL2 b3
  go_wp2_with fail
  refine (nil_equal_any _).mono ?_; rintro e w4 ⟨rfl, b4⟩
  have HB4 := Lib.hid (keepB HB3.out b4)
  replace c0 := cell_later b4 c0
  replace c1 := cell_later b4 c1
  clear HB3 b4
  go_wp2_with fail
  refine (must3_any _).mono ?_; rintro e w5 ⟨rfl, rfl⟩
  go_wp2_with fail
  refine (mustab_any _).mono ?_; rintro e w5 ⟨rfl, rfl⟩
  go_wp2_with fail
  go_ret
  exact ⟨rfl, HB4.out⟩
end Go.Proofs.YtboagdmjibdlhaaDoor
