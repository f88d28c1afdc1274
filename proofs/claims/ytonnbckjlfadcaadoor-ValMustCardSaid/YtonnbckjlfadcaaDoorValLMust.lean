/- Walk of ValMust. -/
import Derived.Test.YtonnbckjlfadcaaDoorValO
namespace Go.Proofs.YtonnbckjlfadcaaDoor
open Go.RowKit

/-- Three forms: a number, a text, neither. -/
theorem Raw.musts (x : Raw) : (x.k = 1 ∧ x.atom = .num x.n) ∨ (x.k = 2 ∧ x.atom = .txt x.s) ∨ (x.k ≠ 1 ∧ x.k ≠ 2 ∧ not_num x.atom.val ∧ not_str x.atom.val) := by
  obtain ⟨k, n, s, r⟩ := x
  simp only [Raw.atom]
  by_cases a1 : k = 1
  · subst a1; exact .inl ⟨rfl, by simp⟩
  · by_cases a2 : k = 2
    · subst a2; exact .inr (.inl ⟨rfl, by simp⟩)
    · refine .inr (.inr ⟨a1, a2, ?_⟩)
      rw [if_neg a1, if_neg a2]
      by_cases a3 : k = 3
      · rw [if_pos a3]
        exact ⟨.inr ⟨_, _, rfl, by decide⟩, .inr ⟨_, _, rfl, by decide⟩⟩
      · rw [if_neg a3]
        by_cases a4 : k = 4
        · rw [if_pos a4]
          exact ⟨.inr ⟨_, _, rfl, by decide⟩, .inr ⟨_, _, rfl, by decide⟩⟩
        · rw [if_neg a4]
          exact ⟨.inl rfl, .inl rfl⟩

theorem list_not_num (a : Option Addr) (n c : Nat) : not_num (.iface 33 (.slice a n c)) := .inr ⟨_, _, rfl, by decide⟩
theorem num_not_str (n : Int) : not_str (Atom.num n).val := .inr ⟨_, _, rfl, by decide⟩
theorem txt_not_num (s : ByteArray) : not_num (Atom.txt s).val := .inr ⟨_, _, rfl, by decide⟩

set_option maxRecDepth 100000 in
set_option maxHeartbeats 8000000 in
theorem valMust_num (x : Raw) (w : World) (hk : x.k = 1) (ha : x.atom = .num x.n) :
    Calls Tryd.prog 4 #[x.val] w fun e w' => e = .returned (.bool true) ∧ Below w.heap.size w w' := by
  have M := Lib.hid (made_any x)
  rw [ha] at M
  clear ha
  obtain ⟨k, n, s, r⟩ := x
  simp only at hk
  subst hk
  have C1 := Lib.hid (num_yes n)
  have C2 := Lib.hid (str_no (num_not_str n))
  simp only [Raw.val, Raw.cs, Atom.val] at M C1 C2 ⊢
  go_enter Tryd.func4, Tryd.ntmps4
  go_wp2_with fail
  have k0 := Blk.new w 23 #[.int .i64 1, .int .i64 n, .string s, .int .i32 r]
  have B0 : Below w.heap.size w (w.alloc (.cells #[.int .i64 1, .int .i64 n, .string s, .int .i32 r] 23)) := (Below.refl _ _).alloc (Nat.le_refl _) _
  generalize w.alloc (.cells #[.int .i64 1, .int .i64 n, .string s, .int .i32 r] 23) = W at *
  have c0 := k0.cell 0; have c1 := k0.cell 1; have c2 := k0.cell 2; have c3 := k0.cell 3
  simp at c0 c1 c2 c3
  have HB := Lib.hid B0; clear B0 k0
  refine (M.out _).mono ?_; rintro e w1 ⟨rfl, b1⟩
  have HB1 := Lib.hid (keepB HB.out b1)
  replace c0 := cell_later b1 c0; replace c1 := cell_later b1 c1; replace c2 := cell_later b1 c2; replace c3 := cell_later b1 c3
  clear b1 HB M
  go_wp2_with fail
  refine (C1.out _).mono ?_; rintro e w2 ⟨rfl, b2⟩
  have HB2 := Lib.hid (keepB HB1.out b2)
  replace c0 := cell_later b2 c0; replace c1 := cell_later b2 c1; replace c2 := cell_later b2 c2; replace c3 := cell_later b2 c3
  clear b2 HB1 C1
  go_wp2_with fail
  refine (C2.out _).mono ?_; rintro e w3 ⟨rfl, b3⟩
  have HB3 := Lib.hid (keepB HB2.out b3)
  replace c0 := cell_later b3 c0; replace c1 := cell_later b3 c1; replace c2 := cell_later b3 c2; replace c3 := cell_later b3 c3
  clear b3 HB2 C2
  go_wp2_with fail
  refine (num_no (list_not_num _ _ _) _).mono ?_; rintro e w4 ⟨rfl, b4⟩
  have b4' : Below w3.heap.size w3 w4 := ((Below.refl _ w3).alloc (Nat.le_refl _) _).trans (b4.mono (by simp))
  have HB4 := Lib.hid (keepB HB3.out b4')
  replace c0 := cell_later b4' c0; replace c1 := cell_later b4' c1; replace c2 := cell_later b4' c2; replace c3 := cell_later b4' c3
  clear b4 b4' HB3
  go_wp2_with fail
  refine (awake_any _).mono ?_; rintro e w5 ⟨rfl, b5⟩
  go_wp2_with fail
  go_ret
  exact ⟨rfl, keepB HB4.out b5⟩

set_option maxRecDepth 100000 in
set_option maxHeartbeats 8000000 in
theorem valMust_txt (x : Raw) (w : World) (hk : x.k = 2) (ha : x.atom = .txt x.s) :
    Calls Tryd.prog 4 #[x.val] w fun e w' => e = .returned (.bool true) ∧ Below w.heap.size w w' := by
  have M := Lib.hid (made_any x)
  rw [ha] at M
  clear ha
  obtain ⟨k, n, s, r⟩ := x
  simp only at hk
  subst hk
  have C1 := Lib.hid (num_no (txt_not_num s))
  have C2 := Lib.hid (str_yes s)
  simp only [Raw.val, Raw.cs, Atom.val] at M C1 C2 ⊢
  go_enter Tryd.func4, Tryd.ntmps4
  go_wp2_with fail
  have k0 := Blk.new w 23 #[.int .i64 2, .int .i64 n, .string s, .int .i32 r]
  have B0 : Below w.heap.size w (w.alloc (.cells #[.int .i64 2, .int .i64 n, .string s, .int .i32 r] 23)) := (Below.refl _ _).alloc (Nat.le_refl _) _
  generalize w.alloc (.cells #[.int .i64 2, .int .i64 n, .string s, .int .i32 r] 23) = W at *
  have c0 := k0.cell 0; have c1 := k0.cell 1; have c2 := k0.cell 2; have c3 := k0.cell 3
  simp at c0 c1 c2 c3
  have HB := Lib.hid B0; clear B0 k0
  refine (M.out _).mono ?_; rintro e w1 ⟨rfl, b1⟩
  have HB1 := Lib.hid (keepB HB.out b1)
  replace c0 := cell_later b1 c0; replace c1 := cell_later b1 c1; replace c2 := cell_later b1 c2; replace c3 := cell_later b1 c3
  clear b1 HB M
  go_wp2_with fail
  refine (C1.out _).mono ?_; rintro e w2 ⟨rfl, b2⟩
  have HB2 := Lib.hid (keepB HB1.out b2)
  replace c0 := cell_later b2 c0; replace c1 := cell_later b2 c1; replace c2 := cell_later b2 c2; replace c3 := cell_later b2 c3
  clear b2 HB1 C1
  go_wp2_with fail
  refine (C2.out _).mono ?_; rintro e w3 ⟨rfl, b3⟩
  have HB3 := Lib.hid (keepB HB2.out b3)
  replace c0 := cell_later b3 c0; replace c1 := cell_later b3 c1; replace c2 := cell_later b3 c2; replace c3 := cell_later b3 c3
  clear b3 HB2 C2
  go_wp2_with fail
  refine (num_no (list_not_num _ _ _) _).mono ?_; rintro e w4 ⟨rfl, b4⟩
  have b4' : Below w3.heap.size w3 w4 := ((Below.refl _ w3).alloc (Nat.le_refl _) _).trans (b4.mono (by simp))
  have HB4 := Lib.hid (keepB HB3.out b4')
  replace c0 := cell_later b4' c0; replace c1 := cell_later b4' c1; replace c2 := cell_later b4' c2; replace c3 := cell_later b4' c3
  clear b4 b4' HB3
  go_wp2_with fail
  refine (awake_any _).mono ?_; rintro e w5 ⟨rfl, b5⟩
  go_wp2_with fail
  go_ret
  exact ⟨rfl, keepB HB4.out b5⟩

set_option maxRecDepth 100000 in
set_option maxHeartbeats 8000000 in
theorem valMust_nilv (x : Raw) (w : World) (h1 : x.k ≠ 1) (h2 : x.k ≠ 2) (hv : x.atom.val = .nilIface) (n1 : not_num .nilIface) (n2 : not_str .nilIface) :
    Calls Tryd.prog 4 #[x.val] w fun e w' => e = .returned (.bool true) ∧ Below w.heap.size w w' := by
  have M := Lib.hid (made_any x)
  rw [hv] at M
  clear hv
  obtain ⟨k, n, s, r⟩ := x
  simp only at h1 h2
  have e1 : (k == 1) = false := beq_eq_false_iff_ne.2 h1
  have e2 : (k == 2) = false := beq_eq_false_iff_ne.2 h2
  clear h1 h2
  have C1 := Lib.hid (num_no n1)
  have C2 := Lib.hid (str_no n2)
  clear n1 n2
  simp only [Raw.val, Raw.cs] at M ⊢
  go_enter Tryd.func4, Tryd.ntmps4
  go_wp2_with fail
  have k0 := Blk.new w 23 #[.int .i64 k, .int .i64 n, .string s, .int .i32 r]
  have B0 : Below w.heap.size w (w.alloc (.cells #[.int .i64 k, .int .i64 n, .string s, .int .i32 r] 23)) := (Below.refl _ _).alloc (Nat.le_refl _) _
  generalize w.alloc (.cells #[.int .i64 k, .int .i64 n, .string s, .int .i32 r] 23) = W at *
  have c0 := k0.cell 0; have c1 := k0.cell 1; have c2 := k0.cell 2; have c3 := k0.cell 3
  simp at c0 c1 c2 c3
  have HB := Lib.hid B0; clear B0 k0
  refine (M.out _).mono ?_; rintro e w1 ⟨rfl, b1⟩
  have HB1 := Lib.hid (keepB HB.out b1)
  replace c0 := cell_later b1 c0; replace c1 := cell_later b1 c1; replace c2 := cell_later b1 c2; replace c3 := cell_later b1 c3
  clear b1 HB M
  go_wp2_with fail
  refine (C1.out _).mono ?_; rintro e w2 ⟨rfl, b2⟩
  have HB2 := Lib.hid (keepB HB1.out b2)
  replace c0 := cell_later b2 c0; replace c1 := cell_later b2 c1; replace c2 := cell_later b2 c2; replace c3 := cell_later b2 c3
  clear b2 HB1 C1
  go_wp2_with fail
  refine (C2.out _).mono ?_; rintro e w3 ⟨rfl, b3⟩
  have HB3 := Lib.hid (keepB HB2.out b3)
  replace c0 := cell_later b3 c0; replace c1 := cell_later b3 c1; replace c2 := cell_later b3 c2; replace c3 := cell_later b3 c3
  clear b3 HB2 C2
  go_wp2_with fail
  refine (num_no (list_not_num _ _ _) _).mono ?_; rintro e w4 ⟨rfl, b4⟩
  have b4' : Below w3.heap.size w3 w4 := ((Below.refl _ w3).alloc (Nat.le_refl _) _).trans (b4.mono (by simp))
  have HB4 := Lib.hid (keepB HB3.out b4')
  replace c0 := cell_later b4' c0; replace c1 := cell_later b4' c1; replace c2 := cell_later b4' c2; replace c3 := cell_later b4' c3
  clear b4 b4' HB3
  go_wp2_with fail
  refine (awake_any _).mono ?_; rintro e w5 ⟨rfl, b5⟩
  go_wp2_with fail
  go_ret
  exact ⟨rfl, keepB HB4.out b5⟩

set_option maxRecDepth 100000 in
set_option maxHeartbeats 8000000 in
theorem valMust_ifc (x : Raw) (w : World) (h1 : x.k ≠ 1) (h2 : x.k ≠ 2) (u : TypeId) (y : Value) (hv : x.atom.val = .iface u y) (n1 : not_num (.iface u y)) (n2 : not_str (.iface u y)) :
    Calls Tryd.prog 4 #[x.val] w fun e w' => e = .returned (.bool true) ∧ Below w.heap.size w w' := by
  have M := Lib.hid (made_any x)
  rw [hv] at M
  clear hv
  obtain ⟨k, n, s, r⟩ := x
  simp only at h1 h2
  have e1 : (k == 1) = false := beq_eq_false_iff_ne.2 h1
  have e2 : (k == 2) = false := beq_eq_false_iff_ne.2 h2
  clear h1 h2
  have C1 := Lib.hid (num_no n1)
  have C2 := Lib.hid (str_no n2)
  clear n1 n2
  simp only [Raw.val, Raw.cs] at M ⊢
  go_enter Tryd.func4, Tryd.ntmps4
  go_wp2_with fail
  have k0 := Blk.new w 23 #[.int .i64 k, .int .i64 n, .string s, .int .i32 r]
  have B0 : Below w.heap.size w (w.alloc (.cells #[.int .i64 k, .int .i64 n, .string s, .int .i32 r] 23)) := (Below.refl _ _).alloc (Nat.le_refl _) _
  generalize w.alloc (.cells #[.int .i64 k, .int .i64 n, .string s, .int .i32 r] 23) = W at *
  have c0 := k0.cell 0; have c1 := k0.cell 1; have c2 := k0.cell 2; have c3 := k0.cell 3
  simp at c0 c1 c2 c3
  have HB := Lib.hid B0; clear B0 k0
  refine (M.out _).mono ?_; rintro e w1 ⟨rfl, b1⟩
  have HB1 := Lib.hid (keepB HB.out b1)
  replace c0 := cell_later b1 c0; replace c1 := cell_later b1 c1; replace c2 := cell_later b1 c2; replace c3 := cell_later b1 c3
  clear b1 HB M
  go_wp2_with fail
  refine (C1.out _).mono ?_; rintro e w2 ⟨rfl, b2⟩
  have HB2 := Lib.hid (keepB HB1.out b2)
  replace c0 := cell_later b2 c0; replace c1 := cell_later b2 c1; replace c2 := cell_later b2 c2; replace c3 := cell_later b2 c3
  clear b2 HB1 C1
  go_wp2_with fail
  refine (C2.out _).mono ?_; rintro e w3 ⟨rfl, b3⟩
  have HB3 := Lib.hid (keepB HB2.out b3)
  replace c0 := cell_later b3 c0; replace c1 := cell_later b3 c1; replace c2 := cell_later b3 c2; replace c3 := cell_later b3 c3
  clear b3 HB2 C2
  go_wp2_with fail
  refine (num_no (list_not_num _ _ _) _).mono ?_; rintro e w4 ⟨rfl, b4⟩
  have b4' : Below w3.heap.size w3 w4 := ((Below.refl _ w3).alloc (Nat.le_refl _) _).trans (b4.mono (by simp))
  have HB4 := Lib.hid (keepB HB3.out b4')
  replace c0 := cell_later b4' c0; replace c1 := cell_later b4' c1; replace c2 := cell_later b4' c2; replace c3 := cell_later b4' c3
  clear b4 b4' HB3
  go_wp2_with fail
  refine (awake_any _).mono ?_; rintro e w5 ⟨rfl, b5⟩
  go_wp2_with fail
  go_ret
  exact ⟨rfl, keepB HB4.out b5⟩

theorem valMust_walk (x : Raw) (w : World) :
    Calls Tryd.prog 4 #[x.val] w fun e w' => e = .returned (.bool true) ∧ Below w.heap.size w w' := by
  rcases x.musts with ⟨h1, h2⟩ | ⟨h1, h2⟩ | ⟨h1, h2, n1, n2⟩
  · exact valMust_num x w h1 h2
  · exact valMust_txt x w h1 h2
  · have hk := Tr.val_kind (.one x.atom)
    simp only [Tr.val] at hk
    rcases hk with hv | ⟨u, y, hv⟩
    · rw [hv] at n1 n2
      exact valMust_nilv x w h1 h2 hv n1 n2
    · rw [hv] at n1 n2
      exact valMust_ifc x w h1 h2 u y hv n1 n2
end Go.Proofs.YtonnbckjlfadcaaDoor
