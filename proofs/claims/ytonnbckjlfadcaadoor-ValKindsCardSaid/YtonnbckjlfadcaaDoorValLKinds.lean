/- Walk of ValKinds. -/
import Derived.Test.YtonnbckjlfadcaaDoorValO
namespace Go.Proofs.YtonnbckjlfadcaaDoor
open Go.RowKit

/-- The five forms. -/
theorem Raw.forms (x : Raw) : (x.kind = 1 ∧ x.atom = .num x.n) ∨ (x.kind = 2 ∧ x.atom = .txt x.s) ∨ (x.kind = 3 ∧ x.atom = .sgn x.r) ∨ (x.kind = 0 ∧ x.atom = .nil) ∨ (x.kind = 0 ∧ ∃ v, x.atom = .flt v) := by
  obtain ⟨k, n, s, r⟩ := x
  simp only [Raw.kind, Raw.atom]
  by_cases a1 : k = 1
  · subst a1; exact .inl ⟨by simp, by simp⟩
  · by_cases a2 : k = 2
    · subst a2; exact .inr (.inl ⟨by simp, by simp⟩)
    · by_cases a3 : k = 3
      · subst a3; exact .inr (.inr (.inl ⟨by simp, by simp⟩))
      · by_cases a4 : k = 4
        · subst a4; exact .inr (.inr (.inr (.inr ⟨by simp, _, by simp; rfl⟩)))
        · exact .inr (.inr (.inr (.inl ⟨if_neg (by omega), by simp only [if_neg a1, if_neg a2, if_neg a3, if_neg a4]⟩)))

theorem valKinds_long (x : Raw) (a : Option Addr) (len cap : Nat) (w : World) (h60 : (60 : Int) < (len : Int)) :
    Calls Tryd.prog 3 #[x.val, .slice a len cap] w fun e w' => e = .returned (.bool true) ∧ Below w.heap.size w w' := by
  obtain ⟨k, n, s, r⟩ := x
  simp only [Raw.val, Raw.cs]
  go_enter Tryd.func3, Tryd.ntmps3
  go_wp2_with fail
  refine (awake_any _).mono ?_; rintro e w3 ⟨rfl, hb3⟩
  go_wp2_with fail
  go_ret
  exact ⟨rfl, keepB ((Below.refl _ _).alloc (Nat.le_refl _) _) hb3⟩

set_option maxRecDepth 100000 in
set_option maxHeartbeats 8000000 in
theorem valKinds_num (x : Raw) (a : Option Addr) (len cap : Nat) (q : Nat → Raw) (w : World) (h60 : len ≤ 60) (hq : IsRaws w a len q) (hk : x.kind = 1) (ha : x.atom = .num x.n) :
    Calls Tryd.prog 3 #[x.val, .slice a len cap] w fun e w' => e = .returned (.bool true) ∧ Below w.heap.size w w' := by
  have M := Lib.hid (made_any x)
  have K := Lib.hid (kind_any x)
  rw [ha] at M
  rw [hk] at K
  clear hk ha
  have hlen : ¬(60 : Int) < (len : Int) := by omega
  have HL := Lib.hid (fun w => list_any a len cap q w h60)
  have HQ := Lib.hid hq; clear hq
  obtain ⟨k, n, s, r⟩ := x
  have C1 := Lib.hid (num_num n)
  have C2 := Lib.hid (str_num n)
  have C3 := Lib.hid (rune_num n)
  have C4 := Lib.hid (items_num n)
  have C5 := Lib.hid (kind_num n)
  simp only [Raw.val, Raw.cs, Atom.val] at M K C1 C2 C3 C4 C5 ⊢
  go_enter Tryd.func3, Tryd.ntmps3
  go_wp2_with fail
  have k0 := Blk.new w 23 #[.int .i64 k, .int .i64 n, .string s, .int .i32 r]
  have B0 : Below w.heap.size w (w.alloc (.cells #[.int .i64 k, .int .i64 n, .string s, .int .i32 r] 23)) := (Below.refl _ _).alloc (Nat.le_refl _) _
  have HQ0 := Lib.hid (HQ.out.later (by simpa using (Below.refl w.heap.size w).alloc (Nat.le_refl _) (.cells #[.int .i64 k, .int .i64 n, .string s, .int .i32 r] 23)))
  generalize w.alloc (.cells #[.int .i64 k, .int .i64 n, .string s, .int .i32 r] 23) = W at *
  have c0 := k0.cell 0; have c1 := k0.cell 1; have c2 := k0.cell 2; have c3 := k0.cell 3
  simp at c0 c1 c2 c3
  clear HQ
  have HB := Lib.hid B0; clear B0 k0
  refine (M.out _).mono ?_; rintro e w1 ⟨rfl, b1⟩
  have HB1 := Lib.hid (keepB HB.out b1)
  have HQ1 := Lib.hid (HQ0.out.later b1)
  replace c0 := cell_later b1 c0; replace c1 := cell_later b1 c1; replace c2 := cell_later b1 c2; replace c3 := cell_later b1 c3
  clear b1 HB HQ0
  go_wp2_with (refine (C1.out _).mono ?_; rintro e w9 ⟨rfl, rfl⟩)
  refine (C2.out _).mono ?_; rintro e w9 ⟨rfl, rfl⟩
  go_wp2_with fail
  refine (C3.out _).mono ?_; rintro e w9 ⟨rfl, rfl⟩
  go_wp2_with fail
  refine (C4.out _).mono ?_; rintro e w9 ⟨rfl, rfl⟩
  go_wp2_with fail
  refine (K.out _).mono ?_; rintro e w2 ⟨rfl, b2⟩
  have HB2 := Lib.hid (keepB HB1.out b2)
  have HQ2 := Lib.hid (HQ1.out.later b2)
  replace c0 := cell_later b2 c0; replace c1 := cell_later b2 c1; replace c2 := cell_later b2 c2; replace c3 := cell_later b2 c3
  clear b2 HB1 HQ1
  go_wp2_with fail
  refine (C5.out _).mono ?_; rintro e w9 ⟨rfl, rfl⟩
  go_wp2_with fail
  clear c0 c1 c2 c3
  refine (HL.out _ HQ2.out).mono ?_; rintro e w3 ⟨a1, cap1, rfl, _, b3⟩
  have HB3 := Lib.hid (keepB HB2.out b3)
  have HQ3 := Lib.hid (HQ2.out.later b3)
  clear b3 HB2 HQ2
  go_wp2_with fail
  refine (items_lst _ _ _ _).mono ?_; rintro e w9 ⟨rfl, rfl⟩
  go_wp2_with fail
  refine (HL.out _ HQ3.out).mono ?_; rintro e w4 ⟨a2, cap2, rfl, _, b4⟩
  have HB4 := Lib.hid (keepB HB3.out b4)
  clear b4 HB3 HQ3
  go_wp2_with fail
  refine (kind_lst _ _ _ _).mono ?_; rintro e w9 ⟨rfl, rfl⟩
  go_wp2_with fail
  refine (awake_any _).mono ?_; rintro e w5 ⟨rfl, b5⟩
  go_wp2_with fail
  go_ret
  exact ⟨rfl, keepB HB4.out b5⟩

set_option maxRecDepth 100000 in
set_option maxHeartbeats 8000000 in
theorem valKinds_txt (x : Raw) (a : Option Addr) (len cap : Nat) (q : Nat → Raw) (w : World) (h60 : len ≤ 60) (hq : IsRaws w a len q) (hk : x.kind = 2) (ha : x.atom = .txt x.s) :
    Calls Tryd.prog 3 #[x.val, .slice a len cap] w fun e w' => e = .returned (.bool true) ∧ Below w.heap.size w w' := by
  have M := Lib.hid (made_any x)
  have K := Lib.hid (kind_any x)
  rw [ha] at M
  rw [hk] at K
  clear hk ha
  have hlen : ¬(60 : Int) < (len : Int) := by omega
  have HL := Lib.hid (fun w => list_any a len cap q w h60)
  have HQ := Lib.hid hq; clear hq
  obtain ⟨k, n, s, r⟩ := x
  have C1 := Lib.hid (num_txt s)
  have C2 := Lib.hid (str_txt s)
  have C3 := Lib.hid (rune_txt s)
  have C4 := Lib.hid (items_txt s)
  have C5 := Lib.hid (kind_txt s)
  simp only [Raw.val, Raw.cs, Atom.val] at M K C1 C2 C3 C4 C5 ⊢
  go_enter Tryd.func3, Tryd.ntmps3
  go_wp2_with fail
  have k0 := Blk.new w 23 #[.int .i64 k, .int .i64 n, .string s, .int .i32 r]
  have B0 : Below w.heap.size w (w.alloc (.cells #[.int .i64 k, .int .i64 n, .string s, .int .i32 r] 23)) := (Below.refl _ _).alloc (Nat.le_refl _) _
  have HQ0 := Lib.hid (HQ.out.later (by simpa using (Below.refl w.heap.size w).alloc (Nat.le_refl _) (.cells #[.int .i64 k, .int .i64 n, .string s, .int .i32 r] 23)))
  generalize w.alloc (.cells #[.int .i64 k, .int .i64 n, .string s, .int .i32 r] 23) = W at *
  have c0 := k0.cell 0; have c1 := k0.cell 1; have c2 := k0.cell 2; have c3 := k0.cell 3
  simp at c0 c1 c2 c3
  clear HQ
  have HB := Lib.hid B0; clear B0 k0
  refine (M.out _).mono ?_; rintro e w1 ⟨rfl, b1⟩
  have HB1 := Lib.hid (keepB HB.out b1)
  have HQ1 := Lib.hid (HQ0.out.later b1)
  replace c0 := cell_later b1 c0; replace c1 := cell_later b1 c1; replace c2 := cell_later b1 c2; replace c3 := cell_later b1 c3
  clear b1 HB HQ0
  go_wp2_with (refine (C1.out _).mono ?_; rintro e w9 ⟨rfl, rfl⟩)
  refine (C2.out _).mono ?_; rintro e w9 ⟨rfl, rfl⟩
  go_wp2_with fail
  refine (C3.out _).mono ?_; rintro e w9 ⟨rfl, rfl⟩
  go_wp2_with fail
  refine (C4.out _).mono ?_; rintro e w9 ⟨rfl, rfl⟩
  go_wp2_with fail
  refine (K.out _).mono ?_; rintro e w2 ⟨rfl, b2⟩
  have HB2 := Lib.hid (keepB HB1.out b2)
  have HQ2 := Lib.hid (HQ1.out.later b2)
  replace c0 := cell_later b2 c0; replace c1 := cell_later b2 c1; replace c2 := cell_later b2 c2; replace c3 := cell_later b2 c3
  clear b2 HB1 HQ1
  go_wp2_with fail
  refine (C5.out _).mono ?_; rintro e w9 ⟨rfl, rfl⟩
  go_wp2_with fail
  clear c0 c1 c2 c3
  refine (HL.out _ HQ2.out).mono ?_; rintro e w3 ⟨a1, cap1, rfl, _, b3⟩
  have HB3 := Lib.hid (keepB HB2.out b3)
  have HQ3 := Lib.hid (HQ2.out.later b3)
  clear b3 HB2 HQ2
  go_wp2_with fail
  refine (items_lst _ _ _ _).mono ?_; rintro e w9 ⟨rfl, rfl⟩
  go_wp2_with fail
  refine (HL.out _ HQ3.out).mono ?_; rintro e w4 ⟨a2, cap2, rfl, _, b4⟩
  have HB4 := Lib.hid (keepB HB3.out b4)
  clear b4 HB3 HQ3
  go_wp2_with fail
  refine (kind_lst _ _ _ _).mono ?_; rintro e w9 ⟨rfl, rfl⟩
  go_wp2_with fail
  refine (awake_any _).mono ?_; rintro e w5 ⟨rfl, b5⟩
  go_wp2_with fail
  go_ret
  exact ⟨rfl, keepB HB4.out b5⟩

set_option maxRecDepth 100000 in
set_option maxHeartbeats 8000000 in
theorem valKinds_sgn (x : Raw) (a : Option Addr) (len cap : Nat) (q : Nat → Raw) (w : World) (h60 : len ≤ 60) (hq : IsRaws w a len q) (hk : x.kind = 3) (ha : x.atom = .sgn x.r) :
    Calls Tryd.prog 3 #[x.val, .slice a len cap] w fun e w' => e = .returned (.bool true) ∧ Below w.heap.size w w' := by
  have M := Lib.hid (made_any x)
  have K := Lib.hid (kind_any x)
  rw [ha] at M
  rw [hk] at K
  clear hk ha
  have hlen : ¬(60 : Int) < (len : Int) := by omega
  have HL := Lib.hid (fun w => list_any a len cap q w h60)
  have HQ := Lib.hid hq; clear hq
  obtain ⟨k, n, s, r⟩ := x
  have C1 := Lib.hid (num_sgn r)
  have C2 := Lib.hid (str_sgn r)
  have C3 := Lib.hid (rune_sgn r)
  have C4 := Lib.hid (items_sgn r)
  have C5 := Lib.hid (kind_sgn r)
  simp only [Raw.val, Raw.cs, Atom.val] at M K C1 C2 C3 C4 C5 ⊢
  go_enter Tryd.func3, Tryd.ntmps3
  go_wp2_with fail
  have k0 := Blk.new w 23 #[.int .i64 k, .int .i64 n, .string s, .int .i32 r]
  have B0 : Below w.heap.size w (w.alloc (.cells #[.int .i64 k, .int .i64 n, .string s, .int .i32 r] 23)) := (Below.refl _ _).alloc (Nat.le_refl _) _
  have HQ0 := Lib.hid (HQ.out.later (by simpa using (Below.refl w.heap.size w).alloc (Nat.le_refl _) (.cells #[.int .i64 k, .int .i64 n, .string s, .int .i32 r] 23)))
  generalize w.alloc (.cells #[.int .i64 k, .int .i64 n, .string s, .int .i32 r] 23) = W at *
  have c0 := k0.cell 0; have c1 := k0.cell 1; have c2 := k0.cell 2; have c3 := k0.cell 3
  simp at c0 c1 c2 c3
  clear HQ
  have HB := Lib.hid B0; clear B0 k0
  refine (M.out _).mono ?_; rintro e w1 ⟨rfl, b1⟩
  have HB1 := Lib.hid (keepB HB.out b1)
  have HQ1 := Lib.hid (HQ0.out.later b1)
  replace c0 := cell_later b1 c0; replace c1 := cell_later b1 c1; replace c2 := cell_later b1 c2; replace c3 := cell_later b1 c3
  clear b1 HB HQ0
  go_wp2_with (refine (C1.out _).mono ?_; rintro e w9 ⟨rfl, rfl⟩)
  refine (C2.out _).mono ?_; rintro e w9 ⟨rfl, rfl⟩
  go_wp2_with fail
  refine (C3.out _).mono ?_; rintro e w9 ⟨rfl, rfl⟩
  go_wp2_with fail
  refine (C4.out _).mono ?_; rintro e w9 ⟨rfl, rfl⟩
  go_wp2_with fail
  refine (K.out _).mono ?_; rintro e w2 ⟨rfl, b2⟩
  have HB2 := Lib.hid (keepB HB1.out b2)
  have HQ2 := Lib.hid (HQ1.out.later b2)
  replace c0 := cell_later b2 c0; replace c1 := cell_later b2 c1; replace c2 := cell_later b2 c2; replace c3 := cell_later b2 c3
  clear b2 HB1 HQ1
  go_wp2_with fail
  refine (C5.out _).mono ?_; rintro e w9 ⟨rfl, rfl⟩
  go_wp2_with fail
  clear c0 c1 c2 c3
  refine (HL.out _ HQ2.out).mono ?_; rintro e w3 ⟨a1, cap1, rfl, _, b3⟩
  have HB3 := Lib.hid (keepB HB2.out b3)
  have HQ3 := Lib.hid (HQ2.out.later b3)
  clear b3 HB2 HQ2
  go_wp2_with fail
  refine (items_lst _ _ _ _).mono ?_; rintro e w9 ⟨rfl, rfl⟩
  go_wp2_with fail
  refine (HL.out _ HQ3.out).mono ?_; rintro e w4 ⟨a2, cap2, rfl, _, b4⟩
  have HB4 := Lib.hid (keepB HB3.out b4)
  clear b4 HB3 HQ3
  go_wp2_with fail
  refine (kind_lst _ _ _ _).mono ?_; rintro e w9 ⟨rfl, rfl⟩
  go_wp2_with fail
  refine (awake_any _).mono ?_; rintro e w5 ⟨rfl, b5⟩
  go_wp2_with fail
  go_ret
  exact ⟨rfl, keepB HB4.out b5⟩

set_option maxRecDepth 100000 in
set_option maxHeartbeats 8000000 in
theorem valKinds_nil (x : Raw) (a : Option Addr) (len cap : Nat) (q : Nat → Raw) (w : World) (h60 : len ≤ 60) (hq : IsRaws w a len q) (hk : x.kind = 0) (ha : x.atom = .nil) :
    Calls Tryd.prog 3 #[x.val, .slice a len cap] w fun e w' => e = .returned (.bool true) ∧ Below w.heap.size w w' := by
  have M := Lib.hid (made_any x)
  have K := Lib.hid (kind_any x)
  rw [ha] at M
  rw [hk] at K
  clear hk ha
  have hlen : ¬(60 : Int) < (len : Int) := by omega
  have HL := Lib.hid (fun w => list_any a len cap q w h60)
  have HQ := Lib.hid hq; clear hq
  obtain ⟨k, n, s, r⟩ := x
  have C1 := Lib.hid (num_nil )
  have C2 := Lib.hid (str_nil )
  have C3 := Lib.hid (rune_nil )
  have C4 := Lib.hid (items_nil )
  have C5 := Lib.hid (kind_nil )
  simp only [Raw.val, Raw.cs, Atom.val] at M K C1 C2 C3 C4 C5 ⊢
  go_enter Tryd.func3, Tryd.ntmps3
  go_wp2_with fail
  have k0 := Blk.new w 23 #[.int .i64 k, .int .i64 n, .string s, .int .i32 r]
  have B0 : Below w.heap.size w (w.alloc (.cells #[.int .i64 k, .int .i64 n, .string s, .int .i32 r] 23)) := (Below.refl _ _).alloc (Nat.le_refl _) _
  have HQ0 := Lib.hid (HQ.out.later (by simpa using (Below.refl w.heap.size w).alloc (Nat.le_refl _) (.cells #[.int .i64 k, .int .i64 n, .string s, .int .i32 r] 23)))
  generalize w.alloc (.cells #[.int .i64 k, .int .i64 n, .string s, .int .i32 r] 23) = W at *
  have c0 := k0.cell 0; have c1 := k0.cell 1; have c2 := k0.cell 2; have c3 := k0.cell 3
  simp at c0 c1 c2 c3
  clear HQ
  have HB := Lib.hid B0; clear B0 k0
  refine (M.out _).mono ?_; rintro e w1 ⟨rfl, b1⟩
  have HB1 := Lib.hid (keepB HB.out b1)
  have HQ1 := Lib.hid (HQ0.out.later b1)
  replace c0 := cell_later b1 c0; replace c1 := cell_later b1 c1; replace c2 := cell_later b1 c2; replace c3 := cell_later b1 c3
  clear b1 HB HQ0
  go_wp2_with (refine (C1.out _).mono ?_; rintro e w9 ⟨rfl, rfl⟩)
  refine (C2.out _).mono ?_; rintro e w9 ⟨rfl, rfl⟩
  go_wp2_with fail
  refine (C3.out _).mono ?_; rintro e w9 ⟨rfl, rfl⟩
  go_wp2_with fail
  refine (C4.out _).mono ?_; rintro e w9 ⟨rfl, rfl⟩
  go_wp2_with fail
  refine (K.out _).mono ?_; rintro e w2 ⟨rfl, b2⟩
  have HB2 := Lib.hid (keepB HB1.out b2)
  have HQ2 := Lib.hid (HQ1.out.later b2)
  replace c0 := cell_later b2 c0; replace c1 := cell_later b2 c1; replace c2 := cell_later b2 c2; replace c3 := cell_later b2 c3
  clear b2 HB1 HQ1
  go_wp2_with fail
  refine (C5.out _).mono ?_; rintro e w9 ⟨rfl, rfl⟩
  go_wp2_with fail
  clear c0 c1 c2 c3
  refine (HL.out _ HQ2.out).mono ?_; rintro e w3 ⟨a1, cap1, rfl, _, b3⟩
  have HB3 := Lib.hid (keepB HB2.out b3)
  have HQ3 := Lib.hid (HQ2.out.later b3)
  clear b3 HB2 HQ2
  go_wp2_with fail
  refine (items_lst _ _ _ _).mono ?_; rintro e w9 ⟨rfl, rfl⟩
  go_wp2_with fail
  refine (HL.out _ HQ3.out).mono ?_; rintro e w4 ⟨a2, cap2, rfl, _, b4⟩
  have HB4 := Lib.hid (keepB HB3.out b4)
  clear b4 HB3 HQ3
  go_wp2_with fail
  refine (kind_lst _ _ _ _).mono ?_; rintro e w9 ⟨rfl, rfl⟩
  go_wp2_with fail
  refine (awake_any _).mono ?_; rintro e w5 ⟨rfl, b5⟩
  go_wp2_with fail
  go_ret
  exact ⟨rfl, keepB HB4.out b5⟩

set_option maxRecDepth 100000 in
set_option maxHeartbeats 8000000 in
theorem valKinds_flt (x : Raw) (fv : Value) (a : Option Addr) (len cap : Nat) (q : Nat → Raw) (w : World) (h60 : len ≤ 60) (hq : IsRaws w a len q) (hk : x.kind = 0) (ha : x.atom = .flt fv) :
    Calls Tryd.prog 3 #[x.val, .slice a len cap] w fun e w' => e = .returned (.bool true) ∧ Below w.heap.size w w' := by
  have M := Lib.hid (made_any x)
  have K := Lib.hid (kind_any x)
  rw [ha] at M
  rw [hk] at K
  clear hk ha
  have hlen : ¬(60 : Int) < (len : Int) := by omega
  have HL := Lib.hid (fun w => list_any a len cap q w h60)
  have HQ := Lib.hid hq; clear hq
  obtain ⟨k, n, s, r⟩ := x
  have C1 := Lib.hid (num_flt fv)
  have C2 := Lib.hid (str_flt fv)
  have C3 := Lib.hid (rune_flt fv)
  have C4 := Lib.hid (items_flt fv)
  have C5 := Lib.hid (kind_flt fv)
  simp only [Raw.val, Raw.cs, Atom.val] at M K C1 C2 C3 C4 C5 ⊢
  go_enter Tryd.func3, Tryd.ntmps3
  go_wp2_with fail
  have k0 := Blk.new w 23 #[.int .i64 k, .int .i64 n, .string s, .int .i32 r]
  have B0 : Below w.heap.size w (w.alloc (.cells #[.int .i64 k, .int .i64 n, .string s, .int .i32 r] 23)) := (Below.refl _ _).alloc (Nat.le_refl _) _
  have HQ0 := Lib.hid (HQ.out.later (by simpa using (Below.refl w.heap.size w).alloc (Nat.le_refl _) (.cells #[.int .i64 k, .int .i64 n, .string s, .int .i32 r] 23)))
  generalize w.alloc (.cells #[.int .i64 k, .int .i64 n, .string s, .int .i32 r] 23) = W at *
  have c0 := k0.cell 0; have c1 := k0.cell 1; have c2 := k0.cell 2; have c3 := k0.cell 3
  simp at c0 c1 c2 c3
  clear HQ
  have HB := Lib.hid B0; clear B0 k0
  refine (M.out _).mono ?_; rintro e w1 ⟨rfl, b1⟩
  have HB1 := Lib.hid (keepB HB.out b1)
  have HQ1 := Lib.hid (HQ0.out.later b1)
  replace c0 := cell_later b1 c0; replace c1 := cell_later b1 c1; replace c2 := cell_later b1 c2; replace c3 := cell_later b1 c3
  clear b1 HB HQ0
  go_wp2_with (refine (C1.out _).mono ?_; rintro e w9 ⟨rfl, rfl⟩)
  refine (C2.out _).mono ?_; rintro e w9 ⟨rfl, rfl⟩
  go_wp2_with fail
  refine (C3.out _).mono ?_; rintro e w9 ⟨rfl, rfl⟩
  go_wp2_with fail
  refine (C4.out _).mono ?_; rintro e w9 ⟨rfl, rfl⟩
  go_wp2_with fail
  refine (K.out _).mono ?_; rintro e w2 ⟨rfl, b2⟩
  have HB2 := Lib.hid (keepB HB1.out b2)
  have HQ2 := Lib.hid (HQ1.out.later b2)
  replace c0 := cell_later b2 c0; replace c1 := cell_later b2 c1; replace c2 := cell_later b2 c2; replace c3 := cell_later b2 c3
  clear b2 HB1 HQ1
  go_wp2_with fail
  refine (C5.out _).mono ?_; rintro e w9 ⟨rfl, rfl⟩
  go_wp2_with fail
  clear c0 c1 c2 c3
  refine (HL.out _ HQ2.out).mono ?_; rintro e w3 ⟨a1, cap1, rfl, _, b3⟩
  have HB3 := Lib.hid (keepB HB2.out b3)
  have HQ3 := Lib.hid (HQ2.out.later b3)
  clear b3 HB2 HQ2
  go_wp2_with fail
  refine (items_lst _ _ _ _).mono ?_; rintro e w9 ⟨rfl, rfl⟩
  go_wp2_with fail
  refine (HL.out _ HQ3.out).mono ?_; rintro e w4 ⟨a2, cap2, rfl, _, b4⟩
  have HB4 := Lib.hid (keepB HB3.out b4)
  clear b4 HB3 HQ3
  go_wp2_with fail
  refine (kind_lst _ _ _ _).mono ?_; rintro e w9 ⟨rfl, rfl⟩
  go_wp2_with fail
  refine (awake_any _).mono ?_; rintro e w5 ⟨rfl, b5⟩
  go_wp2_with fail
  go_ret
  exact ⟨rfl, keepB HB4.out b5⟩

theorem valKinds_walk (x : Raw) (a : Option Addr) (len cap : Nat) (q : Nat → Raw) (w : World) (hq : IsRaws w a len q) :
    Calls Tryd.prog 3 #[x.val, .slice a len cap] w fun e w' => e = .returned (.bool true) ∧ Below w.heap.size w w' := by
  by_cases h60 : (60 : Int) < (len : Int)
  · exact valKinds_long x a len cap w h60
  · rcases x.forms with ⟨h1, h2⟩ | ⟨h1, h2⟩ | ⟨h1, h2⟩ | ⟨h1, h2⟩ | ⟨h1, v, h2⟩
    · exact valKinds_num x a len cap q w (by omega) hq h1 h2
    · exact valKinds_txt x a len cap q w (by omega) hq h1 h2
    · exact valKinds_sgn x a len cap q w (by omega) hq h1 h2
    · exact valKinds_nil x a len cap q w (by omega) hq h1 h2
    · exact valKinds_flt x v a len cap q w (by omega) hq h1 h2
end Go.Proofs.YtonnbckjlfadcaaDoor
