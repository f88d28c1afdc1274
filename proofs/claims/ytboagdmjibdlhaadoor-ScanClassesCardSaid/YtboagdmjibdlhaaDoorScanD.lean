/- Contracts of the reference's between and Rune. -/
import Derived.Test.YtboagdmjibdlhaaDoorScanC
import Derived.RegionTactic
namespace Go.Proofs.YtboagdmjibdlhaaDoor
set_option maxRecDepth 100000
set_option linter.unusedVariables false
open Go.RowKit

def bl (s : ByteArray) : List UInt8 := s.data.toList
theorem bl_len (s : ByteArray) : (bl s).length = s.size := by
  show s.data.toList.length = s.data.size
  rw [Array.length_toList]
theorem atL_lt (l : List UInt8) (k : Nat) : atL l k < 256 := (l.getD k 0).toNat_lt
theorem index_at (s : ByteArray) (i : Nat) (h : i < s.size) (j : Int) (hj : j = (i : Int)) (W : World) : (Instr.index 9 (.string s) (.int .i64 j)).run Tryd.prog W = .ok (.int .u8 (atL (bl s) i : Int)) W := by
  subst hj
  have hx : s[i] = (bl s).getD i 0 := by
    have hi : i < (bl s).length := by rw [bl_len]; exact h
    rw [List.getD_eq_getElem?_getD, List.getElem?_eq_getElem hi]
    rfl
  rw [run_index_string W 9 s .i64 (i : Int) Tryd.underlying9, dif_pos ⟨by omega, by omega⟩]
  simp only [Int.toNat_natCast, hx, atL]

/-- Is a byte there, and from one to another one? -/
def btw (h : Bool) (b lo hi : Nat) : Bool := h && (decide (lo ≤ b) && decide (b ≤ hi))

theorem btw_any (s : ByteArray) (i lo hi : Nat) (j : Int) (hj : j = (i : Int)) (w : World) (hlo : lo < 256) (hhi : hi < 256) :
    Calls Tryd.prog 50 #[.string s, .int .i64 j, .int .u8 (lo : Int), .int .u8 (hi : Int)] w fun e w' => e = .returned (.bool (btw (decide (i < s.size)) (atL (bl s) i) lo hi)) ∧ w = w' := by
  by_cases h : i < s.size
  · have hx := index_at s i h j hj
    generalize atL (bl s) i = b at *
    by_cases h1 : lo ≤ b
    · by_cases h2 : b ≤ hi
      · rw [show btw (decide (i < s.size)) b lo hi = true by simp [btw, h, h1, h2]]
        subst hj
        go_enter Tryd.func50, Tryd.ntmps50
        go_wp2
        go_ret
        exact ⟨rfl, rfl⟩
      · rw [show btw (decide (i < s.size)) b lo hi = false by simp [btw, h, h1, h2]]
        subst hj
        have d : decide ((b : Int) ≤ (hi : Int)) = false := decide_eq_false (by omega)
        go_enter Tryd.func50, Tryd.ntmps50
        go_wp2
        go_ret
        exact ⟨rfl, rfl⟩
    · rw [show btw (decide (i < s.size)) b lo hi = false by simp [btw, h1]]
      subst hj
      have d : decide ((lo : Int) ≤ (b : Int)) = false := decide_eq_false (by omega)
      go_enter Tryd.func50, Tryd.ntmps50
      go_wp2
      go_ret
      exact ⟨rfl, rfl⟩
  · rw [show btw (decide (i < s.size)) (atL (bl s) i) lo hi = false by simp [btw, h]]
    subst hj
    have d : decide ((i : Int) < (s.size : Int)) = false := decide_eq_false (by omega)
    go_enter Tryd.func50, Tryd.ntmps50
    go_wp2
    go_ret
    exact ⟨rfl, rfl⟩

/-- A rune, as the reference tells it. -/
def refB (a b1 b2 b3 : Nat) (h1 h2 h3 : Bool) : Nat × Nat :=
  if a < 128 then (a, 1)
  else if (194 ≤ a ∧ a ≤ 223) ∧ btw h1 b1 128 191 = true then ((a - 192) * 64 + (b1 - 128), 2)
  else if (224 ≤ a ∧ a ≤ 239) ∧ btw h1 b1 (if a = 224 then 160 else 128) (if a = 237 then 159 else 191) = true ∧ btw h2 b2 128 191 = true then (((a - 224) * 64 + (b1 - 128)) * 64 + (b2 - 128), 3)
  else if (240 ≤ a ∧ a ≤ 244) ∧ btw h1 b1 (if a = 240 then 144 else 128) (if a = 244 then 143 else 191) = true ∧ btw h2 b2 128 191 = true ∧ btw h3 b3 128 191 = true then ((((a - 240) * 64 + (b1 - 128)) * 64 + (b2 - 128)) * 64 + (b3 - 128), 4)
  else (65533, 1)

theorem btw_cont (h : Bool) (b : Nat) (hb : b < 256) : (h && (b / 64 == 2)) = btw h b 128 191 := by
  unfold btw
  cases h
  · rfl
  · by_cases h1 : 128 ≤ b <;> by_cases h2 : b ≤ 191 <;> simp [h1, h2] <;> omega

theorem refB_eq (a b1 b2 b3 : Nat) (h1 h2 h3 : Bool) (ha : a < 256) (hb1 : b1 < 256) (hb2 : b2 < 256) (hb3 : b3 < 256) :
    decB a b1 b2 b3 (h1 && (b1 / 64 == 2)) (h2 && (b2 / 64 == 2)) (h3 && (b3 / 64 == 2)) = refB a b1 b2 b3 h1 h2 h3 := by
  unfold decB refB
  by_cases c0 : a < 128
  · simp [c0]
  simp only [c0, if_false]
  by_cases c1 : a / 32 = 6
  · -- two bytes
    have n3 : ¬(224 ≤ a ∧ a ≤ 239) := by omega
    have n4 : ¬(240 ≤ a ∧ a ≤ 244) := by omega
    have m3 : (a / 16 == 14) = false := beq_eq_false_iff_ne.2 (by omega)
    have m4 : (a / 8 == 30) = false := beq_eq_false_iff_ne.2 (by omega)
    have c1' : (a / 32 == 6) = true := beq_iff_eq.2 c1
    simp only [c1', n3, n4, m3, m4, btw_cont _ _ hb1, false_and, Bool.true_and, Bool.false_and, if_false, Bool.false_eq_true]
    cases e1 : btw h1 b1 128 191
    · simp
    · simp [btw] at e1
      simp only [if_true, and_true]
      split <;> split <;> first | omega | (congr 1; omega) | rfl
  · have m2 : (a / 32 == 6) = false := beq_eq_false_iff_ne.2 c1
    have n2 : ¬(194 ≤ a ∧ a ≤ 223) := by omega
    by_cases c2 : a / 16 = 14
    · have n4 : ¬(240 ≤ a ∧ a ≤ 244) := by omega
      have n3 : (224 ≤ a ∧ a ≤ 239) := by omega
      have m4 : (a / 8 == 30) = false := beq_eq_false_iff_ne.2 (by omega)
      have c2' : (a / 16 == 14) = true := beq_iff_eq.2 c2
      simp only [c2', m2, n2, n3, n4, m4, btw_cont _ _ hb1, btw_cont _ _ hb2, true_and, false_and, and_self, Bool.true_and, Bool.false_and, if_false, Bool.false_eq_true, Bool.and_eq_true]
      cases e2 : btw h2 b2 128 191
      · simp
      · cases h1
        · simp [btw]
        · simp [btw] at e2
          simp only [and_true, btw, Bool.true_and, Utf8.valid, Bool.and_eq_true, decide_eq_true_eq, Bool.or_eq_true]
          (repeat' split) <;> first | omega | (congr 1; omega) | rfl
    · have n3 : ¬(224 ≤ a ∧ a ≤ 239) := by omega
      have m3 : (a / 16 == 14) = false := beq_eq_false_iff_ne.2 c2
      simp only [m2, m3, n2, n3, btw_cont _ _ hb1, btw_cont _ _ hb2, btw_cont _ _ hb3, false_and, Bool.false_and, if_false, Bool.false_eq_true, Bool.and_eq_true]
      cases e2 : btw h2 b2 128 191
      · simp
      · cases e3 : btw h3 b3 128 191
        · simp
        · cases h1
          · simp [btw]
          · simp [btw] at e2 e3
            simp only [and_true, btw, Bool.true_and, Utf8.valid, Bool.and_eq_true, decide_eq_true_eq, Bool.or_eq_true, beq_iff_eq]
            (repeat' split) <;> first | omega | (congr 1; omega) | rfl

theorem atL_drop (l : List UInt8) (i k : Nat) : atL (l.drop i) k = atL l (i + k) := by
  simp [atL, List.getD_eq_getElem?_getD, List.getElem?_drop]

/-- What the reference's Rune must tell. -/
theorem refR_eq (s : ByteArray) (i : Nat) : decL ((bl s).drop i) = refB (atL (bl s) i) (atL (bl s) (i + 1)) (atL (bl s) (i + 2)) (atL (bl s) (i + 3)) (decide (i + 1 < s.size)) (decide (i + 2 < s.size)) (decide (i + 3 < s.size)) := by
  rw [← refB_eq _ _ _ _ _ _ _ (atL_lt _ _) (atL_lt _ _) (atL_lt _ _) (atL_lt _ _)]
  have hc : ∀ k, decide (k < ((bl s).drop i).length) = decide (i + k < s.size) := by
    intro k
    have : (k < ((bl s).drop i).length) ↔ (i + k < s.size) := by rw [List.length_drop, bl_len]; omega
    exact decide_eq_decide.2 this
  simp only [decL, contL, atL_drop, hc, Nat.add_zero]

theorem below_drewN (w : World) (n : Nat) : Below w.heap.size w (w.drewN n) := ⟨rfl, rfl, rfl, Nat.le_refl _, fun _ _ => rfl⟩
section
variable (s : ByteArray) (i : Nat) (w : World)
set_option maxHeartbeats 1000000 in
theorem rune_a (h : i < s.size) (hs : s.size ≤ 1000000) (a b1 b2 b3 : Nat) (ha : atL (bl s) i = a) (e1 : atL (bl s) (i + 1) = b1) (e2 : atL (bl s) (i + 2) = b2) (e3 : atL (bl s) (i + 3) = b3) (la : a < 256) (l1 : b1 < 256) (l2 : b2 < 256) (l3 : b3 < 256) (k0 : a < 128)  :
    Calls Tryd.prog 40 #[.string s, .int .i64 (i : Int)] w fun e w' => e = .returned (.tuple #[.int .i64 ((a : Int)), .int .i64 1]) ∧ Below w.heap.size w w' := by
  have hx := index_at s i h (i : Int) rfl
  rw [ha] at hx
  clear ha e1 e2 e3
  have n224 : ((a : Int) == 224) = false := beq_eq_false_iff_ne.2 (by omega)
  have n237 : ((a : Int) == 237) = false := beq_eq_false_iff_ne.2 (by omega)
  have n240 : ((a : Int) == 240) = false := beq_eq_false_iff_ne.2 (by omega)
  have n244 : ((a : Int) == 244) = false := beq_eq_false_iff_ne.2 (by omega)
  first | (have g223 : decide ((a : Int) ≤ 223) = false := decide_eq_false (by omega)) | skip
  first | (have g239 : decide ((a : Int) ≤ 239) = false := decide_eq_false (by omega)) | skip
  first | (have g244 : decide ((a : Int) ≤ 244) = false := decide_eq_false (by omega)) | skip
  first | (have f194 : decide ((194 : Int) ≤ (a : Int)) = false := decide_eq_false (by omega)) | skip
  first | (have f224 : decide ((224 : Int) ≤ (a : Int)) = false := decide_eq_false (by omega)) | skip
  first | (have f240 : decide ((240 : Int) ≤ (a : Int)) = false := decide_eq_false (by omega)) | skip
  go_enter Tryd.func40, Tryd.ntmps40
  go_wp2
  go_ret2
  exact ⟨rfl, Below.refl _ _⟩

set_option maxHeartbeats 1000000 in
theorem rune_b (h : i < s.size) (hs : s.size ≤ 1000000) (a b1 b2 b3 : Nat) (ha : atL (bl s) i = a) (e1 : atL (bl s) (i + 1) = b1) (e2 : atL (bl s) (i + 2) = b2) (e3 : atL (bl s) (i + 3) = b3) (la : a < 256) (l1 : b1 < 256) (l2 : b2 < 256) (l3 : b3 < 256) (k0 : 128 ≤ a) (k1 : a ≤ 193)  :
    Calls Tryd.prog 40 #[.string s, .int .i64 (i : Int)] w fun e w' => e = .returned (.tuple #[.int .i64 (65533), .int .i64 1]) ∧ Below w.heap.size w w' := by
  have hx := index_at s i h (i : Int) rfl
  rw [ha] at hx
  clear ha e1 e2 e3
  have n224 : ((a : Int) == 224) = false := beq_eq_false_iff_ne.2 (by omega)
  have n237 : ((a : Int) == 237) = false := beq_eq_false_iff_ne.2 (by omega)
  have n240 : ((a : Int) == 240) = false := beq_eq_false_iff_ne.2 (by omega)
  have n244 : ((a : Int) == 244) = false := beq_eq_false_iff_ne.2 (by omega)
  first | (have g223 : decide ((a : Int) ≤ 223) = false := decide_eq_false (by omega)) | skip
  first | (have g239 : decide ((a : Int) ≤ 239) = false := decide_eq_false (by omega)) | skip
  first | (have g244 : decide ((a : Int) ≤ 244) = false := decide_eq_false (by omega)) | skip
  first | (have f194 : decide ((194 : Int) ≤ (a : Int)) = false := decide_eq_false (by omega)) | skip
  first | (have f224 : decide ((224 : Int) ≤ (a : Int)) = false := decide_eq_false (by omega)) | skip
  first | (have f240 : decide ((240 : Int) ≤ (a : Int)) = false := decide_eq_false (by omega)) | skip
  go_enter Tryd.func40, Tryd.ntmps40
  go_wp2
  go_ret2
  exact ⟨rfl, Below.refl _ _⟩

set_option maxHeartbeats 1000000 in
theorem rune_c1 (h : i < s.size) (hs : s.size ≤ 1000000) (a b1 b2 b3 : Nat) (ha : atL (bl s) i = a) (e1 : atL (bl s) (i + 1) = b1) (e2 : atL (bl s) (i + 2) = b2) (e3 : atL (bl s) (i + 3) = b3) (la : a < 256) (l1 : b1 < 256) (l2 : b2 < 256) (l3 : b3 < 256) (k0 : 194 ≤ a) (k1 : a ≤ 223) (t1 : btw (decide (i + 1 < s.size)) b1 128 191 = true) :
    Calls Tryd.prog 40 #[.string s, .int .i64 (i : Int)] w fun e w' => e = .returned (.tuple #[.int .i64 (((a : Int) - 192) * 64 + ((b1 : Int) - 128)), .int .i64 2]) ∧ Below w.heap.size w w' := by
  have hx := index_at s i h (i : Int) rfl
  rw [ha] at hx
  have B1 := fun w => btw_any s (i + 1) 128 191 ((i : Int) + 1) (by omega) w (by omega) (by omega)
  rw [e1, t1] at B1
  have r1 := t1
  simp [btw] at r1
  have x1 := index_at s (i + 1) (by omega) ((i : Int) + 1) (by omega)
  rw [e1] at x1
  have u1 : IntKind.u8.wrap ((b1 : Int) - 128) = (b1 : Int) - 128 := by rw [IntKind.wrap_u8]; omega
  have u0 : IntKind.u8.wrap ((a : Int) - 192) = (a : Int) - 192 := by rw [IntKind.wrap_u8]; omega
  have H1 := Lib.hid B1; clear B1 t1
  clear ha e1 e2 e3
  have n224 : ((a : Int) == 224) = false := beq_eq_false_iff_ne.2 (by omega)
  have n237 : ((a : Int) == 237) = false := beq_eq_false_iff_ne.2 (by omega)
  have n240 : ((a : Int) == 240) = false := beq_eq_false_iff_ne.2 (by omega)
  have n244 : ((a : Int) == 244) = false := beq_eq_false_iff_ne.2 (by omega)
  first | (have g223 : decide ((a : Int) ≤ 223) = false := decide_eq_false (by omega)) | skip
  first | (have g239 : decide ((a : Int) ≤ 239) = false := decide_eq_false (by omega)) | skip
  first | (have g244 : decide ((a : Int) ≤ 244) = false := decide_eq_false (by omega)) | skip
  first | (have f194 : decide ((194 : Int) ≤ (a : Int)) = false := decide_eq_false (by omega)) | skip
  first | (have f224 : decide ((224 : Int) ≤ (a : Int)) = false := decide_eq_false (by omega)) | skip
  first | (have f240 : decide ((240 : Int) ≤ (a : Int)) = false := decide_eq_false (by omega)) | skip
  go_enter Tryd.func40, Tryd.ntmps40
  go_wp2_with fail
  refine (H1.out _).mono ?_; rintro e w1 ⟨rfl, rfl⟩
  go_wp2_with fail
  go_ret2
  exact ⟨rfl, Below.refl _ _⟩

set_option maxHeartbeats 1000000 in
theorem rune_c0 (h : i < s.size) (hs : s.size ≤ 1000000) (a b1 b2 b3 : Nat) (ha : atL (bl s) i = a) (e1 : atL (bl s) (i + 1) = b1) (e2 : atL (bl s) (i + 2) = b2) (e3 : atL (bl s) (i + 3) = b3) (la : a < 256) (l1 : b1 < 256) (l2 : b2 < 256) (l3 : b3 < 256) (k0 : 194 ≤ a) (k1 : a ≤ 223) (t1 : btw (decide (i + 1 < s.size)) b1 128 191 = false) :
    Calls Tryd.prog 40 #[.string s, .int .i64 (i : Int)] w fun e w' => e = .returned (.tuple #[.int .i64 (65533), .int .i64 1]) ∧ Below w.heap.size w w' := by
  have hx := index_at s i h (i : Int) rfl
  rw [ha] at hx
  have B1 := fun w => btw_any s (i + 1) 128 191 ((i : Int) + 1) (by omega) w (by omega) (by omega)
  rw [e1, t1] at B1
  have H1 := Lib.hid B1; clear B1 t1
  clear ha e1 e2 e3
  have n224 : ((a : Int) == 224) = false := beq_eq_false_iff_ne.2 (by omega)
  have n237 : ((a : Int) == 237) = false := beq_eq_false_iff_ne.2 (by omega)
  have n240 : ((a : Int) == 240) = false := beq_eq_false_iff_ne.2 (by omega)
  have n244 : ((a : Int) == 244) = false := beq_eq_false_iff_ne.2 (by omega)
  first | (have g223 : decide ((a : Int) ≤ 223) = false := decide_eq_false (by omega)) | skip
  first | (have g239 : decide ((a : Int) ≤ 239) = false := decide_eq_false (by omega)) | skip
  first | (have g244 : decide ((a : Int) ≤ 244) = false := decide_eq_false (by omega)) | skip
  first | (have f194 : decide ((194 : Int) ≤ (a : Int)) = false := decide_eq_false (by omega)) | skip
  first | (have f224 : decide ((224 : Int) ≤ (a : Int)) = false := decide_eq_false (by omega)) | skip
  first | (have f240 : decide ((240 : Int) ≤ (a : Int)) = false := decide_eq_false (by omega)) | skip
  go_enter Tryd.func40, Tryd.ntmps40
  go_wp2_with fail
  refine (H1.out _).mono ?_; rintro e w1 ⟨rfl, rfl⟩
  go_wp2_with fail
  go_ret2
  exact ⟨rfl, Below.refl _ _⟩

set_option maxHeartbeats 1000000 in
theorem rune_dp11 (h : i < s.size) (hs : s.size ≤ 1000000) (a b1 b2 b3 : Nat) (ha : atL (bl s) i = a) (e1 : atL (bl s) (i + 1) = b1) (e2 : atL (bl s) (i + 2) = b2) (e3 : atL (bl s) (i + 3) = b3) (la : a < 256) (l1 : b1 < 256) (l2 : b2 < 256) (l3 : b3 < 256) (k0 : a = 224) (t1 : btw (decide (i + 1 < s.size)) b1 160 191 = true) (t2 : btw (decide (i + 2 < s.size)) b2 128 191 = true) :
    Calls Tryd.prog 40 #[.string s, .int .i64 (i : Int)] w fun e w' => e = .returned (.tuple #[.int .i64 ((((a : Int) - 224) * 64 + ((b1 : Int) - 128)) * 64 + ((b2 : Int) - 128)), .int .i64 3]) ∧ Below w.heap.size w w' := by
  have hx := index_at s i h (i : Int) rfl
  rw [ha] at hx
  have B1 := fun w => btw_any s (i + 1) 160 191 ((i : Int) + 1) (by omega) w (by omega) (by omega)
  rw [e1, t1] at B1
  have B2 := fun w => btw_any s (i + 2) 128 191 ((i : Int) + 2) (by omega) w (by omega) (by omega)
  rw [e2, t2] at B2
  have r1 := t1
  simp [btw] at r1
  have x1 := index_at s (i + 1) (by omega) ((i : Int) + 1) (by omega)
  rw [e1] at x1
  have u1 : IntKind.u8.wrap ((b1 : Int) - 128) = (b1 : Int) - 128 := by rw [IntKind.wrap_u8]; omega
  have r2 := t2
  simp [btw] at r2
  have x2 := index_at s (i + 2) (by omega) ((i : Int) + 2) (by omega)
  rw [e2] at x2
  have u2 : IntKind.u8.wrap ((b2 : Int) - 128) = (b2 : Int) - 128 := by rw [IntKind.wrap_u8]; omega
  have u0 : IntKind.u8.wrap ((a : Int) - 224) = (a : Int) - 224 := by rw [IntKind.wrap_u8]; omega
  have H1 := Lib.hid B1; clear B1 t1
  have H2 := Lib.hid B2; clear B2 t2
  clear ha e1 e2 e3
  have n224 : ((a : Int) == 224) = true := beq_iff_eq.2 (by omega)
  have n237 : ((a : Int) == 237) = false := beq_eq_false_iff_ne.2 (by omega)
  have n240 : ((a : Int) == 240) = false := beq_eq_false_iff_ne.2 (by omega)
  have n244 : ((a : Int) == 244) = false := beq_eq_false_iff_ne.2 (by omega)
  first | (have g223 : decide ((a : Int) ≤ 223) = false := decide_eq_false (by omega)) | skip
  first | (have g239 : decide ((a : Int) ≤ 239) = false := decide_eq_false (by omega)) | skip
  first | (have g244 : decide ((a : Int) ≤ 244) = false := decide_eq_false (by omega)) | skip
  first | (have f194 : decide ((194 : Int) ≤ (a : Int)) = false := decide_eq_false (by omega)) | skip
  first | (have f224 : decide ((224 : Int) ≤ (a : Int)) = false := decide_eq_false (by omega)) | skip
  first | (have f240 : decide ((240 : Int) ≤ (a : Int)) = false := decide_eq_false (by omega)) | skip
  have k1 : (224 : Int) ≤ (a : Int) := by omega
  have k2 : (a : Int) ≤ 224 := by omega
  clear k0
  go_enter Tryd.func40, Tryd.ntmps40
  go_wp2_with fail
  refine (H1.out _).mono ?_; rintro e w1 ⟨rfl, rfl⟩
  go_wp2_with fail
  refine (H2.out _).mono ?_; rintro e w1 ⟨rfl, rfl⟩
  go_wp2_with fail
  go_quiet (fail)
  go_wp2_with fail
  go_ret2
  exact ⟨rfl, below_drewN _ _⟩

set_option maxHeartbeats 1000000 in
theorem rune_dp10 (h : i < s.size) (hs : s.size ≤ 1000000) (a b1 b2 b3 : Nat) (ha : atL (bl s) i = a) (e1 : atL (bl s) (i + 1) = b1) (e2 : atL (bl s) (i + 2) = b2) (e3 : atL (bl s) (i + 3) = b3) (la : a < 256) (l1 : b1 < 256) (l2 : b2 < 256) (l3 : b3 < 256) (k0 : a = 224) (t1 : btw (decide (i + 1 < s.size)) b1 160 191 = true) (t2 : btw (decide (i + 2 < s.size)) b2 128 191 = false) :
    Calls Tryd.prog 40 #[.string s, .int .i64 (i : Int)] w fun e w' => e = .returned (.tuple #[.int .i64 (65533), .int .i64 1]) ∧ Below w.heap.size w w' := by
  have hx := index_at s i h (i : Int) rfl
  rw [ha] at hx
  have B1 := fun w => btw_any s (i + 1) 160 191 ((i : Int) + 1) (by omega) w (by omega) (by omega)
  rw [e1, t1] at B1
  have B2 := fun w => btw_any s (i + 2) 128 191 ((i : Int) + 2) (by omega) w (by omega) (by omega)
  rw [e2, t2] at B2
  have H1 := Lib.hid B1; clear B1 t1
  have H2 := Lib.hid B2; clear B2 t2
  clear ha e1 e2 e3
  have n224 : ((a : Int) == 224) = true := beq_iff_eq.2 (by omega)
  have n237 : ((a : Int) == 237) = false := beq_eq_false_iff_ne.2 (by omega)
  have n240 : ((a : Int) == 240) = false := beq_eq_false_iff_ne.2 (by omega)
  have n244 : ((a : Int) == 244) = false := beq_eq_false_iff_ne.2 (by omega)
  first | (have g223 : decide ((a : Int) ≤ 223) = false := decide_eq_false (by omega)) | skip
  first | (have g239 : decide ((a : Int) ≤ 239) = false := decide_eq_false (by omega)) | skip
  first | (have g244 : decide ((a : Int) ≤ 244) = false := decide_eq_false (by omega)) | skip
  first | (have f194 : decide ((194 : Int) ≤ (a : Int)) = false := decide_eq_false (by omega)) | skip
  first | (have f224 : decide ((224 : Int) ≤ (a : Int)) = false := decide_eq_false (by omega)) | skip
  first | (have f240 : decide ((240 : Int) ≤ (a : Int)) = false := decide_eq_false (by omega)) | skip
  have k1 : (224 : Int) ≤ (a : Int) := by omega
  have k2 : (a : Int) ≤ 224 := by omega
  clear k0
  go_enter Tryd.func40, Tryd.ntmps40
  go_wp2_with fail
  refine (H1.out _).mono ?_; rintro e w1 ⟨rfl, rfl⟩
  go_wp2_with fail
  refine (H2.out _).mono ?_; rintro e w1 ⟨rfl, rfl⟩
  go_wp2_with fail
  go_ret2
  exact ⟨rfl, Below.refl _ _⟩

set_option maxHeartbeats 1000000 in
theorem rune_dp0 (h : i < s.size) (hs : s.size ≤ 1000000) (a b1 b2 b3 : Nat) (ha : atL (bl s) i = a) (e1 : atL (bl s) (i + 1) = b1) (e2 : atL (bl s) (i + 2) = b2) (e3 : atL (bl s) (i + 3) = b3) (la : a < 256) (l1 : b1 < 256) (l2 : b2 < 256) (l3 : b3 < 256) (k0 : a = 224) (t1 : btw (decide (i + 1 < s.size)) b1 160 191 = false) :
    Calls Tryd.prog 40 #[.string s, .int .i64 (i : Int)] w fun e w' => e = .returned (.tuple #[.int .i64 (65533), .int .i64 1]) ∧ Below w.heap.size w w' := by
  have hx := index_at s i h (i : Int) rfl
  rw [ha] at hx
  have B1 := fun w => btw_any s (i + 1) 160 191 ((i : Int) + 1) (by omega) w (by omega) (by omega)
  rw [e1, t1] at B1
  have H1 := Lib.hid B1; clear B1 t1
  clear ha e1 e2 e3
  have n224 : ((a : Int) == 224) = true := beq_iff_eq.2 (by omega)
  have n237 : ((a : Int) == 237) = false := beq_eq_false_iff_ne.2 (by omega)
  have n240 : ((a : Int) == 240) = false := beq_eq_false_iff_ne.2 (by omega)
  have n244 : ((a : Int) == 244) = false := beq_eq_false_iff_ne.2 (by omega)
  first | (have g223 : decide ((a : Int) ≤ 223) = false := decide_eq_false (by omega)) | skip
  first | (have g239 : decide ((a : Int) ≤ 239) = false := decide_eq_false (by omega)) | skip
  first | (have g244 : decide ((a : Int) ≤ 244) = false := decide_eq_false (by omega)) | skip
  first | (have f194 : decide ((194 : Int) ≤ (a : Int)) = false := decide_eq_false (by omega)) | skip
  first | (have f224 : decide ((224 : Int) ≤ (a : Int)) = false := decide_eq_false (by omega)) | skip
  first | (have f240 : decide ((240 : Int) ≤ (a : Int)) = false := decide_eq_false (by omega)) | skip
  have k1 : (224 : Int) ≤ (a : Int) := by omega
  have k2 : (a : Int) ≤ 224 := by omega
  clear k0
  go_enter Tryd.func40, Tryd.ntmps40
  go_wp2_with fail
  refine (H1.out _).mono ?_; rintro e w1 ⟨rfl, rfl⟩
  go_wp2_with fail
  go_ret2
  exact ⟨rfl, Below.refl _ _⟩

set_option maxHeartbeats 1000000 in
theorem rune_dq11 (h : i < s.size) (hs : s.size ≤ 1000000) (a b1 b2 b3 : Nat) (ha : atL (bl s) i = a) (e1 : atL (bl s) (i + 1) = b1) (e2 : atL (bl s) (i + 2) = b2) (e3 : atL (bl s) (i + 3) = b3) (la : a < 256) (l1 : b1 < 256) (l2 : b2 < 256) (l3 : b3 < 256) (k0 : a = 237) (t1 : btw (decide (i + 1 < s.size)) b1 128 159 = true) (t2 : btw (decide (i + 2 < s.size)) b2 128 191 = true) :
    Calls Tryd.prog 40 #[.string s, .int .i64 (i : Int)] w fun e w' => e = .returned (.tuple #[.int .i64 ((((a : Int) - 224) * 64 + ((b1 : Int) - 128)) * 64 + ((b2 : Int) - 128)), .int .i64 3]) ∧ Below w.heap.size w w' := by
  have hx := index_at s i h (i : Int) rfl
  rw [ha] at hx
  have B1 := fun w => btw_any s (i + 1) 128 159 ((i : Int) + 1) (by omega) w (by omega) (by omega)
  rw [e1, t1] at B1
  have B2 := fun w => btw_any s (i + 2) 128 191 ((i : Int) + 2) (by omega) w (by omega) (by omega)
  rw [e2, t2] at B2
  have r1 := t1
  simp [btw] at r1
  have x1 := index_at s (i + 1) (by omega) ((i : Int) + 1) (by omega)
  rw [e1] at x1
  have u1 : IntKind.u8.wrap ((b1 : Int) - 128) = (b1 : Int) - 128 := by rw [IntKind.wrap_u8]; omega
  have r2 := t2
  simp [btw] at r2
  have x2 := index_at s (i + 2) (by omega) ((i : Int) + 2) (by omega)
  rw [e2] at x2
  have u2 : IntKind.u8.wrap ((b2 : Int) - 128) = (b2 : Int) - 128 := by rw [IntKind.wrap_u8]; omega
  have u0 : IntKind.u8.wrap ((a : Int) - 224) = (a : Int) - 224 := by rw [IntKind.wrap_u8]; omega
  have H1 := Lib.hid B1; clear B1 t1
  have H2 := Lib.hid B2; clear B2 t2
  clear ha e1 e2 e3
  have n224 : ((a : Int) == 224) = false := beq_eq_false_iff_ne.2 (by omega)
  have n237 : ((a : Int) == 237) = true := beq_iff_eq.2 (by omega)
  have n240 : ((a : Int) == 240) = false := beq_eq_false_iff_ne.2 (by omega)
  have n244 : ((a : Int) == 244) = false := beq_eq_false_iff_ne.2 (by omega)
  first | (have g223 : decide ((a : Int) ≤ 223) = false := decide_eq_false (by omega)) | skip
  first | (have g239 : decide ((a : Int) ≤ 239) = false := decide_eq_false (by omega)) | skip
  first | (have g244 : decide ((a : Int) ≤ 244) = false := decide_eq_false (by omega)) | skip
  first | (have f194 : decide ((194 : Int) ≤ (a : Int)) = false := decide_eq_false (by omega)) | skip
  first | (have f224 : decide ((224 : Int) ≤ (a : Int)) = false := decide_eq_false (by omega)) | skip
  first | (have f240 : decide ((240 : Int) ≤ (a : Int)) = false := decide_eq_false (by omega)) | skip
  have k1 : (237 : Int) ≤ (a : Int) := by omega
  have k2 : (a : Int) ≤ 237 := by omega
  clear k0
  go_enter Tryd.func40, Tryd.ntmps40
  go_wp2_with fail
  refine (H1.out _).mono ?_; rintro e w1 ⟨rfl, rfl⟩
  go_wp2_with fail
  refine (H2.out _).mono ?_; rintro e w1 ⟨rfl, rfl⟩
  go_wp2_with fail
  go_quiet (fail)
  go_wp2_with fail
  go_ret2
  exact ⟨rfl, below_drewN _ _⟩

set_option maxHeartbeats 1000000 in
theorem rune_dq10 (h : i < s.size) (hs : s.size ≤ 1000000) (a b1 b2 b3 : Nat) (ha : atL (bl s) i = a) (e1 : atL (bl s) (i + 1) = b1) (e2 : atL (bl s) (i + 2) = b2) (e3 : atL (bl s) (i + 3) = b3) (la : a < 256) (l1 : b1 < 256) (l2 : b2 < 256) (l3 : b3 < 256) (k0 : a = 237) (t1 : btw (decide (i + 1 < s.size)) b1 128 159 = true) (t2 : btw (decide (i + 2 < s.size)) b2 128 191 = false) :
    Calls Tryd.prog 40 #[.string s, .int .i64 (i : Int)] w fun e w' => e = .returned (.tuple #[.int .i64 (65533), .int .i64 1]) ∧ Below w.heap.size w w' := by
  have hx := index_at s i h (i : Int) rfl
  rw [ha] at hx
  have B1 := fun w => btw_any s (i + 1) 128 159 ((i : Int) + 1) (by omega) w (by omega) (by omega)
  rw [e1, t1] at B1
  have B2 := fun w => btw_any s (i + 2) 128 191 ((i : Int) + 2) (by omega) w (by omega) (by omega)
  rw [e2, t2] at B2
  have H1 := Lib.hid B1; clear B1 t1
  have H2 := Lib.hid B2; clear B2 t2
  clear ha e1 e2 e3
  have n224 : ((a : Int) == 224) = false := beq_eq_false_iff_ne.2 (by omega)
  have n237 : ((a : Int) == 237) = true := beq_iff_eq.2 (by omega)
  have n240 : ((a : Int) == 240) = false := beq_eq_false_iff_ne.2 (by omega)
  have n244 : ((a : Int) == 244) = false := beq_eq_false_iff_ne.2 (by omega)
  first | (have g223 : decide ((a : Int) ≤ 223) = false := decide_eq_false (by omega)) | skip
  first | (have g239 : decide ((a : Int) ≤ 239) = false := decide_eq_false (by omega)) | skip
  first | (have g244 : decide ((a : Int) ≤ 244) = false := decide_eq_false (by omega)) | skip
  first | (have f194 : decide ((194 : Int) ≤ (a : Int)) = false := decide_eq_false (by omega)) | skip
  first | (have f224 : decide ((224 : Int) ≤ (a : Int)) = false := decide_eq_false (by omega)) | skip
  first | (have f240 : decide ((240 : Int) ≤ (a : Int)) = false := decide_eq_false (by omega)) | skip
  have k1 : (237 : Int) ≤ (a : Int) := by omega
  have k2 : (a : Int) ≤ 237 := by omega
  clear k0
  go_enter Tryd.func40, Tryd.ntmps40
  go_wp2_with fail
  refine (H1.out _).mono ?_; rintro e w1 ⟨rfl, rfl⟩
  go_wp2_with fail
  refine (H2.out _).mono ?_; rintro e w1 ⟨rfl, rfl⟩
  go_wp2_with fail
  go_ret2
  exact ⟨rfl, Below.refl _ _⟩

set_option maxHeartbeats 1000000 in
theorem rune_dq0 (h : i < s.size) (hs : s.size ≤ 1000000) (a b1 b2 b3 : Nat) (ha : atL (bl s) i = a) (e1 : atL (bl s) (i + 1) = b1) (e2 : atL (bl s) (i + 2) = b2) (e3 : atL (bl s) (i + 3) = b3) (la : a < 256) (l1 : b1 < 256) (l2 : b2 < 256) (l3 : b3 < 256) (k0 : a = 237) (t1 : btw (decide (i + 1 < s.size)) b1 128 159 = false) :
    Calls Tryd.prog 40 #[.string s, .int .i64 (i : Int)] w fun e w' => e = .returned (.tuple #[.int .i64 (65533), .int .i64 1]) ∧ Below w.heap.size w w' := by
  have hx := index_at s i h (i : Int) rfl
  rw [ha] at hx
  have B1 := fun w => btw_any s (i + 1) 128 159 ((i : Int) + 1) (by omega) w (by omega) (by omega)
  rw [e1, t1] at B1
  have H1 := Lib.hid B1; clear B1 t1
  clear ha e1 e2 e3
  have n224 : ((a : Int) == 224) = false := beq_eq_false_iff_ne.2 (by omega)
  have n237 : ((a : Int) == 237) = true := beq_iff_eq.2 (by omega)
  have n240 : ((a : Int) == 240) = false := beq_eq_false_iff_ne.2 (by omega)
  have n244 : ((a : Int) == 244) = false := beq_eq_false_iff_ne.2 (by omega)
  first | (have g223 : decide ((a : Int) ≤ 223) = false := decide_eq_false (by omega)) | skip
  first | (have g239 : decide ((a : Int) ≤ 239) = false := decide_eq_false (by omega)) | skip
  first | (have g244 : decide ((a : Int) ≤ 244) = false := decide_eq_false (by omega)) | skip
  first | (have f194 : decide ((194 : Int) ≤ (a : Int)) = false := decide_eq_false (by omega)) | skip
  first | (have f224 : decide ((224 : Int) ≤ (a : Int)) = false := decide_eq_false (by omega)) | skip
  first | (have f240 : decide ((240 : Int) ≤ (a : Int)) = false := decide_eq_false (by omega)) | skip
  have k1 : (237 : Int) ≤ (a : Int) := by omega
  have k2 : (a : Int) ≤ 237 := by omega
  clear k0
  go_enter Tryd.func40, Tryd.ntmps40
  go_wp2_with fail
  refine (H1.out _).mono ?_; rintro e w1 ⟨rfl, rfl⟩
  go_wp2_with fail
  go_ret2
  exact ⟨rfl, Below.refl _ _⟩

set_option maxHeartbeats 1000000 in
theorem rune_dr11 (h : i < s.size) (hs : s.size ≤ 1000000) (a b1 b2 b3 : Nat) (ha : atL (bl s) i = a) (e1 : atL (bl s) (i + 1) = b1) (e2 : atL (bl s) (i + 2) = b2) (e3 : atL (bl s) (i + 3) = b3) (la : a < 256) (l1 : b1 < 256) (l2 : b2 < 256) (l3 : b3 < 256) (k0 : 224 ≤ a) (k1 : a ≤ 239) (k2 : a ≠ 224) (k3 : a ≠ 237) (t1 : btw (decide (i + 1 < s.size)) b1 128 191 = true) (t2 : btw (decide (i + 2 < s.size)) b2 128 191 = true) :
    Calls Tryd.prog 40 #[.string s, .int .i64 (i : Int)] w fun e w' => e = .returned (.tuple #[.int .i64 ((((a : Int) - 224) * 64 + ((b1 : Int) - 128)) * 64 + ((b2 : Int) - 128)), .int .i64 3]) ∧ Below w.heap.size w w' := by
  have hx := index_at s i h (i : Int) rfl
  rw [ha] at hx
  have B1 := fun w => btw_any s (i + 1) 128 191 ((i : Int) + 1) (by omega) w (by omega) (by omega)
  rw [e1, t1] at B1
  have B2 := fun w => btw_any s (i + 2) 128 191 ((i : Int) + 2) (by omega) w (by omega) (by omega)
  rw [e2, t2] at B2
  have r1 := t1
  simp [btw] at r1
  have x1 := index_at s (i + 1) (by omega) ((i : Int) + 1) (by omega)
  rw [e1] at x1
  have u1 : IntKind.u8.wrap ((b1 : Int) - 128) = (b1 : Int) - 128 := by rw [IntKind.wrap_u8]; omega
  have r2 := t2
  simp [btw] at r2
  have x2 := index_at s (i + 2) (by omega) ((i : Int) + 2) (by omega)
  rw [e2] at x2
  have u2 : IntKind.u8.wrap ((b2 : Int) - 128) = (b2 : Int) - 128 := by rw [IntKind.wrap_u8]; omega
  have u0 : IntKind.u8.wrap ((a : Int) - 224) = (a : Int) - 224 := by rw [IntKind.wrap_u8]; omega
  have H1 := Lib.hid B1; clear B1 t1
  have H2 := Lib.hid B2; clear B2 t2
  clear ha e1 e2 e3
  have n224 : ((a : Int) == 224) = false := beq_eq_false_iff_ne.2 (by omega)
  have n237 : ((a : Int) == 237) = false := beq_eq_false_iff_ne.2 (by omega)
  have n240 : ((a : Int) == 240) = false := beq_eq_false_iff_ne.2 (by omega)
  have n244 : ((a : Int) == 244) = false := beq_eq_false_iff_ne.2 (by omega)
  first | (have g223 : decide ((a : Int) ≤ 223) = false := decide_eq_false (by omega)) | skip
  first | (have g239 : decide ((a : Int) ≤ 239) = false := decide_eq_false (by omega)) | skip
  first | (have g244 : decide ((a : Int) ≤ 244) = false := decide_eq_false (by omega)) | skip
  first | (have f194 : decide ((194 : Int) ≤ (a : Int)) = false := decide_eq_false (by omega)) | skip
  first | (have f224 : decide ((224 : Int) ≤ (a : Int)) = false := decide_eq_false (by omega)) | skip
  first | (have f240 : decide ((240 : Int) ≤ (a : Int)) = false := decide_eq_false (by omega)) | skip
  go_enter Tryd.func40, Tryd.ntmps40
  go_wp2_with fail
  refine (H1.out _).mono ?_; rintro e w1 ⟨rfl, rfl⟩
  go_wp2_with fail
  refine (H2.out _).mono ?_; rintro e w1 ⟨rfl, rfl⟩
  go_wp2_with fail
  go_quiet (fail)
  go_wp2_with fail
  go_ret2
  exact ⟨rfl, below_drewN _ _⟩

set_option maxHeartbeats 1000000 in
theorem rune_dr10 (h : i < s.size) (hs : s.size ≤ 1000000) (a b1 b2 b3 : Nat) (ha : atL (bl s) i = a) (e1 : atL (bl s) (i + 1) = b1) (e2 : atL (bl s) (i + 2) = b2) (e3 : atL (bl s) (i + 3) = b3) (la : a < 256) (l1 : b1 < 256) (l2 : b2 < 256) (l3 : b3 < 256) (k0 : 224 ≤ a) (k1 : a ≤ 239) (k2 : a ≠ 224) (k3 : a ≠ 237) (t1 : btw (decide (i + 1 < s.size)) b1 128 191 = true) (t2 : btw (decide (i + 2 < s.size)) b2 128 191 = false) :
    Calls Tryd.prog 40 #[.string s, .int .i64 (i : Int)] w fun e w' => e = .returned (.tuple #[.int .i64 (65533), .int .i64 1]) ∧ Below w.heap.size w w' := by
  have hx := index_at s i h (i : Int) rfl
  rw [ha] at hx
  have B1 := fun w => btw_any s (i + 1) 128 191 ((i : Int) + 1) (by omega) w (by omega) (by omega)
  rw [e1, t1] at B1
  have B2 := fun w => btw_any s (i + 2) 128 191 ((i : Int) + 2) (by omega) w (by omega) (by omega)
  rw [e2, t2] at B2
  have H1 := Lib.hid B1; clear B1 t1
  have H2 := Lib.hid B2; clear B2 t2
  clear ha e1 e2 e3
  have n224 : ((a : Int) == 224) = false := beq_eq_false_iff_ne.2 (by omega)
  have n237 : ((a : Int) == 237) = false := beq_eq_false_iff_ne.2 (by omega)
  have n240 : ((a : Int) == 240) = false := beq_eq_false_iff_ne.2 (by omega)
  have n244 : ((a : Int) == 244) = false := beq_eq_false_iff_ne.2 (by omega)
  first | (have g223 : decide ((a : Int) ≤ 223) = false := decide_eq_false (by omega)) | skip
  first | (have g239 : decide ((a : Int) ≤ 239) = false := decide_eq_false (by omega)) | skip
  first | (have g244 : decide ((a : Int) ≤ 244) = false := decide_eq_false (by omega)) | skip
  first | (have f194 : decide ((194 : Int) ≤ (a : Int)) = false := decide_eq_false (by omega)) | skip
  first | (have f224 : decide ((224 : Int) ≤ (a : Int)) = false := decide_eq_false (by omega)) | skip
  first | (have f240 : decide ((240 : Int) ≤ (a : Int)) = false := decide_eq_false (by omega)) | skip
  go_enter Tryd.func40, Tryd.ntmps40
  go_wp2_with fail
  refine (H1.out _).mono ?_; rintro e w1 ⟨rfl, rfl⟩
  go_wp2_with fail
  refine (H2.out _).mono ?_; rintro e w1 ⟨rfl, rfl⟩
  go_wp2_with fail
  go_ret2
  exact ⟨rfl, Below.refl _ _⟩

set_option maxHeartbeats 1000000 in
theorem rune_dr0 (h : i < s.size) (hs : s.size ≤ 1000000) (a b1 b2 b3 : Nat) (ha : atL (bl s) i = a) (e1 : atL (bl s) (i + 1) = b1) (e2 : atL (bl s) (i + 2) = b2) (e3 : atL (bl s) (i + 3) = b3) (la : a < 256) (l1 : b1 < 256) (l2 : b2 < 256) (l3 : b3 < 256) (k0 : 224 ≤ a) (k1 : a ≤ 239) (k2 : a ≠ 224) (k3 : a ≠ 237) (t1 : btw (decide (i + 1 < s.size)) b1 128 191 = false) :
    Calls Tryd.prog 40 #[.string s, .int .i64 (i : Int)] w fun e w' => e = .returned (.tuple #[.int .i64 (65533), .int .i64 1]) ∧ Below w.heap.size w w' := by
  have hx := index_at s i h (i : Int) rfl
  rw [ha] at hx
  have B1 := fun w => btw_any s (i + 1) 128 191 ((i : Int) + 1) (by omega) w (by omega) (by omega)
  rw [e1, t1] at B1
  have H1 := Lib.hid B1; clear B1 t1
  clear ha e1 e2 e3
  have n224 : ((a : Int) == 224) = false := beq_eq_false_iff_ne.2 (by omega)
  have n237 : ((a : Int) == 237) = false := beq_eq_false_iff_ne.2 (by omega)
  have n240 : ((a : Int) == 240) = false := beq_eq_false_iff_ne.2 (by omega)
  have n244 : ((a : Int) == 244) = false := beq_eq_false_iff_ne.2 (by omega)
  first | (have g223 : decide ((a : Int) ≤ 223) = false := decide_eq_false (by omega)) | skip
  first | (have g239 : decide ((a : Int) ≤ 239) = false := decide_eq_false (by omega)) | skip
  first | (have g244 : decide ((a : Int) ≤ 244) = false := decide_eq_false (by omega)) | skip
  first | (have f194 : decide ((194 : Int) ≤ (a : Int)) = false := decide_eq_false (by omega)) | skip
  first | (have f224 : decide ((224 : Int) ≤ (a : Int)) = false := decide_eq_false (by omega)) | skip
  first | (have f240 : decide ((240 : Int) ≤ (a : Int)) = false := decide_eq_false (by omega)) | skip
  go_enter Tryd.func40, Tryd.ntmps40
  go_wp2_with fail
  refine (H1.out _).mono ?_; rintro e w1 ⟨rfl, rfl⟩
  go_wp2_with fail
  go_ret2
  exact ⟨rfl, Below.refl _ _⟩

set_option maxHeartbeats 1000000 in
theorem rune_ep111 (h : i < s.size) (hs : s.size ≤ 1000000) (a b1 b2 b3 : Nat) (ha : atL (bl s) i = a) (e1 : atL (bl s) (i + 1) = b1) (e2 : atL (bl s) (i + 2) = b2) (e3 : atL (bl s) (i + 3) = b3) (la : a < 256) (l1 : b1 < 256) (l2 : b2 < 256) (l3 : b3 < 256) (k0 : a = 240) (t1 : btw (decide (i + 1 < s.size)) b1 144 191 = true) (t2 : btw (decide (i + 2 < s.size)) b2 128 191 = true) (t3 : btw (decide (i + 3 < s.size)) b3 128 191 = true) :
    Calls Tryd.prog 40 #[.string s, .int .i64 (i : Int)] w fun e w' => e = .returned (.tuple #[.int .i64 (((((a : Int) - 240) * 64 + ((b1 : Int) - 128)) * 64 + ((b2 : Int) - 128)) * 64 + ((b3 : Int) - 128)), .int .i64 4]) ∧ Below w.heap.size w w' := by
  have hx := index_at s i h (i : Int) rfl
  rw [ha] at hx
  have B1 := fun w => btw_any s (i + 1) 144 191 ((i : Int) + 1) (by omega) w (by omega) (by omega)
  rw [e1, t1] at B1
  have B2 := fun w => btw_any s (i + 2) 128 191 ((i : Int) + 2) (by omega) w (by omega) (by omega)
  rw [e2, t2] at B2
  have B3 := fun w => btw_any s (i + 3) 128 191 ((i : Int) + 3) (by omega) w (by omega) (by omega)
  rw [e3, t3] at B3
  have r1 := t1
  simp [btw] at r1
  have x1 := index_at s (i + 1) (by omega) ((i : Int) + 1) (by omega)
  rw [e1] at x1
  have u1 : IntKind.u8.wrap ((b1 : Int) - 128) = (b1 : Int) - 128 := by rw [IntKind.wrap_u8]; omega
  have r2 := t2
  simp [btw] at r2
  have x2 := index_at s (i + 2) (by omega) ((i : Int) + 2) (by omega)
  rw [e2] at x2
  have u2 : IntKind.u8.wrap ((b2 : Int) - 128) = (b2 : Int) - 128 := by rw [IntKind.wrap_u8]; omega
  have r3 := t3
  simp [btw] at r3
  have x3 := index_at s (i + 3) (by omega) ((i : Int) + 3) (by omega)
  rw [e3] at x3
  have u3 : IntKind.u8.wrap ((b3 : Int) - 128) = (b3 : Int) - 128 := by rw [IntKind.wrap_u8]; omega
  have u0 : IntKind.u8.wrap ((a : Int) - 240) = (a : Int) - 240 := by rw [IntKind.wrap_u8]; omega
  have H1 := Lib.hid B1; clear B1 t1
  have H2 := Lib.hid B2; clear B2 t2
  have H3 := Lib.hid B3; clear B3 t3
  clear ha e1 e2 e3
  have n224 : ((a : Int) == 224) = false := beq_eq_false_iff_ne.2 (by omega)
  have n237 : ((a : Int) == 237) = false := beq_eq_false_iff_ne.2 (by omega)
  have n240 : ((a : Int) == 240) = true := beq_iff_eq.2 (by omega)
  have n244 : ((a : Int) == 244) = false := beq_eq_false_iff_ne.2 (by omega)
  first | (have g223 : decide ((a : Int) ≤ 223) = false := decide_eq_false (by omega)) | skip
  first | (have g239 : decide ((a : Int) ≤ 239) = false := decide_eq_false (by omega)) | skip
  first | (have g244 : decide ((a : Int) ≤ 244) = false := decide_eq_false (by omega)) | skip
  first | (have f194 : decide ((194 : Int) ≤ (a : Int)) = false := decide_eq_false (by omega)) | skip
  first | (have f224 : decide ((224 : Int) ≤ (a : Int)) = false := decide_eq_false (by omega)) | skip
  first | (have f240 : decide ((240 : Int) ≤ (a : Int)) = false := decide_eq_false (by omega)) | skip
  have k1 : (240 : Int) ≤ (a : Int) := by omega
  have k2 : (a : Int) ≤ 240 := by omega
  clear k0
  go_enter Tryd.func40, Tryd.ntmps40
  go_wp2_with fail
  refine (H1.out _).mono ?_; rintro e w1 ⟨rfl, rfl⟩
  go_wp2_with fail
  refine (H2.out _).mono ?_; rintro e w1 ⟨rfl, rfl⟩
  go_wp2_with fail
  refine (H3.out _).mono ?_; rintro e w1 ⟨rfl, rfl⟩
  go_wp2_with fail
  go_quiet (fail)
  go_wp2_with fail
  go_ret2
  exact ⟨rfl, below_drewN _ _⟩

set_option maxHeartbeats 1000000 in
theorem rune_ep110 (h : i < s.size) (hs : s.size ≤ 1000000) (a b1 b2 b3 : Nat) (ha : atL (bl s) i = a) (e1 : atL (bl s) (i + 1) = b1) (e2 : atL (bl s) (i + 2) = b2) (e3 : atL (bl s) (i + 3) = b3) (la : a < 256) (l1 : b1 < 256) (l2 : b2 < 256) (l3 : b3 < 256) (k0 : a = 240) (t1 : btw (decide (i + 1 < s.size)) b1 144 191 = true) (t2 : btw (decide (i + 2 < s.size)) b2 128 191 = true) (t3 : btw (decide (i + 3 < s.size)) b3 128 191 = false) :
    Calls Tryd.prog 40 #[.string s, .int .i64 (i : Int)] w fun e w' => e = .returned (.tuple #[.int .i64 (65533), .int .i64 1]) ∧ Below w.heap.size w w' := by
  have hx := index_at s i h (i : Int) rfl
  rw [ha] at hx
  have B1 := fun w => btw_any s (i + 1) 144 191 ((i : Int) + 1) (by omega) w (by omega) (by omega)
  rw [e1, t1] at B1
  have B2 := fun w => btw_any s (i + 2) 128 191 ((i : Int) + 2) (by omega) w (by omega) (by omega)
  rw [e2, t2] at B2
  have B3 := fun w => btw_any s (i + 3) 128 191 ((i : Int) + 3) (by omega) w (by omega) (by omega)
  rw [e3, t3] at B3
  have H1 := Lib.hid B1; clear B1 t1
  have H2 := Lib.hid B2; clear B2 t2
  have H3 := Lib.hid B3; clear B3 t3
  clear ha e1 e2 e3
  have n224 : ((a : Int) == 224) = false := beq_eq_false_iff_ne.2 (by omega)
  have n237 : ((a : Int) == 237) = false := beq_eq_false_iff_ne.2 (by omega)
  have n240 : ((a : Int) == 240) = true := beq_iff_eq.2 (by omega)
  have n244 : ((a : Int) == 244) = false := beq_eq_false_iff_ne.2 (by omega)
  first | (have g223 : decide ((a : Int) ≤ 223) = false := decide_eq_false (by omega)) | skip
  first | (have g239 : decide ((a : Int) ≤ 239) = false := decide_eq_false (by omega)) | skip
  first | (have g244 : decide ((a : Int) ≤ 244) = false := decide_eq_false (by omega)) | skip
  first | (have f194 : decide ((194 : Int) ≤ (a : Int)) = false := decide_eq_false (by omega)) | skip
  first | (have f224 : decide ((224 : Int) ≤ (a : Int)) = false := decide_eq_false (by omega)) | skip
  first | (have f240 : decide ((240 : Int) ≤ (a : Int)) = false := decide_eq_false (by omega)) | skip
  have k1 : (240 : Int) ≤ (a : Int) := by omega
  have k2 : (a : Int) ≤ 240 := by omega
  clear k0
  go_enter Tryd.func40, Tryd.ntmps40
  go_wp2_with fail
  refine (H1.out _).mono ?_; rintro e w1 ⟨rfl, rfl⟩
  go_wp2_with fail
  refine (H2.out _).mono ?_; rintro e w1 ⟨rfl, rfl⟩
  go_wp2_with fail
  refine (H3.out _).mono ?_; rintro e w1 ⟨rfl, rfl⟩
  go_wp2_with fail
  go_ret2
  exact ⟨rfl, Below.refl _ _⟩

set_option maxHeartbeats 1000000 in
theorem rune_ep10 (h : i < s.size) (hs : s.size ≤ 1000000) (a b1 b2 b3 : Nat) (ha : atL (bl s) i = a) (e1 : atL (bl s) (i + 1) = b1) (e2 : atL (bl s) (i + 2) = b2) (e3 : atL (bl s) (i + 3) = b3) (la : a < 256) (l1 : b1 < 256) (l2 : b2 < 256) (l3 : b3 < 256) (k0 : a = 240) (t1 : btw (decide (i + 1 < s.size)) b1 144 191 = true) (t2 : btw (decide (i + 2 < s.size)) b2 128 191 = false) :
    Calls Tryd.prog 40 #[.string s, .int .i64 (i : Int)] w fun e w' => e = .returned (.tuple #[.int .i64 (65533), .int .i64 1]) ∧ Below w.heap.size w w' := by
  have hx := index_at s i h (i : Int) rfl
  rw [ha] at hx
  have B1 := fun w => btw_any s (i + 1) 144 191 ((i : Int) + 1) (by omega) w (by omega) (by omega)
  rw [e1, t1] at B1
  have B2 := fun w => btw_any s (i + 2) 128 191 ((i : Int) + 2) (by omega) w (by omega) (by omega)
  rw [e2, t2] at B2
  have H1 := Lib.hid B1; clear B1 t1
  have H2 := Lib.hid B2; clear B2 t2
  clear ha e1 e2 e3
  have n224 : ((a : Int) == 224) = false := beq_eq_false_iff_ne.2 (by omega)
  have n237 : ((a : Int) == 237) = false := beq_eq_false_iff_ne.2 (by omega)
  have n240 : ((a : Int) == 240) = true := beq_iff_eq.2 (by omega)
  have n244 : ((a : Int) == 244) = false := beq_eq_false_iff_ne.2 (by omega)
  first | (have g223 : decide ((a : Int) ≤ 223) = false := decide_eq_false (by omega)) | skip
  first | (have g239 : decide ((a : Int) ≤ 239) = false := decide_eq_false (by omega)) | skip
  first | (have g244 : decide ((a : Int) ≤ 244) = false := decide_eq_false (by omega)) | skip
  first | (have f194 : decide ((194 : Int) ≤ (a : Int)) = false := decide_eq_false (by omega)) | skip
  first | (have f224 : decide ((224 : Int) ≤ (a : Int)) = false := decide_eq_false (by omega)) | skip
  first | (have f240 : decide ((240 : Int) ≤ (a : Int)) = false := decide_eq_false (by omega)) | skip
  have k1 : (240 : Int) ≤ (a : Int) := by omega
  have k2 : (a : Int) ≤ 240 := by omega
  clear k0
  go_enter Tryd.func40, Tryd.ntmps40
  go_wp2_with fail
  refine (H1.out _).mono ?_; rintro e w1 ⟨rfl, rfl⟩
  go_wp2_with fail
  refine (H2.out _).mono ?_; rintro e w1 ⟨rfl, rfl⟩
  go_wp2_with fail
  go_ret2
  exact ⟨rfl, Below.refl _ _⟩

set_option maxHeartbeats 1000000 in
theorem rune_ep0 (h : i < s.size) (hs : s.size ≤ 1000000) (a b1 b2 b3 : Nat) (ha : atL (bl s) i = a) (e1 : atL (bl s) (i + 1) = b1) (e2 : atL (bl s) (i + 2) = b2) (e3 : atL (bl s) (i + 3) = b3) (la : a < 256) (l1 : b1 < 256) (l2 : b2 < 256) (l3 : b3 < 256) (k0 : a = 240) (t1 : btw (decide (i + 1 < s.size)) b1 144 191 = false) :
    Calls Tryd.prog 40 #[.string s, .int .i64 (i : Int)] w fun e w' => e = .returned (.tuple #[.int .i64 (65533), .int .i64 1]) ∧ Below w.heap.size w w' := by
  have hx := index_at s i h (i : Int) rfl
  rw [ha] at hx
  have B1 := fun w => btw_any s (i + 1) 144 191 ((i : Int) + 1) (by omega) w (by omega) (by omega)
  rw [e1, t1] at B1
  have H1 := Lib.hid B1; clear B1 t1
  clear ha e1 e2 e3
  have n224 : ((a : Int) == 224) = false := beq_eq_false_iff_ne.2 (by omega)
  have n237 : ((a : Int) == 237) = false := beq_eq_false_iff_ne.2 (by omega)
  have n240 : ((a : Int) == 240) = true := beq_iff_eq.2 (by omega)
  have n244 : ((a : Int) == 244) = false := beq_eq_false_iff_ne.2 (by omega)
  first | (have g223 : decide ((a : Int) ≤ 223) = false := decide_eq_false (by omega)) | skip
  first | (have g239 : decide ((a : Int) ≤ 239) = false := decide_eq_false (by omega)) | skip
  first | (have g244 : decide ((a : Int) ≤ 244) = false := decide_eq_false (by omega)) | skip
  first | (have f194 : decide ((194 : Int) ≤ (a : Int)) = false := decide_eq_false (by omega)) | skip
  first | (have f224 : decide ((224 : Int) ≤ (a : Int)) = false := decide_eq_false (by omega)) | skip
  first | (have f240 : decide ((240 : Int) ≤ (a : Int)) = false := decide_eq_false (by omega)) | skip
  have k1 : (240 : Int) ≤ (a : Int) := by omega
  have k2 : (a : Int) ≤ 240 := by omega
  clear k0
  go_enter Tryd.func40, Tryd.ntmps40
  go_wp2_with fail
  refine (H1.out _).mono ?_; rintro e w1 ⟨rfl, rfl⟩
  go_wp2_with fail
  go_ret2
  exact ⟨rfl, Below.refl _ _⟩

set_option maxHeartbeats 1000000 in
theorem rune_eq111 (h : i < s.size) (hs : s.size ≤ 1000000) (a b1 b2 b3 : Nat) (ha : atL (bl s) i = a) (e1 : atL (bl s) (i + 1) = b1) (e2 : atL (bl s) (i + 2) = b2) (e3 : atL (bl s) (i + 3) = b3) (la : a < 256) (l1 : b1 < 256) (l2 : b2 < 256) (l3 : b3 < 256) (k0 : a = 244) (t1 : btw (decide (i + 1 < s.size)) b1 128 143 = true) (t2 : btw (decide (i + 2 < s.size)) b2 128 191 = true) (t3 : btw (decide (i + 3 < s.size)) b3 128 191 = true) :
    Calls Tryd.prog 40 #[.string s, .int .i64 (i : Int)] w fun e w' => e = .returned (.tuple #[.int .i64 (((((a : Int) - 240) * 64 + ((b1 : Int) - 128)) * 64 + ((b2 : Int) - 128)) * 64 + ((b3 : Int) - 128)), .int .i64 4]) ∧ Below w.heap.size w w' := by
  have hx := index_at s i h (i : Int) rfl
  rw [ha] at hx
  have B1 := fun w => btw_any s (i + 1) 128 143 ((i : Int) + 1) (by omega) w (by omega) (by omega)
  rw [e1, t1] at B1
  have B2 := fun w => btw_any s (i + 2) 128 191 ((i : Int) + 2) (by omega) w (by omega) (by omega)
  rw [e2, t2] at B2
  have B3 := fun w => btw_any s (i + 3) 128 191 ((i : Int) + 3) (by omega) w (by omega) (by omega)
  rw [e3, t3] at B3
  have r1 := t1
  simp [btw] at r1
  have x1 := index_at s (i + 1) (by omega) ((i : Int) + 1) (by omega)
  rw [e1] at x1
  have u1 : IntKind.u8.wrap ((b1 : Int) - 128) = (b1 : Int) - 128 := by rw [IntKind.wrap_u8]; omega
  have r2 := t2
  simp [btw] at r2
  have x2 := index_at s (i + 2) (by omega) ((i : Int) + 2) (by omega)
  rw [e2] at x2
  have u2 : IntKind.u8.wrap ((b2 : Int) - 128) = (b2 : Int) - 128 := by rw [IntKind.wrap_u8]; omega
  have r3 := t3
  simp [btw] at r3
  have x3 := index_at s (i + 3) (by omega) ((i : Int) + 3) (by omega)
  rw [e3] at x3
  have u3 : IntKind.u8.wrap ((b3 : Int) - 128) = (b3 : Int) - 128 := by rw [IntKind.wrap_u8]; omega
  have u0 : IntKind.u8.wrap ((a : Int) - 240) = (a : Int) - 240 := by rw [IntKind.wrap_u8]; omega
  have H1 := Lib.hid B1; clear B1 t1
  have H2 := Lib.hid B2; clear B2 t2
  have H3 := Lib.hid B3; clear B3 t3
  clear ha e1 e2 e3
  have n224 : ((a : Int) == 224) = false := beq_eq_false_iff_ne.2 (by omega)
  have n237 : ((a : Int) == 237) = false := beq_eq_false_iff_ne.2 (by omega)
  have n240 : ((a : Int) == 240) = false := beq_eq_false_iff_ne.2 (by omega)
  have n244 : ((a : Int) == 244) = true := beq_iff_eq.2 (by omega)
  first | (have g223 : decide ((a : Int) ≤ 223) = false := decide_eq_false (by omega)) | skip
  first | (have g239 : decide ((a : Int) ≤ 239) = false := decide_eq_false (by omega)) | skip
  first | (have g244 : decide ((a : Int) ≤ 244) = false := decide_eq_false (by omega)) | skip
  first | (have f194 : decide ((194 : Int) ≤ (a : Int)) = false := decide_eq_false (by omega)) | skip
  first | (have f224 : decide ((224 : Int) ≤ (a : Int)) = false := decide_eq_false (by omega)) | skip
  first | (have f240 : decide ((240 : Int) ≤ (a : Int)) = false := decide_eq_false (by omega)) | skip
  have k1 : (244 : Int) ≤ (a : Int) := by omega
  have k2 : (a : Int) ≤ 244 := by omega
  clear k0
  go_enter Tryd.func40, Tryd.ntmps40
  go_wp2_with fail
  refine (H1.out _).mono ?_; rintro e w1 ⟨rfl, rfl⟩
  go_wp2_with fail
  refine (H2.out _).mono ?_; rintro e w1 ⟨rfl, rfl⟩
  go_wp2_with fail
  refine (H3.out _).mono ?_; rintro e w1 ⟨rfl, rfl⟩
  go_wp2_with fail
  go_quiet (fail)
  go_wp2_with fail
  go_ret2
  exact ⟨rfl, below_drewN _ _⟩

set_option maxHeartbeats 1000000 in
theorem rune_eq110 (h : i < s.size) (hs : s.size ≤ 1000000) (a b1 b2 b3 : Nat) (ha : atL (bl s) i = a) (e1 : atL (bl s) (i + 1) = b1) (e2 : atL (bl s) (i + 2) = b2) (e3 : atL (bl s) (i + 3) = b3) (la : a < 256) (l1 : b1 < 256) (l2 : b2 < 256) (l3 : b3 < 256) (k0 : a = 244) (t1 : btw (decide (i + 1 < s.size)) b1 128 143 = true) (t2 : btw (decide (i + 2 < s.size)) b2 128 191 = true) (t3 : btw (decide (i + 3 < s.size)) b3 128 191 = false) :
    Calls Tryd.prog 40 #[.string s, .int .i64 (i : Int)] w fun e w' => e = .returned (.tuple #[.int .i64 (65533), .int .i64 1]) ∧ Below w.heap.size w w' := by
  have hx := index_at s i h (i : Int) rfl
  rw [ha] at hx
  have B1 := fun w => btw_any s (i + 1) 128 143 ((i : Int) + 1) (by omega) w (by omega) (by omega)
  rw [e1, t1] at B1
  have B2 := fun w => btw_any s (i + 2) 128 191 ((i : Int) + 2) (by omega) w (by omega) (by omega)
  rw [e2, t2] at B2
  have B3 := fun w => btw_any s (i + 3) 128 191 ((i : Int) + 3) (by omega) w (by omega) (by omega)
  rw [e3, t3] at B3
  have H1 := Lib.hid B1; clear B1 t1
  have H2 := Lib.hid B2; clear B2 t2
  have H3 := Lib.hid B3; clear B3 t3
  clear ha e1 e2 e3
  have n224 : ((a : Int) == 224) = false := beq_eq_false_iff_ne.2 (by omega)
  have n237 : ((a : Int) == 237) = false := beq_eq_false_iff_ne.2 (by omega)
  have n240 : ((a : Int) == 240) = false := beq_eq_false_iff_ne.2 (by omega)
  have n244 : ((a : Int) == 244) = true := beq_iff_eq.2 (by omega)
  first | (have g223 : decide ((a : Int) ≤ 223) = false := decide_eq_false (by omega)) | skip
  first | (have g239 : decide ((a : Int) ≤ 239) = false := decide_eq_false (by omega)) | skip
  first | (have g244 : decide ((a : Int) ≤ 244) = false := decide_eq_false (by omega)) | skip
  first | (have f194 : decide ((194 : Int) ≤ (a : Int)) = false := decide_eq_false (by omega)) | skip
  first | (have f224 : decide ((224 : Int) ≤ (a : Int)) = false := decide_eq_false (by omega)) | skip
  first | (have f240 : decide ((240 : Int) ≤ (a : Int)) = false := decide_eq_false (by omega)) | skip
  have k1 : (244 : Int) ≤ (a : Int) := by omega
  have k2 : (a : Int) ≤ 244 := by omega
  clear k0
  go_enter Tryd.func40, Tryd.ntmps40
  go_wp2_with fail
  refine (H1.out _).mono ?_; rintro e w1 ⟨rfl, rfl⟩
  go_wp2_with fail
  refine (H2.out _).mono ?_; rintro e w1 ⟨rfl, rfl⟩
  go_wp2_with fail
  refine (H3.out _).mono ?_; rintro e w1 ⟨rfl, rfl⟩
  go_wp2_with fail
  go_ret2
  exact ⟨rfl, Below.refl _ _⟩

set_option maxHeartbeats 1000000 in
theorem rune_eq10 (h : i < s.size) (hs : s.size ≤ 1000000) (a b1 b2 b3 : Nat) (ha : atL (bl s) i = a) (e1 : atL (bl s) (i + 1) = b1) (e2 : atL (bl s) (i + 2) = b2) (e3 : atL (bl s) (i + 3) = b3) (la : a < 256) (l1 : b1 < 256) (l2 : b2 < 256) (l3 : b3 < 256) (k0 : a = 244) (t1 : btw (decide (i + 1 < s.size)) b1 128 143 = true) (t2 : btw (decide (i + 2 < s.size)) b2 128 191 = false) :
    Calls Tryd.prog 40 #[.string s, .int .i64 (i : Int)] w fun e w' => e = .returned (.tuple #[.int .i64 (65533), .int .i64 1]) ∧ Below w.heap.size w w' := by
  have hx := index_at s i h (i : Int) rfl
  rw [ha] at hx
  have B1 := fun w => btw_any s (i + 1) 128 143 ((i : Int) + 1) (by omega) w (by omega) (by omega)
  rw [e1, t1] at B1
  have B2 := fun w => btw_any s (i + 2) 128 191 ((i : Int) + 2) (by omega) w (by omega) (by omega)
  rw [e2, t2] at B2
  have H1 := Lib.hid B1; clear B1 t1
  have H2 := Lib.hid B2; clear B2 t2
  clear ha e1 e2 e3
  have n224 : ((a : Int) == 224) = false := beq_eq_false_iff_ne.2 (by omega)
  have n237 : ((a : Int) == 237) = false := beq_eq_false_iff_ne.2 (by omega)
  have n240 : ((a : Int) == 240) = false := beq_eq_false_iff_ne.2 (by omega)
  have n244 : ((a : Int) == 244) = true := beq_iff_eq.2 (by omega)
  first | (have g223 : decide ((a : Int) ≤ 223) = false := decide_eq_false (by omega)) | skip
  first | (have g239 : decide ((a : Int) ≤ 239) = false := decide_eq_false (by omega)) | skip
  first | (have g244 : decide ((a : Int) ≤ 244) = false := decide_eq_false (by omega)) | skip
  first | (have f194 : decide ((194 : Int) ≤ (a : Int)) = false := decide_eq_false (by omega)) | skip
  first | (have f224 : decide ((224 : Int) ≤ (a : Int)) = false := decide_eq_false (by omega)) | skip
  first | (have f240 : decide ((240 : Int) ≤ (a : Int)) = false := decide_eq_false (by omega)) | skip
  have k1 : (244 : Int) ≤ (a : Int) := by omega
  have k2 : (a : Int) ≤ 244 := by omega
  clear k0
  go_enter Tryd.func40, Tryd.ntmps40
  go_wp2_with fail
  refine (H1.out _).mono ?_; rintro e w1 ⟨rfl, rfl⟩
  go_wp2_with fail
  refine (H2.out _).mono ?_; rintro e w1 ⟨rfl, rfl⟩
  go_wp2_with fail
  go_ret2
  exact ⟨rfl, Below.refl _ _⟩

set_option maxHeartbeats 1000000 in
theorem rune_eq0 (h : i < s.size) (hs : s.size ≤ 1000000) (a b1 b2 b3 : Nat) (ha : atL (bl s) i = a) (e1 : atL (bl s) (i + 1) = b1) (e2 : atL (bl s) (i + 2) = b2) (e3 : atL (bl s) (i + 3) = b3) (la : a < 256) (l1 : b1 < 256) (l2 : b2 < 256) (l3 : b3 < 256) (k0 : a = 244) (t1 : btw (decide (i + 1 < s.size)) b1 128 143 = false) :
    Calls Tryd.prog 40 #[.string s, .int .i64 (i : Int)] w fun e w' => e = .returned (.tuple #[.int .i64 (65533), .int .i64 1]) ∧ Below w.heap.size w w' := by
  have hx := index_at s i h (i : Int) rfl
  rw [ha] at hx
  have B1 := fun w => btw_any s (i + 1) 128 143 ((i : Int) + 1) (by omega) w (by omega) (by omega)
  rw [e1, t1] at B1
  have H1 := Lib.hid B1; clear B1 t1
  clear ha e1 e2 e3
  have n224 : ((a : Int) == 224) = false := beq_eq_false_iff_ne.2 (by omega)
  have n237 : ((a : Int) == 237) = false := beq_eq_false_iff_ne.2 (by omega)
  have n240 : ((a : Int) == 240) = false := beq_eq_false_iff_ne.2 (by omega)
  have n244 : ((a : Int) == 244) = true := beq_iff_eq.2 (by omega)
  first | (have g223 : decide ((a : Int) ≤ 223) = false := decide_eq_false (by omega)) | skip
  first | (have g239 : decide ((a : Int) ≤ 239) = false := decide_eq_false (by omega)) | skip
  first | (have g244 : decide ((a : Int) ≤ 244) = false := decide_eq_false (by omega)) | skip
  first | (have f194 : decide ((194 : Int) ≤ (a : Int)) = false := decide_eq_false (by omega)) | skip
  first | (have f224 : decide ((224 : Int) ≤ (a : Int)) = false := decide_eq_false (by omega)) | skip
  first | (have f240 : decide ((240 : Int) ≤ (a : Int)) = false := decide_eq_false (by omega)) | skip
  have k1 : (244 : Int) ≤ (a : Int) := by omega
  have k2 : (a : Int) ≤ 244 := by omega
  clear k0
  go_enter Tryd.func40, Tryd.ntmps40
  go_wp2_with fail
  refine (H1.out _).mono ?_; rintro e w1 ⟨rfl, rfl⟩
  go_wp2_with fail
  go_ret2
  exact ⟨rfl, Below.refl _ _⟩

set_option maxHeartbeats 1000000 in
theorem rune_er111 (h : i < s.size) (hs : s.size ≤ 1000000) (a b1 b2 b3 : Nat) (ha : atL (bl s) i = a) (e1 : atL (bl s) (i + 1) = b1) (e2 : atL (bl s) (i + 2) = b2) (e3 : atL (bl s) (i + 3) = b3) (la : a < 256) (l1 : b1 < 256) (l2 : b2 < 256) (l3 : b3 < 256) (k0 : 240 ≤ a) (k1 : a ≤ 244) (k2 : a ≠ 240) (k3 : a ≠ 244) (t1 : btw (decide (i + 1 < s.size)) b1 128 191 = true) (t2 : btw (decide (i + 2 < s.size)) b2 128 191 = true) (t3 : btw (decide (i + 3 < s.size)) b3 128 191 = true) :
    Calls Tryd.prog 40 #[.string s, .int .i64 (i : Int)] w fun e w' => e = .returned (.tuple #[.int .i64 (((((a : Int) - 240) * 64 + ((b1 : Int) - 128)) * 64 + ((b2 : Int) - 128)) * 64 + ((b3 : Int) - 128)), .int .i64 4]) ∧ Below w.heap.size w w' := by
  have hx := index_at s i h (i : Int) rfl
  rw [ha] at hx
  have B1 := fun w => btw_any s (i + 1) 128 191 ((i : Int) + 1) (by omega) w (by omega) (by omega)
  rw [e1, t1] at B1
  have B2 := fun w => btw_any s (i + 2) 128 191 ((i : Int) + 2) (by omega) w (by omega) (by omega)
  rw [e2, t2] at B2
  have B3 := fun w => btw_any s (i + 3) 128 191 ((i : Int) + 3) (by omega) w (by omega) (by omega)
  rw [e3, t3] at B3
  have r1 := t1
  simp [btw] at r1
  have x1 := index_at s (i + 1) (by omega) ((i : Int) + 1) (by omega)
  rw [e1] at x1
  have u1 : IntKind.u8.wrap ((b1 : Int) - 128) = (b1 : Int) - 128 := by rw [IntKind.wrap_u8]; omega
  have r2 := t2
  simp [btw] at r2
  have x2 := index_at s (i + 2) (by omega) ((i : Int) + 2) (by omega)
  rw [e2] at x2
  have u2 : IntKind.u8.wrap ((b2 : Int) - 128) = (b2 : Int) - 128 := by rw [IntKind.wrap_u8]; omega
  have r3 := t3
  simp [btw] at r3
  have x3 := index_at s (i + 3) (by omega) ((i : Int) + 3) (by omega)
  rw [e3] at x3
  have u3 : IntKind.u8.wrap ((b3 : Int) - 128) = (b3 : Int) - 128 := by rw [IntKind.wrap_u8]; omega
  have u0 : IntKind.u8.wrap ((a : Int) - 240) = (a : Int) - 240 := by rw [IntKind.wrap_u8]; omega
  have H1 := Lib.hid B1; clear B1 t1
  have H2 := Lib.hid B2; clear B2 t2
  have H3 := Lib.hid B3; clear B3 t3
  clear ha e1 e2 e3
  have n224 : ((a : Int) == 224) = false := beq_eq_false_iff_ne.2 (by omega)
  have n237 : ((a : Int) == 237) = false := beq_eq_false_iff_ne.2 (by omega)
  have n240 : ((a : Int) == 240) = false := beq_eq_false_iff_ne.2 (by omega)
  have n244 : ((a : Int) == 244) = false := beq_eq_false_iff_ne.2 (by omega)
  first | (have g223 : decide ((a : Int) ≤ 223) = false := decide_eq_false (by omega)) | skip
  first | (have g239 : decide ((a : Int) ≤ 239) = false := decide_eq_false (by omega)) | skip
  first | (have g244 : decide ((a : Int) ≤ 244) = false := decide_eq_false (by omega)) | skip
  first | (have f194 : decide ((194 : Int) ≤ (a : Int)) = false := decide_eq_false (by omega)) | skip
  first | (have f224 : decide ((224 : Int) ≤ (a : Int)) = false := decide_eq_false (by omega)) | skip
  first | (have f240 : decide ((240 : Int) ≤ (a : Int)) = false := decide_eq_false (by omega)) | skip
  go_enter Tryd.func40, Tryd.ntmps40
  go_wp2_with fail
  refine (H1.out _).mono ?_; rintro e w1 ⟨rfl, rfl⟩
  go_wp2_with fail
  refine (H2.out _).mono ?_; rintro e w1 ⟨rfl, rfl⟩
  go_wp2_with fail
  refine (H3.out _).mono ?_; rintro e w1 ⟨rfl, rfl⟩
  go_wp2_with fail
  go_quiet (fail)
  go_wp2_with fail
  go_ret2
  exact ⟨rfl, below_drewN _ _⟩

set_option maxHeartbeats 1000000 in
theorem rune_er110 (h : i < s.size) (hs : s.size ≤ 1000000) (a b1 b2 b3 : Nat) (ha : atL (bl s) i = a) (e1 : atL (bl s) (i + 1) = b1) (e2 : atL (bl s) (i + 2) = b2) (e3 : atL (bl s) (i + 3) = b3) (la : a < 256) (l1 : b1 < 256) (l2 : b2 < 256) (l3 : b3 < 256) (k0 : 240 ≤ a) (k1 : a ≤ 244) (k2 : a ≠ 240) (k3 : a ≠ 244) (t1 : btw (decide (i + 1 < s.size)) b1 128 191 = true) (t2 : btw (decide (i + 2 < s.size)) b2 128 191 = true) (t3 : btw (decide (i + 3 < s.size)) b3 128 191 = false) :
    Calls Tryd.prog 40 #[.string s, .int .i64 (i : Int)] w fun e w' => e = .returned (.tuple #[.int .i64 (65533), .int .i64 1]) ∧ Below w.heap.size w w' := by
  have hx := index_at s i h (i : Int) rfl
  rw [ha] at hx
  have B1 := fun w => btw_any s (i + 1) 128 191 ((i : Int) + 1) (by omega) w (by omega) (by omega)
  rw [e1, t1] at B1
  have B2 := fun w => btw_any s (i + 2) 128 191 ((i : Int) + 2) (by omega) w (by omega) (by omega)
  rw [e2, t2] at B2
  have B3 := fun w => btw_any s (i + 3) 128 191 ((i : Int) + 3) (by omega) w (by omega) (by omega)
  rw [e3, t3] at B3
  have H1 := Lib.hid B1; clear B1 t1
  have H2 := Lib.hid B2; clear B2 t2
  have H3 := Lib.hid B3; clear B3 t3
  clear ha e1 e2 e3
  have n224 : ((a : Int) == 224) = false := beq_eq_false_iff_ne.2 (by omega)
  have n237 : ((a : Int) == 237) = false := beq_eq_false_iff_ne.2 (by omega)
  have n240 : ((a : Int) == 240) = false := beq_eq_false_iff_ne.2 (by omega)
  have n244 : ((a : Int) == 244) = false := beq_eq_false_iff_ne.2 (by omega)
  first | (have g223 : decide ((a : Int) ≤ 223) = false := decide_eq_false (by omega)) | skip
  first | (have g239 : decide ((a : Int) ≤ 239) = false := decide_eq_false (by omega)) | skip
  first | (have g244 : decide ((a : Int) ≤ 244) = false := decide_eq_false (by omega)) | skip
  first | (have f194 : decide ((194 : Int) ≤ (a : Int)) = false := decide_eq_false (by omega)) | skip
  first | (have f224 : decide ((224 : Int) ≤ (a : Int)) = false := decide_eq_false (by omega)) | skip
  first | (have f240 : decide ((240 : Int) ≤ (a : Int)) = false := decide_eq_false (by omega)) | skip
  go_enter Tryd.func40, Tryd.ntmps40
  go_wp2_with fail
  refine (H1.out _).mono ?_; rintro e w1 ⟨rfl, rfl⟩
  go_wp2_with fail
  refine (H2.out _).mono ?_; rintro e w1 ⟨rfl, rfl⟩
  go_wp2_with fail
  refine (H3.out _).mono ?_; rintro e w1 ⟨rfl, rfl⟩
  go_wp2_with fail
  go_ret2
  exact ⟨rfl, Below.refl _ _⟩

set_option maxHeartbeats 1000000 in
theorem rune_er10 (h : i < s.size) (hs : s.size ≤ 1000000) (a b1 b2 b3 : Nat) (ha : atL (bl s) i = a) (e1 : atL (bl s) (i + 1) = b1) (e2 : atL (bl s) (i + 2) = b2) (e3 : atL (bl s) (i + 3) = b3) (la : a < 256) (l1 : b1 < 256) (l2 : b2 < 256) (l3 : b3 < 256) (k0 : 240 ≤ a) (k1 : a ≤ 244) (k2 : a ≠ 240) (k3 : a ≠ 244) (t1 : btw (decide (i + 1 < s.size)) b1 128 191 = true) (t2 : btw (decide (i + 2 < s.size)) b2 128 191 = false) :
    Calls Tryd.prog 40 #[.string s, .int .i64 (i : Int)] w fun e w' => e = .returned (.tuple #[.int .i64 (65533), .int .i64 1]) ∧ Below w.heap.size w w' := by
  have hx := index_at s i h (i : Int) rfl
  rw [ha] at hx
  have B1 := fun w => btw_any s (i + 1) 128 191 ((i : Int) + 1) (by omega) w (by omega) (by omega)
  rw [e1, t1] at B1
  have B2 := fun w => btw_any s (i + 2) 128 191 ((i : Int) + 2) (by omega) w (by omega) (by omega)
  rw [e2, t2] at B2
  have H1 := Lib.hid B1; clear B1 t1
  have H2 := Lib.hid B2; clear B2 t2
  clear ha e1 e2 e3
  have n224 : ((a : Int) == 224) = false := beq_eq_false_iff_ne.2 (by omega)
  have n237 : ((a : Int) == 237) = false := beq_eq_false_iff_ne.2 (by omega)
  have n240 : ((a : Int) == 240) = false := beq_eq_false_iff_ne.2 (by omega)
  have n244 : ((a : Int) == 244) = false := beq_eq_false_iff_ne.2 (by omega)
  first | (have g223 : decide ((a : Int) ≤ 223) = false := decide_eq_false (by omega)) | skip
  first | (have g239 : decide ((a : Int) ≤ 239) = false := decide_eq_false (by omega)) | skip
  first | (have g244 : decide ((a : Int) ≤ 244) = false := decide_eq_false (by omega)) | skip
  first | (have f194 : decide ((194 : Int) ≤ (a : Int)) = false := decide_eq_false (by omega)) | skip
  first | (have f224 : decide ((224 : Int) ≤ (a : Int)) = false := decide_eq_false (by omega)) | skip
  first | (have f240 : decide ((240 : Int) ≤ (a : Int)) = false := decide_eq_false (by omega)) | skip
  go_enter Tryd.func40, Tryd.ntmps40
  go_wp2_with fail
  refine (H1.out _).mono ?_; rintro e w1 ⟨rfl, rfl⟩
  go_wp2_with fail
  refine (H2.out _).mono ?_; rintro e w1 ⟨rfl, rfl⟩
  go_wp2_with fail
  go_ret2
  exact ⟨rfl, Below.refl _ _⟩

set_option maxHeartbeats 1000000 in
theorem rune_er0 (h : i < s.size) (hs : s.size ≤ 1000000) (a b1 b2 b3 : Nat) (ha : atL (bl s) i = a) (e1 : atL (bl s) (i + 1) = b1) (e2 : atL (bl s) (i + 2) = b2) (e3 : atL (bl s) (i + 3) = b3) (la : a < 256) (l1 : b1 < 256) (l2 : b2 < 256) (l3 : b3 < 256) (k0 : 240 ≤ a) (k1 : a ≤ 244) (k2 : a ≠ 240) (k3 : a ≠ 244) (t1 : btw (decide (i + 1 < s.size)) b1 128 191 = false) :
    Calls Tryd.prog 40 #[.string s, .int .i64 (i : Int)] w fun e w' => e = .returned (.tuple #[.int .i64 (65533), .int .i64 1]) ∧ Below w.heap.size w w' := by
  have hx := index_at s i h (i : Int) rfl
  rw [ha] at hx
  have B1 := fun w => btw_any s (i + 1) 128 191 ((i : Int) + 1) (by omega) w (by omega) (by omega)
  rw [e1, t1] at B1
  have H1 := Lib.hid B1; clear B1 t1
  clear ha e1 e2 e3
  have n224 : ((a : Int) == 224) = false := beq_eq_false_iff_ne.2 (by omega)
  have n237 : ((a : Int) == 237) = false := beq_eq_false_iff_ne.2 (by omega)
  have n240 : ((a : Int) == 240) = false := beq_eq_false_iff_ne.2 (by omega)
  have n244 : ((a : Int) == 244) = false := beq_eq_false_iff_ne.2 (by omega)
  first | (have g223 : decide ((a : Int) ≤ 223) = false := decide_eq_false (by omega)) | skip
  first | (have g239 : decide ((a : Int) ≤ 239) = false := decide_eq_false (by omega)) | skip
  first | (have g244 : decide ((a : Int) ≤ 244) = false := decide_eq_false (by omega)) | skip
  first | (have f194 : decide ((194 : Int) ≤ (a : Int)) = false := decide_eq_false (by omega)) | skip
  first | (have f224 : decide ((224 : Int) ≤ (a : Int)) = false := decide_eq_false (by omega)) | skip
  first | (have f240 : decide ((240 : Int) ≤ (a : Int)) = false := decide_eq_false (by omega)) | skip
  go_enter Tryd.func40, Tryd.ntmps40
  go_wp2_with fail
  refine (H1.out _).mono ?_; rintro e w1 ⟨rfl, rfl⟩
  go_wp2_with fail
  go_ret2
  exact ⟨rfl, Below.refl _ _⟩

set_option maxHeartbeats 1000000 in
theorem rune_f (h : i < s.size) (hs : s.size ≤ 1000000) (a b1 b2 b3 : Nat) (ha : atL (bl s) i = a) (e1 : atL (bl s) (i + 1) = b1) (e2 : atL (bl s) (i + 2) = b2) (e3 : atL (bl s) (i + 3) = b3) (la : a < 256) (l1 : b1 < 256) (l2 : b2 < 256) (l3 : b3 < 256) (k0 : 245 ≤ a)  :
    Calls Tryd.prog 40 #[.string s, .int .i64 (i : Int)] w fun e w' => e = .returned (.tuple #[.int .i64 (65533), .int .i64 1]) ∧ Below w.heap.size w w' := by
  have hx := index_at s i h (i : Int) rfl
  rw [ha] at hx
  clear ha e1 e2 e3
  have n224 : ((a : Int) == 224) = false := beq_eq_false_iff_ne.2 (by omega)
  have n237 : ((a : Int) == 237) = false := beq_eq_false_iff_ne.2 (by omega)
  have n240 : ((a : Int) == 240) = false := beq_eq_false_iff_ne.2 (by omega)
  have n244 : ((a : Int) == 244) = false := beq_eq_false_iff_ne.2 (by omega)
  first | (have g223 : decide ((a : Int) ≤ 223) = false := decide_eq_false (by omega)) | skip
  first | (have g239 : decide ((a : Int) ≤ 239) = false := decide_eq_false (by omega)) | skip
  first | (have g244 : decide ((a : Int) ≤ 244) = false := decide_eq_false (by omega)) | skip
  first | (have f194 : decide ((194 : Int) ≤ (a : Int)) = false := decide_eq_false (by omega)) | skip
  first | (have f224 : decide ((224 : Int) ≤ (a : Int)) = false := decide_eq_false (by omega)) | skip
  first | (have f240 : decide ((240 : Int) ≤ (a : Int)) = false := decide_eq_false (by omega)) | skip
  go_enter Tryd.func40, Tryd.ntmps40
  go_wp2
  go_ret2
  exact ⟨rfl, Below.refl _ _⟩

end
theorem ref_a (a b1 b2 b3 : Nat) (h1 h2 h3 : Bool) (k0 : a < 128)  : refB a b1 b2 b3 h1 h2 h3 = (a, 1) := by
  have q0 : (a < 128) = True := eq_true (by omega)
  have q2 : (194 ≤ a ∧ a ≤ 223) = False := eq_false (by omega)
  have q3 : (224 ≤ a ∧ a ≤ 239) = False := eq_false (by omega)
  have q4 : (240 ≤ a ∧ a ≤ 244) = False := eq_false (by omega)
  have z224 : (a = 224) = False := eq_false (by omega)
  have z237 : (a = 237) = False := eq_false (by omega)
  have z240 : (a = 240) = False := eq_false (by omega)
  have z244 : (a = 244) = False := eq_false (by omega)
  unfold refB
  simp [*]
theorem ref_b (a b1 b2 b3 : Nat) (h1 h2 h3 : Bool) (k0 : 128 ≤ a) (k1 : a ≤ 193)  : refB a b1 b2 b3 h1 h2 h3 = (65533, 1) := by
  have q0 : (a < 128) = False := eq_false (by omega)
  have q2 : (194 ≤ a ∧ a ≤ 223) = False := eq_false (by omega)
  have q3 : (224 ≤ a ∧ a ≤ 239) = False := eq_false (by omega)
  have q4 : (240 ≤ a ∧ a ≤ 244) = False := eq_false (by omega)
  have z224 : (a = 224) = False := eq_false (by omega)
  have z237 : (a = 237) = False := eq_false (by omega)
  have z240 : (a = 240) = False := eq_false (by omega)
  have z244 : (a = 244) = False := eq_false (by omega)
  unfold refB
  simp [*]
theorem ref_c1 (a b1 b2 b3 : Nat) (h1 h2 h3 : Bool) (k0 : 194 ≤ a) (k1 : a ≤ 223) (t1 : btw h1 b1 128 191 = true) : refB a b1 b2 b3 h1 h2 h3 = ((a - 192) * 64 + (b1 - 128), 2) := by
  have q0 : (a < 128) = False := eq_false (by omega)
  have q2 : (194 ≤ a ∧ a ≤ 223) = True := eq_true (by omega)
  have q3 : (224 ≤ a ∧ a ≤ 239) = False := eq_false (by omega)
  have q4 : (240 ≤ a ∧ a ≤ 244) = False := eq_false (by omega)
  have z224 : (a = 224) = False := eq_false (by omega)
  have z237 : (a = 237) = False := eq_false (by omega)
  have z240 : (a = 240) = False := eq_false (by omega)
  have z244 : (a = 244) = False := eq_false (by omega)
  unfold refB
  simp [*]
theorem ref_c0 (a b1 b2 b3 : Nat) (h1 h2 h3 : Bool) (k0 : 194 ≤ a) (k1 : a ≤ 223) (t1 : btw h1 b1 128 191 = false) : refB a b1 b2 b3 h1 h2 h3 = (65533, 1) := by
  have q0 : (a < 128) = False := eq_false (by omega)
  have q2 : (194 ≤ a ∧ a ≤ 223) = True := eq_true (by omega)
  have q3 : (224 ≤ a ∧ a ≤ 239) = False := eq_false (by omega)
  have q4 : (240 ≤ a ∧ a ≤ 244) = False := eq_false (by omega)
  have z224 : (a = 224) = False := eq_false (by omega)
  have z237 : (a = 237) = False := eq_false (by omega)
  have z240 : (a = 240) = False := eq_false (by omega)
  have z244 : (a = 244) = False := eq_false (by omega)
  unfold refB
  simp [*]
theorem ref_dp11 (a b1 b2 b3 : Nat) (h1 h2 h3 : Bool) (k0 : a = 224) (t1 : btw h1 b1 160 191 = true) (t2 : btw h2 b2 128 191 = true) : refB a b1 b2 b3 h1 h2 h3 = (((a - 224) * 64 + (b1 - 128)) * 64 + (b2 - 128), 3) := by
  have q0 : (a < 128) = False := eq_false (by omega)
  have q2 : (194 ≤ a ∧ a ≤ 223) = False := eq_false (by omega)
  have q3 : (224 ≤ a ∧ a ≤ 239) = True := eq_true (by omega)
  have q4 : (240 ≤ a ∧ a ≤ 244) = False := eq_false (by omega)
  have z224 : (a = 224) = True := eq_true (by omega)
  have z237 : (a = 237) = False := eq_false (by omega)
  have z240 : (a = 240) = False := eq_false (by omega)
  have z244 : (a = 244) = False := eq_false (by omega)
  unfold refB
  simp [*]
theorem ref_dp10 (a b1 b2 b3 : Nat) (h1 h2 h3 : Bool) (k0 : a = 224) (t1 : btw h1 b1 160 191 = true) (t2 : btw h2 b2 128 191 = false) : refB a b1 b2 b3 h1 h2 h3 = (65533, 1) := by
  have q0 : (a < 128) = False := eq_false (by omega)
  have q2 : (194 ≤ a ∧ a ≤ 223) = False := eq_false (by omega)
  have q3 : (224 ≤ a ∧ a ≤ 239) = True := eq_true (by omega)
  have q4 : (240 ≤ a ∧ a ≤ 244) = False := eq_false (by omega)
  have z224 : (a = 224) = True := eq_true (by omega)
  have z237 : (a = 237) = False := eq_false (by omega)
  have z240 : (a = 240) = False := eq_false (by omega)
  have z244 : (a = 244) = False := eq_false (by omega)
  unfold refB
  simp [*]
theorem ref_dp0 (a b1 b2 b3 : Nat) (h1 h2 h3 : Bool) (k0 : a = 224) (t1 : btw h1 b1 160 191 = false) : refB a b1 b2 b3 h1 h2 h3 = (65533, 1) := by
  have q0 : (a < 128) = False := eq_false (by omega)
  have q2 : (194 ≤ a ∧ a ≤ 223) = False := eq_false (by omega)
  have q3 : (224 ≤ a ∧ a ≤ 239) = True := eq_true (by omega)
  have q4 : (240 ≤ a ∧ a ≤ 244) = False := eq_false (by omega)
  have z224 : (a = 224) = True := eq_true (by omega)
  have z237 : (a = 237) = False := eq_false (by omega)
  have z240 : (a = 240) = False := eq_false (by omega)
  have z244 : (a = 244) = False := eq_false (by omega)
  unfold refB
  simp [*]
theorem ref_dq11 (a b1 b2 b3 : Nat) (h1 h2 h3 : Bool) (k0 : a = 237) (t1 : btw h1 b1 128 159 = true) (t2 : btw h2 b2 128 191 = true) : refB a b1 b2 b3 h1 h2 h3 = (((a - 224) * 64 + (b1 - 128)) * 64 + (b2 - 128), 3) := by
  have q0 : (a < 128) = False := eq_false (by omega)
  have q2 : (194 ≤ a ∧ a ≤ 223) = False := eq_false (by omega)
  have q3 : (224 ≤ a ∧ a ≤ 239) = True := eq_true (by omega)
  have q4 : (240 ≤ a ∧ a ≤ 244) = False := eq_false (by omega)
  have z224 : (a = 224) = False := eq_false (by omega)
  have z237 : (a = 237) = True := eq_true (by omega)
  have z240 : (a = 240) = False := eq_false (by omega)
  have z244 : (a = 244) = False := eq_false (by omega)
  unfold refB
  simp [*]
theorem ref_dq10 (a b1 b2 b3 : Nat) (h1 h2 h3 : Bool) (k0 : a = 237) (t1 : btw h1 b1 128 159 = true) (t2 : btw h2 b2 128 191 = false) : refB a b1 b2 b3 h1 h2 h3 = (65533, 1) := by
  have q0 : (a < 128) = False := eq_false (by omega)
  have q2 : (194 ≤ a ∧ a ≤ 223) = False := eq_false (by omega)
  have q3 : (224 ≤ a ∧ a ≤ 239) = True := eq_true (by omega)
  have q4 : (240 ≤ a ∧ a ≤ 244) = False := eq_false (by omega)
  have z224 : (a = 224) = False := eq_false (by omega)
  have z237 : (a = 237) = True := eq_true (by omega)
  have z240 : (a = 240) = False := eq_false (by omega)
  have z244 : (a = 244) = False := eq_false (by omega)
  unfold refB
  simp [*]
theorem ref_dq0 (a b1 b2 b3 : Nat) (h1 h2 h3 : Bool) (k0 : a = 237) (t1 : btw h1 b1 128 159 = false) : refB a b1 b2 b3 h1 h2 h3 = (65533, 1) := by
  have q0 : (a < 128) = False := eq_false (by omega)
  have q2 : (194 ≤ a ∧ a ≤ 223) = False := eq_false (by omega)
  have q3 : (224 ≤ a ∧ a ≤ 239) = True := eq_true (by omega)
  have q4 : (240 ≤ a ∧ a ≤ 244) = False := eq_false (by omega)
  have z224 : (a = 224) = False := eq_false (by omega)
  have z237 : (a = 237) = True := eq_true (by omega)
  have z240 : (a = 240) = False := eq_false (by omega)
  have z244 : (a = 244) = False := eq_false (by omega)
  unfold refB
  simp [*]
theorem ref_dr11 (a b1 b2 b3 : Nat) (h1 h2 h3 : Bool) (k0 : 224 ≤ a) (k1 : a ≤ 239) (k2 : a ≠ 224) (k3 : a ≠ 237) (t1 : btw h1 b1 128 191 = true) (t2 : btw h2 b2 128 191 = true) : refB a b1 b2 b3 h1 h2 h3 = (((a - 224) * 64 + (b1 - 128)) * 64 + (b2 - 128), 3) := by
  have q0 : (a < 128) = False := eq_false (by omega)
  have q2 : (194 ≤ a ∧ a ≤ 223) = False := eq_false (by omega)
  have q3 : (224 ≤ a ∧ a ≤ 239) = True := eq_true (by omega)
  have q4 : (240 ≤ a ∧ a ≤ 244) = False := eq_false (by omega)
  have z224 : (a = 224) = False := eq_false (by omega)
  have z237 : (a = 237) = False := eq_false (by omega)
  have z240 : (a = 240) = False := eq_false (by omega)
  have z244 : (a = 244) = False := eq_false (by omega)
  unfold refB
  simp [*]
theorem ref_dr10 (a b1 b2 b3 : Nat) (h1 h2 h3 : Bool) (k0 : 224 ≤ a) (k1 : a ≤ 239) (k2 : a ≠ 224) (k3 : a ≠ 237) (t1 : btw h1 b1 128 191 = true) (t2 : btw h2 b2 128 191 = false) : refB a b1 b2 b3 h1 h2 h3 = (65533, 1) := by
  have q0 : (a < 128) = False := eq_false (by omega)
  have q2 : (194 ≤ a ∧ a ≤ 223) = False := eq_false (by omega)
  have q3 : (224 ≤ a ∧ a ≤ 239) = True := eq_true (by omega)
  have q4 : (240 ≤ a ∧ a ≤ 244) = False := eq_false (by omega)
  have z224 : (a = 224) = False := eq_false (by omega)
  have z237 : (a = 237) = False := eq_false (by omega)
  have z240 : (a = 240) = False := eq_false (by omega)
  have z244 : (a = 244) = False := eq_false (by omega)
  unfold refB
  simp [*]
theorem ref_dr0 (a b1 b2 b3 : Nat) (h1 h2 h3 : Bool) (k0 : 224 ≤ a) (k1 : a ≤ 239) (k2 : a ≠ 224) (k3 : a ≠ 237) (t1 : btw h1 b1 128 191 = false) : refB a b1 b2 b3 h1 h2 h3 = (65533, 1) := by
  have q0 : (a < 128) = False := eq_false (by omega)
  have q2 : (194 ≤ a ∧ a ≤ 223) = False := eq_false (by omega)
  have q3 : (224 ≤ a ∧ a ≤ 239) = True := eq_true (by omega)
  have q4 : (240 ≤ a ∧ a ≤ 244) = False := eq_false (by omega)
  have z224 : (a = 224) = False := eq_false (by omega)
  have z237 : (a = 237) = False := eq_false (by omega)
  have z240 : (a = 240) = False := eq_false (by omega)
  have z244 : (a = 244) = False := eq_false (by omega)
  unfold refB
  simp [*]
theorem ref_ep111 (a b1 b2 b3 : Nat) (h1 h2 h3 : Bool) (k0 : a = 240) (t1 : btw h1 b1 144 191 = true) (t2 : btw h2 b2 128 191 = true) (t3 : btw h3 b3 128 191 = true) : refB a b1 b2 b3 h1 h2 h3 = ((((a - 240) * 64 + (b1 - 128)) * 64 + (b2 - 128)) * 64 + (b3 - 128), 4) := by
  have q0 : (a < 128) = False := eq_false (by omega)
  have q2 : (194 ≤ a ∧ a ≤ 223) = False := eq_false (by omega)
  have q3 : (224 ≤ a ∧ a ≤ 239) = False := eq_false (by omega)
  have q4 : (240 ≤ a ∧ a ≤ 244) = True := eq_true (by omega)
  have z224 : (a = 224) = False := eq_false (by omega)
  have z237 : (a = 237) = False := eq_false (by omega)
  have z240 : (a = 240) = True := eq_true (by omega)
  have z244 : (a = 244) = False := eq_false (by omega)
  unfold refB
  simp [*]
theorem ref_ep110 (a b1 b2 b3 : Nat) (h1 h2 h3 : Bool) (k0 : a = 240) (t1 : btw h1 b1 144 191 = true) (t2 : btw h2 b2 128 191 = true) (t3 : btw h3 b3 128 191 = false) : refB a b1 b2 b3 h1 h2 h3 = (65533, 1) := by
  have q0 : (a < 128) = False := eq_false (by omega)
  have q2 : (194 ≤ a ∧ a ≤ 223) = False := eq_false (by omega)
  have q3 : (224 ≤ a ∧ a ≤ 239) = False := eq_false (by omega)
  have q4 : (240 ≤ a ∧ a ≤ 244) = True := eq_true (by omega)
  have z224 : (a = 224) = False := eq_false (by omega)
  have z237 : (a = 237) = False := eq_false (by omega)
  have z240 : (a = 240) = True := eq_true (by omega)
  have z244 : (a = 244) = False := eq_false (by omega)
  unfold refB
  simp [*]
theorem ref_ep10 (a b1 b2 b3 : Nat) (h1 h2 h3 : Bool) (k0 : a = 240) (t1 : btw h1 b1 144 191 = true) (t2 : btw h2 b2 128 191 = false) : refB a b1 b2 b3 h1 h2 h3 = (65533, 1) := by
  have q0 : (a < 128) = False := eq_false (by omega)
  have q2 : (194 ≤ a ∧ a ≤ 223) = False := eq_false (by omega)
  have q3 : (224 ≤ a ∧ a ≤ 239) = False := eq_false (by omega)
  have q4 : (240 ≤ a ∧ a ≤ 244) = True := eq_true (by omega)
  have z224 : (a = 224) = False := eq_false (by omega)
  have z237 : (a = 237) = False := eq_false (by omega)
  have z240 : (a = 240) = True := eq_true (by omega)
  have z244 : (a = 244) = False := eq_false (by omega)
  unfold refB
  simp [*]
theorem ref_ep0 (a b1 b2 b3 : Nat) (h1 h2 h3 : Bool) (k0 : a = 240) (t1 : btw h1 b1 144 191 = false) : refB a b1 b2 b3 h1 h2 h3 = (65533, 1) := by
  have q0 : (a < 128) = False := eq_false (by omega)
  have q2 : (194 ≤ a ∧ a ≤ 223) = False := eq_false (by omega)
  have q3 : (224 ≤ a ∧ a ≤ 239) = False := eq_false (by omega)
  have q4 : (240 ≤ a ∧ a ≤ 244) = True := eq_true (by omega)
  have z224 : (a = 224) = False := eq_false (by omega)
  have z237 : (a = 237) = False := eq_false (by omega)
  have z240 : (a = 240) = True := eq_true (by omega)
  have z244 : (a = 244) = False := eq_false (by omega)
  unfold refB
  simp [*]
theorem ref_eq111 (a b1 b2 b3 : Nat) (h1 h2 h3 : Bool) (k0 : a = 244) (t1 : btw h1 b1 128 143 = true) (t2 : btw h2 b2 128 191 = true) (t3 : btw h3 b3 128 191 = true) : refB a b1 b2 b3 h1 h2 h3 = ((((a - 240) * 64 + (b1 - 128)) * 64 + (b2 - 128)) * 64 + (b3 - 128), 4) := by
  have q0 : (a < 128) = False := eq_false (by omega)
  have q2 : (194 ≤ a ∧ a ≤ 223) = False := eq_false (by omega)
  have q3 : (224 ≤ a ∧ a ≤ 239) = False := eq_false (by omega)
  have q4 : (240 ≤ a ∧ a ≤ 244) = True := eq_true (by omega)
  have z224 : (a = 224) = False := eq_false (by omega)
  have z237 : (a = 237) = False := eq_false (by omega)
  have z240 : (a = 240) = False := eq_false (by omega)
  have z244 : (a = 244) = True := eq_true (by omega)
  unfold refB
  simp [*]
theorem ref_eq110 (a b1 b2 b3 : Nat) (h1 h2 h3 : Bool) (k0 : a = 244) (t1 : btw h1 b1 128 143 = true) (t2 : btw h2 b2 128 191 = true) (t3 : btw h3 b3 128 191 = false) : refB a b1 b2 b3 h1 h2 h3 = (65533, 1) := by
  have q0 : (a < 128) = False := eq_false (by omega)
  have q2 : (194 ≤ a ∧ a ≤ 223) = False := eq_false (by omega)
  have q3 : (224 ≤ a ∧ a ≤ 239) = False := eq_false (by omega)
  have q4 : (240 ≤ a ∧ a ≤ 244) = True := eq_true (by omega)
  have z224 : (a = 224) = False := eq_false (by omega)
  have z237 : (a = 237) = False := eq_false (by omega)
  have z240 : (a = 240) = False := eq_false (by omega)
  have z244 : (a = 244) = True := eq_true (by omega)
  unfold refB
  simp [*]
theorem ref_eq10 (a b1 b2 b3 : Nat) (h1 h2 h3 : Bool) (k0 : a = 244) (t1 : btw h1 b1 128 143 = true) (t2 : btw h2 b2 128 191 = false) : refB a b1 b2 b3 h1 h2 h3 = (65533, 1) := by
  have q0 : (a < 128) = False := eq_false (by omega)
  have q2 : (194 ≤ a ∧ a ≤ 223) = False := eq_false (by omega)
  have q3 : (224 ≤ a ∧ a ≤ 239) = False := eq_false (by omega)
  have q4 : (240 ≤ a ∧ a ≤ 244) = True := eq_true (by omega)
  have z224 : (a = 224) = False := eq_false (by omega)
  have z237 : (a = 237) = False := eq_false (by omega)
  have z240 : (a = 240) = False := eq_false (by omega)
  have z244 : (a = 244) = True := eq_true (by omega)
  unfold refB
  simp [*]
theorem ref_eq0 (a b1 b2 b3 : Nat) (h1 h2 h3 : Bool) (k0 : a = 244) (t1 : btw h1 b1 128 143 = false) : refB a b1 b2 b3 h1 h2 h3 = (65533, 1) := by
  have q0 : (a < 128) = False := eq_false (by omega)
  have q2 : (194 ≤ a ∧ a ≤ 223) = False := eq_false (by omega)
  have q3 : (224 ≤ a ∧ a ≤ 239) = False := eq_false (by omega)
  have q4 : (240 ≤ a ∧ a ≤ 244) = True := eq_true (by omega)
  have z224 : (a = 224) = False := eq_false (by omega)
  have z237 : (a = 237) = False := eq_false (by omega)
  have z240 : (a = 240) = False := eq_false (by omega)
  have z244 : (a = 244) = True := eq_true (by omega)
  unfold refB
  simp [*]
theorem ref_er111 (a b1 b2 b3 : Nat) (h1 h2 h3 : Bool) (k0 : 240 ≤ a) (k1 : a ≤ 244) (k2 : a ≠ 240) (k3 : a ≠ 244) (t1 : btw h1 b1 128 191 = true) (t2 : btw h2 b2 128 191 = true) (t3 : btw h3 b3 128 191 = true) : refB a b1 b2 b3 h1 h2 h3 = ((((a - 240) * 64 + (b1 - 128)) * 64 + (b2 - 128)) * 64 + (b3 - 128), 4) := by
  have q0 : (a < 128) = False := eq_false (by omega)
  have q2 : (194 ≤ a ∧ a ≤ 223) = False := eq_false (by omega)
  have q3 : (224 ≤ a ∧ a ≤ 239) = False := eq_false (by omega)
  have q4 : (240 ≤ a ∧ a ≤ 244) = True := eq_true (by omega)
  have z224 : (a = 224) = False := eq_false (by omega)
  have z237 : (a = 237) = False := eq_false (by omega)
  have z240 : (a = 240) = False := eq_false (by omega)
  have z244 : (a = 244) = False := eq_false (by omega)
  unfold refB
  simp [*]
theorem ref_er110 (a b1 b2 b3 : Nat) (h1 h2 h3 : Bool) (k0 : 240 ≤ a) (k1 : a ≤ 244) (k2 : a ≠ 240) (k3 : a ≠ 244) (t1 : btw h1 b1 128 191 = true) (t2 : btw h2 b2 128 191 = true) (t3 : btw h3 b3 128 191 = false) : refB a b1 b2 b3 h1 h2 h3 = (65533, 1) := by
  have q0 : (a < 128) = False := eq_false (by omega)
  have q2 : (194 ≤ a ∧ a ≤ 223) = False := eq_false (by omega)
  have q3 : (224 ≤ a ∧ a ≤ 239) = False := eq_false (by omega)
  have q4 : (240 ≤ a ∧ a ≤ 244) = True := eq_true (by omega)
  have z224 : (a = 224) = False := eq_false (by omega)
  have z237 : (a = 237) = False := eq_false (by omega)
  have z240 : (a = 240) = False := eq_false (by omega)
  have z244 : (a = 244) = False := eq_false (by omega)
  unfold refB
  simp [*]
theorem ref_er10 (a b1 b2 b3 : Nat) (h1 h2 h3 : Bool) (k0 : 240 ≤ a) (k1 : a ≤ 244) (k2 : a ≠ 240) (k3 : a ≠ 244) (t1 : btw h1 b1 128 191 = true) (t2 : btw h2 b2 128 191 = false) : refB a b1 b2 b3 h1 h2 h3 = (65533, 1) := by
  have q0 : (a < 128) = False := eq_false (by omega)
  have q2 : (194 ≤ a ∧ a ≤ 223) = False := eq_false (by omega)
  have q3 : (224 ≤ a ∧ a ≤ 239) = False := eq_false (by omega)
  have q4 : (240 ≤ a ∧ a ≤ 244) = True := eq_true (by omega)
  have z224 : (a = 224) = False := eq_false (by omega)
  have z237 : (a = 237) = False := eq_false (by omega)
  have z240 : (a = 240) = False := eq_false (by omega)
  have z244 : (a = 244) = False := eq_false (by omega)
  unfold refB
  simp [*]
theorem ref_er0 (a b1 b2 b3 : Nat) (h1 h2 h3 : Bool) (k0 : 240 ≤ a) (k1 : a ≤ 244) (k2 : a ≠ 240) (k3 : a ≠ 244) (t1 : btw h1 b1 128 191 = false) : refB a b1 b2 b3 h1 h2 h3 = (65533, 1) := by
  have q0 : (a < 128) = False := eq_false (by omega)
  have q2 : (194 ≤ a ∧ a ≤ 223) = False := eq_false (by omega)
  have q3 : (224 ≤ a ∧ a ≤ 239) = False := eq_false (by omega)
  have q4 : (240 ≤ a ∧ a ≤ 244) = True := eq_true (by omega)
  have z224 : (a = 224) = False := eq_false (by omega)
  have z237 : (a = 237) = False := eq_false (by omega)
  have z240 : (a = 240) = False := eq_false (by omega)
  have z244 : (a = 244) = False := eq_false (by omega)
  unfold refB
  simp [*]
theorem ref_f (a b1 b2 b3 : Nat) (h1 h2 h3 : Bool) (k0 : 245 ≤ a)  : refB a b1 b2 b3 h1 h2 h3 = (65533, 1) := by
  have q0 : (a < 128) = False := eq_false (by omega)
  have q2 : (194 ≤ a ∧ a ≤ 223) = False := eq_false (by omega)
  have q3 : (224 ≤ a ∧ a ≤ 239) = False := eq_false (by omega)
  have q4 : (240 ≤ a ∧ a ≤ 244) = False := eq_false (by omega)
  have z224 : (a = 224) = False := eq_false (by omega)
  have z237 : (a = 237) = False := eq_false (by omega)
  have z240 : (a = 240) = False := eq_false (by omega)
  have z244 : (a = 244) = False := eq_false (by omega)
  unfold refB
  simp [*]

set_option maxHeartbeats 1000000 in
theorem refrune_any (s : ByteArray) (i : Nat) (w : World) (h : i < s.size) (hs : s.size ≤ 1000000) :
    Calls Tryd.prog 40 #[.string s, .int .i64 (i : Int)] w fun e w' => e = .returned (.tuple #[.int .i64 ((decL ((bl s).drop i)).1 : Int), .int .i64 ((decL ((bl s).drop i)).2 : Int)]) ∧ Below w.heap.size w w' := by
  rw [refR_eq]
  obtain ⟨a, ha⟩ : ∃ a, atL (bl s) i = a := ⟨_, rfl⟩
  obtain ⟨b1, e1⟩ : ∃ b, atL (bl s) (i + 1) = b := ⟨_, rfl⟩
  obtain ⟨b2, e2⟩ : ∃ b, atL (bl s) (i + 2) = b := ⟨_, rfl⟩
  obtain ⟨b3, e3⟩ : ∃ b, atL (bl s) (i + 3) = b := ⟨_, rfl⟩
  have la : a < 256 := by rw [← ha]; exact atL_lt _ _
  have l1 : b1 < 256 := by rw [← e1]; exact atL_lt _ _
  have l2 : b2 < 256 := by rw [← e2]; exact atL_lt _ _
  have l3 : b3 < 256 := by rw [← e3]; exact atL_lt _ _
  rw [ha, e1, e2, e3]
  have big : ∀ {a b1 b2 b3 : Nat} {h1 h2 h3 : Bool} {r : Int} {n : Nat}, (((refB a b1 b2 b3 h1 h2 h3).1 : Int) = r ∧ (refB a b1 b2 b3 h1 h2 h3).2 = n) →
      (#[Value.int .i64 ((refB a b1 b2 b3 h1 h2 h3).1 : Int), .int .i64 ((refB a b1 b2 b3 h1 h2 h3).2 : Int)] : Array Value) = #[.int .i64 r, .int .i64 (n : Int)] := by
    rintro _ _ _ _ _ _ _ _ _ ⟨rfl, rfl⟩; rfl
  have hcase : a < 128 ∨ (128 ≤ a ∧ a ≤ 193) ∨ (194 ≤ a ∧ a ≤ 223) ∨ a = 224 ∨ a = 237 ∨ (224 ≤ a ∧ a ≤ 239 ∧ a ≠ 224 ∧ a ≠ 237) ∨ a = 240 ∨ a = 244 ∨ (240 ≤ a ∧ a ≤ 244 ∧ a ≠ 240 ∧ a ≠ 244) ∨ 245 ≤ a := by omega
  rcases hcase with k | k | k | k | k | k | k | k | k | k
  · rw [big (r := (a : Int)) (n := 1) ?_]
    · exact rune_a s i w h hs a b1 b2 b3 ha e1 e2 e3 la l1 l2 l3 (by omega) 
    · rw [ref_a a b1 b2 b3 _ _ _ (by omega) ]
      exact ⟨by rfl, rfl⟩
  · rw [big (r := 65533) (n := 1) ?_]
    · exact rune_b s i w h hs a b1 b2 b3 ha e1 e2 e3 la l1 l2 l3 (by omega) (by omega) 
    · rw [ref_b a b1 b2 b3 _ _ _ (by omega) (by omega) ]
      exact ⟨by rfl, rfl⟩
  · cases t1 : btw (decide (i + 1 < s.size)) b1 128 191
    · rw [big (r := 65533) (n := 1) ?_]
      · exact rune_c0 s i w h hs a b1 b2 b3 ha e1 e2 e3 la l1 l2 l3 (by omega) (by omega) t1
      · rw [ref_c0 a b1 b2 b3 _ _ _ (by omega) (by omega) t1]
        exact ⟨by rfl, rfl⟩
    · rw [big (r := ((a : Int) - 192) * 64 + ((b1 : Int) - 128)) (n := 2) ?_]
      · exact rune_c1 s i w h hs a b1 b2 b3 ha e1 e2 e3 la l1 l2 l3 (by omega) (by omega) t1
      · rw [ref_c1 a b1 b2 b3 _ _ _ (by omega) (by omega) t1]
        have r1 := t1; simp [btw] at r1
        exact ⟨by omega, rfl⟩
  · cases t1 : btw (decide (i + 1 < s.size)) b1 160 191
    · rw [big (r := 65533) (n := 1) ?_]
      · exact rune_dp0 s i w h hs a b1 b2 b3 ha e1 e2 e3 la l1 l2 l3 (by omega) t1
      · rw [ref_dp0 a b1 b2 b3 _ _ _ (by omega) t1]
        exact ⟨by rfl, rfl⟩
    · cases t2 : btw (decide (i + 2 < s.size)) b2 128 191
      · rw [big (r := 65533) (n := 1) ?_]
        · exact rune_dp10 s i w h hs a b1 b2 b3 ha e1 e2 e3 la l1 l2 l3 (by omega) t1 t2
        · rw [ref_dp10 a b1 b2 b3 _ _ _ (by omega) t1 t2]
          exact ⟨by rfl, rfl⟩
      · rw [big (r := (((a : Int) - 224) * 64 + ((b1 : Int) - 128)) * 64 + ((b2 : Int) - 128)) (n := 3) ?_]
        · exact rune_dp11 s i w h hs a b1 b2 b3 ha e1 e2 e3 la l1 l2 l3 (by omega) t1 t2
        · rw [ref_dp11 a b1 b2 b3 _ _ _ (by omega) t1 t2]
          have r1 := t1; simp [btw] at r1
          have r2 := t2; simp [btw] at r2
          exact ⟨by omega, rfl⟩
  · cases t1 : btw (decide (i + 1 < s.size)) b1 128 159
    · rw [big (r := 65533) (n := 1) ?_]
      · exact rune_dq0 s i w h hs a b1 b2 b3 ha e1 e2 e3 la l1 l2 l3 (by omega) t1
      · rw [ref_dq0 a b1 b2 b3 _ _ _ (by omega) t1]
        exact ⟨by rfl, rfl⟩
    · cases t2 : btw (decide (i + 2 < s.size)) b2 128 191
      · rw [big (r := 65533) (n := 1) ?_]
        · exact rune_dq10 s i w h hs a b1 b2 b3 ha e1 e2 e3 la l1 l2 l3 (by omega) t1 t2
        · rw [ref_dq10 a b1 b2 b3 _ _ _ (by omega) t1 t2]
          exact ⟨by rfl, rfl⟩
      · rw [big (r := (((a : Int) - 224) * 64 + ((b1 : Int) - 128)) * 64 + ((b2 : Int) - 128)) (n := 3) ?_]
        · exact rune_dq11 s i w h hs a b1 b2 b3 ha e1 e2 e3 la l1 l2 l3 (by omega) t1 t2
        · rw [ref_dq11 a b1 b2 b3 _ _ _ (by omega) t1 t2]
          have r1 := t1; simp [btw] at r1
          have r2 := t2; simp [btw] at r2
          exact ⟨by omega, rfl⟩
  · cases t1 : btw (decide (i + 1 < s.size)) b1 128 191
    · rw [big (r := 65533) (n := 1) ?_]
      · exact rune_dr0 s i w h hs a b1 b2 b3 ha e1 e2 e3 la l1 l2 l3 (by omega) (by omega) (by omega) (by omega) t1
      · rw [ref_dr0 a b1 b2 b3 _ _ _ (by omega) (by omega) (by omega) (by omega) t1]
        exact ⟨by rfl, rfl⟩
    · cases t2 : btw (decide (i + 2 < s.size)) b2 128 191
      · rw [big (r := 65533) (n := 1) ?_]
        · exact rune_dr10 s i w h hs a b1 b2 b3 ha e1 e2 e3 la l1 l2 l3 (by omega) (by omega) (by omega) (by omega) t1 t2
        · rw [ref_dr10 a b1 b2 b3 _ _ _ (by omega) (by omega) (by omega) (by omega) t1 t2]
          exact ⟨by rfl, rfl⟩
      · rw [big (r := (((a : Int) - 224) * 64 + ((b1 : Int) - 128)) * 64 + ((b2 : Int) - 128)) (n := 3) ?_]
        · exact rune_dr11 s i w h hs a b1 b2 b3 ha e1 e2 e3 la l1 l2 l3 (by omega) (by omega) (by omega) (by omega) t1 t2
        · rw [ref_dr11 a b1 b2 b3 _ _ _ (by omega) (by omega) (by omega) (by omega) t1 t2]
          have r1 := t1; simp [btw] at r1
          have r2 := t2; simp [btw] at r2
          exact ⟨by omega, rfl⟩
  · cases t1 : btw (decide (i + 1 < s.size)) b1 144 191
    · rw [big (r := 65533) (n := 1) ?_]
      · exact rune_ep0 s i w h hs a b1 b2 b3 ha e1 e2 e3 la l1 l2 l3 (by omega) t1
      · rw [ref_ep0 a b1 b2 b3 _ _ _ (by omega) t1]
        exact ⟨by rfl, rfl⟩
    · cases t2 : btw (decide (i + 2 < s.size)) b2 128 191
      · rw [big (r := 65533) (n := 1) ?_]
        · exact rune_ep10 s i w h hs a b1 b2 b3 ha e1 e2 e3 la l1 l2 l3 (by omega) t1 t2
        · rw [ref_ep10 a b1 b2 b3 _ _ _ (by omega) t1 t2]
          exact ⟨by rfl, rfl⟩
      · cases t3 : btw (decide (i + 3 < s.size)) b3 128 191
        · rw [big (r := 65533) (n := 1) ?_]
          · exact rune_ep110 s i w h hs a b1 b2 b3 ha e1 e2 e3 la l1 l2 l3 (by omega) t1 t2 t3
          · rw [ref_ep110 a b1 b2 b3 _ _ _ (by omega) t1 t2 t3]
            exact ⟨by rfl, rfl⟩
        · rw [big (r := ((((a : Int) - 240) * 64 + ((b1 : Int) - 128)) * 64 + ((b2 : Int) - 128)) * 64 + ((b3 : Int) - 128)) (n := 4) ?_]
          · exact rune_ep111 s i w h hs a b1 b2 b3 ha e1 e2 e3 la l1 l2 l3 (by omega) t1 t2 t3
          · rw [ref_ep111 a b1 b2 b3 _ _ _ (by omega) t1 t2 t3]
            have r1 := t1; simp [btw] at r1
            have r2 := t2; simp [btw] at r2
            have r3 := t3; simp [btw] at r3
            exact ⟨by omega, rfl⟩
  · cases t1 : btw (decide (i + 1 < s.size)) b1 128 143
    · rw [big (r := 65533) (n := 1) ?_]
      · exact rune_eq0 s i w h hs a b1 b2 b3 ha e1 e2 e3 la l1 l2 l3 (by omega) t1
      · rw [ref_eq0 a b1 b2 b3 _ _ _ (by omega) t1]
        exact ⟨by rfl, rfl⟩
    · cases t2 : btw (decide (i + 2 < s.size)) b2 128 191
      · rw [big (r := 65533) (n := 1) ?_]
        · exact rune_eq10 s i w h hs a b1 b2 b3 ha e1 e2 e3 la l1 l2 l3 (by omega) t1 t2
        · rw [ref_eq10 a b1 b2 b3 _ _ _ (by omega) t1 t2]
          exact ⟨by rfl, rfl⟩
      · cases t3 : btw (decide (i + 3 < s.size)) b3 128 191
        · rw [big (r := 65533) (n := 1) ?_]
          · exact rune_eq110 s i w h hs a b1 b2 b3 ha e1 e2 e3 la l1 l2 l3 (by omega) t1 t2 t3
          · rw [ref_eq110 a b1 b2 b3 _ _ _ (by omega) t1 t2 t3]
            exact ⟨by rfl, rfl⟩
        · rw [big (r := ((((a : Int) - 240) * 64 + ((b1 : Int) - 128)) * 64 + ((b2 : Int) - 128)) * 64 + ((b3 : Int) - 128)) (n := 4) ?_]
          · exact rune_eq111 s i w h hs a b1 b2 b3 ha e1 e2 e3 la l1 l2 l3 (by omega) t1 t2 t3
          · rw [ref_eq111 a b1 b2 b3 _ _ _ (by omega) t1 t2 t3]
            have r1 := t1; simp [btw] at r1
            have r2 := t2; simp [btw] at r2
            have r3 := t3; simp [btw] at r3
            exact ⟨by omega, rfl⟩
  · cases t1 : btw (decide (i + 1 < s.size)) b1 128 191
    · rw [big (r := 65533) (n := 1) ?_]
      · exact rune_er0 s i w h hs a b1 b2 b3 ha e1 e2 e3 la l1 l2 l3 (by omega) (by omega) (by omega) (by omega) t1
      · rw [ref_er0 a b1 b2 b3 _ _ _ (by omega) (by omega) (by omega) (by omega) t1]
        exact ⟨by rfl, rfl⟩
    · cases t2 : btw (decide (i + 2 < s.size)) b2 128 191
      · rw [big (r := 65533) (n := 1) ?_]
        · exact rune_er10 s i w h hs a b1 b2 b3 ha e1 e2 e3 la l1 l2 l3 (by omega) (by omega) (by omega) (by omega) t1 t2
        · rw [ref_er10 a b1 b2 b3 _ _ _ (by omega) (by omega) (by omega) (by omega) t1 t2]
          exact ⟨by rfl, rfl⟩
      · cases t3 : btw (decide (i + 3 < s.size)) b3 128 191
        · rw [big (r := 65533) (n := 1) ?_]
          · exact rune_er110 s i w h hs a b1 b2 b3 ha e1 e2 e3 la l1 l2 l3 (by omega) (by omega) (by omega) (by omega) t1 t2 t3
          · rw [ref_er110 a b1 b2 b3 _ _ _ (by omega) (by omega) (by omega) (by omega) t1 t2 t3]
            exact ⟨by rfl, rfl⟩
        · rw [big (r := ((((a : Int) - 240) * 64 + ((b1 : Int) - 128)) * 64 + ((b2 : Int) - 128)) * 64 + ((b3 : Int) - 128)) (n := 4) ?_]
          · exact rune_er111 s i w h hs a b1 b2 b3 ha e1 e2 e3 la l1 l2 l3 (by omega) (by omega) (by omega) (by omega) t1 t2 t3
          · rw [ref_er111 a b1 b2 b3 _ _ _ (by omega) (by omega) (by omega) (by omega) t1 t2 t3]
            have r1 := t1; simp [btw] at r1
            have r2 := t2; simp [btw] at r2
            have r3 := t3; simp [btw] at r3
            exact ⟨by omega, rfl⟩
  · rw [big (r := 65533) (n := 1) ?_]
    · exact rune_f s i w h hs a b1 b2 b3 ha e1 e2 e3 la l1 l2 l3 (by omega) 
    · rw [ref_f a b1 b2 b3 _ _ _ (by omega) ]
      exact ⟨by rfl, rfl⟩
end Go.Proofs.YtboagdmjibdlhaaDoor
