/- Walk of LayCells. Printed by wip/tools/laylcells.py. -/
import Derived.Test.YtflcddjoeadngaaLayH
import Derived.Test.YtflcddjoeadngaaLayT
namespace Go.Proofs.Ytflcddjoeadngaa
open Go.RowKit

theorem slot_is {S T a j : Int} {k : Nat} (h1 : 0 ≤ a) (h2 : a < S) (h3 : 0 ≤ j) (h4 : j < 7) (h : (k : Int) = T + 1 + a * 7 + j) : slotF S T a j = (k : Int) := by
  unfold slotF; rw [if_pos ⟨h1, h2, h3, h4⟩]; omega
theorem side_is {f b : Int} (h : b = 0 ∨ b = 1) : sideF f b = f + b := if_neg (by omega)
theorem state_is {T a : Int} {k : Nat} (h1 : 1 ≤ a) (h2 : a ≤ T) (h : (k : Int) = a - 1) : stateF T a = (k : Int) := by
  unfold stateF; rw [if_pos ⟨h1, h2⟩]; omega
theorem head_is {V S T a b : Int} {k : Nat} (h1 : 0 ≤ a) (h2 : a < V) (h3 : 0 ≤ b) (h4 : b < lv V) (h : (k : Int) = o3 S T + a * lv V + b) : headF V S T a b = (k : Int) := by
  rw [((head_spec (V := V) (S := S) (T := T) a b).1 ⟨h1, h2, h3, h4⟩).1]; omega
theorem edge_is {V S T a b : Int} {k : Nat} (h1 : 0 ≤ a) (h2 : a < b) (h3 : b < V) (h : (k : Int) = o4 V S T + ahF V a + (b - a - 1)) : edgeF V S T a b = (k : Int) := by
  rw [((edge_spec (V := V) (S := S) (T := T) a b).1 ⟨by omega, by omega, by omega⟩).1, show min a b = a by omega, show max a b = b by omega]; omega
theorem edge_is' {V S T a b : Int} {k : Nat} (h1 : 0 ≤ a) (h2 : a < b) (h3 : b < V) (h : (k : Int) = o4 V S T + ahF V a + (b - a - 1)) : edgeF V S T b a = (k : Int) := by
  rw [((edge_spec (V := V) (S := S) (T := T) b a).1 ⟨by omega, by omega, by omega⟩).1, show min b a = a by omega, show max b a = b by omega]; omega
theorem field_is {V S T a b : Int} {k : Nat} (h1 : 1 ≤ a) (h2 : a ≤ nd V S) (h3 : 0 ≤ b) (h4 : b < 7) (h : (k : Int) = o5 V S T + (a - 1) * 7 + b) : fieldF V S T a b = (k : Int) := by
  unfold fieldF; rw [if_pos ⟨h1, h2, h3, h4⟩, h]

set_option maxRecDepth 100000 in
set_option maxHeartbeats 8000000 in
theorem layCells_no (V S T : Int) (w : World) (hr : rtB V S T = false) :
    Calls Try.prog 4 #[vL V S T] w fun e w' => e = .returned (.bool true) ∧ Below w.heap.size w w' := by
  have hR := Lib.hid hr; clear hr
  have hlb : ∀ W, LB w V S T W → W.cell? ⟨w.heap.size, 0, none⟩ = some (.int .i64 V) ∧ W.cell? ⟨w.heap.size, 1, none⟩ = some (.int .i64 S) ∧ W.cell? ⟨w.heap.size, 2, none⟩ = some (.int .i64 T) := fun W h => h.cells
  have HLB := Lib.hid hlb
  clear hlb
  go_enter Try.func4, Try.ntmps4
  go_wp2_with fail
  refine (ref_any V S T _).mono ?_; rintro e w1 ⟨rfl, b⟩
  have HL := Lib.hid ((LB.start w V S T).later b)
  clear b
  obtain ⟨c0, c1, c2⟩ := HL.out.cells
  have z := HL.out.lt
  go_wp2_with fail
  refine (isB (rright_any V S T _) (v' := false) hR.out).mono ?_; rintro e w2 ⟨rfl, b⟩
  have HN := Lib.hid (HL.out.later b)
  clear HL c0 c1 c2 z b
  have HL := HN
  clear HN
  obtain ⟨c0, c1, c2⟩ := HL.out.cells
  have z := HL.out.lt
  go_wp2_with fail
  refine (awakeL_any _).mono ?_; rintro e w3 ⟨rfl, b⟩
  have HN := Lib.hid (HL.out.later b)
  clear HL c0 c1 c2 z b
  have HL := HN
  clear HN
  obtain ⟨c0, c1, c2⟩ := HL.out.cells
  have z := HL.out.lt
  go_wp2_with fail
  go_ret
  exact ⟨rfl, HL.out.end_⟩

set_option maxRecDepth 100000 in
set_option maxHeartbeats 8000000 in
theorem layCells_v (V S T : Int) (w : World) (h : Rt V S T) (hv : 6 < V) :
    Calls Try.prog 4 #[vL V S T] w fun e w' => e = .returned (.bool true) ∧ Below w.heap.size w w' := by
  have hR := Lib.hid h.yes; clear h
  have hlb : ∀ W, LB w V S T W → W.cell? ⟨w.heap.size, 0, none⟩ = some (.int .i64 V) ∧ W.cell? ⟨w.heap.size, 1, none⟩ = some (.int .i64 S) ∧ W.cell? ⟨w.heap.size, 2, none⟩ = some (.int .i64 T) := fun W h => h.cells
  have HLB := Lib.hid hlb
  clear hlb
  go_enter Try.func4, Try.ntmps4
  go_wp2_with fail
  refine (ref_any V S T _).mono ?_; rintro e w1 ⟨rfl, b⟩
  have HL := Lib.hid ((LB.start w V S T).later b)
  clear b
  obtain ⟨c0, c1, c2⟩ := HL.out.cells
  have z := HL.out.lt
  go_wp2_with fail
  refine (isB (rright_any V S T _) (v' := true) hR.out).mono ?_; rintro e w2 ⟨rfl, b⟩
  have HN := Lib.hid (HL.out.later b)
  clear HL c0 c1 c2 z b
  have HL := HN
  clear HN
  obtain ⟨c0, c1, c2⟩ := HL.out.cells
  have z := HL.out.lt
  go_wp2_with fail
  refine (awakeL_any _).mono ?_; rintro e w3 ⟨rfl, b⟩
  have HN := Lib.hid (HL.out.later b)
  clear HL c0 c1 c2 z b
  have HL := HN
  clear HN
  obtain ⟨c0, c1, c2⟩ := HL.out.cells
  have z := HL.out.lt
  go_wp2_with fail
  go_ret
  exact ⟨rfl, HL.out.end_⟩

set_option maxRecDepth 100000 in
set_option maxHeartbeats 8000000 in
theorem layCells_s (V S T : Int) (w : World) (h : Rt V S T) (hv : V ≤ 6) (hs : 6 < S) :
    Calls Try.prog 4 #[vL V S T] w fun e w' => e = .returned (.bool true) ∧ Below w.heap.size w w' := by
  have hR := Lib.hid h.yes; clear h
  have hlb : ∀ W, LB w V S T W → W.cell? ⟨w.heap.size, 0, none⟩ = some (.int .i64 V) ∧ W.cell? ⟨w.heap.size, 1, none⟩ = some (.int .i64 S) ∧ W.cell? ⟨w.heap.size, 2, none⟩ = some (.int .i64 T) := fun W h => h.cells
  have HLB := Lib.hid hlb
  clear hlb
  go_enter Try.func4, Try.ntmps4
  go_wp2_with fail
  refine (ref_any V S T _).mono ?_; rintro e w1 ⟨rfl, b⟩
  have HL := Lib.hid ((LB.start w V S T).later b)
  clear b
  obtain ⟨c0, c1, c2⟩ := HL.out.cells
  have z := HL.out.lt
  go_wp2_with fail
  refine (isB (rright_any V S T _) (v' := true) hR.out).mono ?_; rintro e w2 ⟨rfl, b⟩
  have HN := Lib.hid (HL.out.later b)
  clear HL c0 c1 c2 z b
  have HL := HN
  clear HN
  obtain ⟨c0, c1, c2⟩ := HL.out.cells
  have z := HL.out.lt
  go_wp2_with fail
  refine (awakeL_any _).mono ?_; rintro e w3 ⟨rfl, b⟩
  have HN := Lib.hid (HL.out.later b)
  clear HL c0 c1 c2 z b
  have HL := HN
  clear HN
  obtain ⟨c0, c1, c2⟩ := HL.out.cells
  have z := HL.out.lt
  go_wp2_with fail
  go_ret
  exact ⟨rfl, HL.out.end_⟩

set_option maxRecDepth 100000 in
set_option maxHeartbeats 8000000 in
theorem layCells_yes (V S T : Int) (w : World) (h : Rt V S T) (hv : V ≤ 6) (hs : S ≤ 6) :
    Calls Try.prog 4 #[vL V S T] w fun e w' => e = .returned (.bool true) ∧ Below w.heap.size w w' := by
  have hR := Lib.hid h.yes
  have H := Lib.hid h
  have ht := h.t2
  have hn1 : ((cn V S T).toNat : Int) = cn V S T := by have := h.t1; have := h.s1; have := (sizes h).vn1; have := (sizes h).pr1; have := (sizes h).nd1; unfold cn; omega
  have hn2 : cn V S T ≤ 10000 := by have := h.t2; have := h.s2; have := (sizes h).vn2; have := (sizes h).pr2; have := (sizes h).nd2; unfold cn; omega
  clear h
  have hlb : ∀ W, LB w V S T W → W.cell? ⟨w.heap.size, 0, none⟩ = some (.int .i64 V) ∧ W.cell? ⟨w.heap.size, 1, none⟩ = some (.int .i64 S) ∧ W.cell? ⟨w.heap.size, 2, none⟩ = some (.int .i64 T) := fun W h => h.cells
  have HLB := Lib.hid hlb
  clear hlb
  go_enter Try.func4, Try.ntmps4
  go_wp2_with fail
  refine (ref_any V S T _).mono ?_; rintro e w1 ⟨rfl, b⟩
  have HL := Lib.hid ((LB.start w V S T).later b)
  clear b
  obtain ⟨c0, c1, c2⟩ := HL.out.cells
  have z := HL.out.lt
  go_wp2_with fail
  refine (isB (rright_any V S T _) (v' := true) hR.out).mono ?_; rintro e w2 ⟨rfl, b⟩
  have HN := Lib.hid (HL.out.later b)
  clear HL c0 c1 c2 z b
  have HL := HN
  clear HN
  obtain ⟨c0, c1, c2⟩ := HL.out.cells
  have z := HL.out.lt
  go_wp2_with fail
  refine (ref_any V S T _).mono ?_; rintro e w3 ⟨rfl, b⟩
  have HN := Lib.hid (HL.out.later b)
  clear HL c0 c1 c2 z b
  have HL := HN
  clear HN
  obtain ⟨c0, c1, c2⟩ := HL.out.cells
  have z := HL.out.lt
  go_wp2_with fail
  refine (rcells_yes V S T H.out _).mono ?_; rintro e w9 ⟨g, cap, f, rfl, hcap, hg0, hg1, hall, b⟩
  have HA := Lib.hid fun k hk => (hall k hk).2
  have HN : Hid (LR w V S T g (cn V S T).toNat f w9) := Lib.hid ⟨HL.out.later b, hg1, fun k hk => (hall k hk).1⟩
  clear hall HL c0 c1 c2 z b hg0 hg1
  have HL := HN
  clear HN
  obtain ⟨c0, c1, c2⟩ := HL.out.cells
  have z := HL.out.lt
  go_wp2_with fail
  refine (cells_yes V S T H.out _).mono ?_; rintro e w4 ⟨rfl, b⟩
  have HN := Lib.hid (HL.out.later b)
  clear HL c0 c1 c2 z b
  have HL := HN
  clear HN
  obtain ⟨c0, c1, c2⟩ := HL.out.cells
  have z := HL.out.lt
  go_wp2_with fail
  go_loopw [32] (fun i wr => ∃ k : Nat, k ≤ (cn V S T).toNat ∧ i = .int .i64 k ∧ LR w V S T g (cn V S T).toNat f wr) (fun i _ => (cn V S T).toNat - (intOf i).toNat)
  case atStart => exact ⟨0, Nat.zero_le _, rfl, HL.out⟩
  case round =>
    clear HL c0 c1 c2 z
    obtain ⟨k, hk, rfl, hL⟩ := hrel
    have HL := Lib.hid hL
    clear hL
    obtain ⟨c0, c1, c2⟩ := HL.out.cells
    have z := HL.out.lt
    by_cases hlt : k < (cn V S T).toNat
    · have hn := HL.out.2.2 k hlt
      have hP := HA.out k hlt
      have kb : (k : Int) ≤ 10000 := by omega
      generalize f k = m at hn hP
      obtain ⟨mk, ma, mb, mc⟩ := m
      obtain ⟨q0, q1, q2, q3⟩ := hn
      simp only at q0 q1 q2 q3
      clear hn1 hn2
      rcases hP with ⟨e1, p1, p2, p⟩ | ⟨e1, p⟩ | ⟨e1, p1, p2, p⟩ | ⟨e1, p1, p2, p⟩ | ⟨e1, p1, p2, p⟩ | ⟨e1, p1, p2, p3, p⟩ | ⟨e1, p1, p2, p3, p⟩ | ⟨e1, p1, p2, p3, p4, p⟩ | ⟨e1, p1, p2, p3, p⟩ | ⟨e1, p1, p2, p3, p4, p⟩
      · simp only at e1 p1 p2 p
        subst e1
        have HP := Lib.hid p
        clear p
        go_wp2_with fail
        refine (isI (state_yes V S T ma (by omega) (by omega) H.out _) (v' := (k : Int)) (state_is p1 p2 HP.out)).mono ?_; rintro e w2 ⟨rfl, b⟩
        have HN := Lib.hid ((HL.out.alloc _).later b)
        clear c0 c1 c2 z q0 q1 q2 q3 HL b
        go_wp2_with fail
        go_roundw
        case rel => exact ⟨k + 1, by omega, by go_num, HN.out⟩
        case measure => simp [intOf]; omega
      · simp only at e1 p
        subst e1
        have HP := Lib.hid p
        clear p
        go_wp2_with fail
        refine (isI (free_yes V S T H.out _) (v' := (k : Int)) HP.out.symm).mono ?_; rintro e w2 ⟨rfl, b⟩
        have HN := Lib.hid ((HL.out.alloc _).later b)
        clear c0 c1 c2 z q0 q1 q2 q3 HL b
        go_wp2_with fail
        go_roundw
        case rel => exact ⟨k + 1, by omega, by go_num, HN.out⟩
        case measure => simp [intOf]; omega
      · simp only at e1 p1 p2 p
        subst e1
        have HP := Lib.hid p
        clear p
        go_wp2_with fail
        refine (isI (nextFree_yes V S T ma H.out _) (v' := (k : Int)) (slot_is p1 p2 (by omega) (by omega) (by have := HP.out; omega))).mono ?_; rintro e w2 ⟨rfl, b⟩
        have HN := Lib.hid ((HL.out.alloc _).later b)
        clear c0 c1 c2 z q0 q1 q2 q3 HL b
        go_wp2_with fail
        go_roundw
        case rel => exact ⟨k + 1, by omega, by go_num, HN.out⟩
        case measure => simp [intOf]; omega
      · simp only at e1 p1 p2 p
        subst e1
        have HP := Lib.hid p
        clear p
        go_wp2_with fail
        refine (isI (ends_yes V S T ma H.out _) (v' := (k : Int)) (slot_is p1 p2 (by omega) (by omega) (by have := HP.out; omega))).mono ?_; rintro e w2 ⟨rfl, b⟩
        have HN := Lib.hid ((HL.out.alloc _).later b)
        clear c0 c1 c2 z q0 q1 q2 q3 HL b
        go_wp2_with fail
        go_roundw
        case rel => exact ⟨k + 1, by omega, by go_num, HN.out⟩
        case measure => simp [intOf]; omega
      · simp only at e1 p1 p2 p
        subst e1
        have HP := Lib.hid p
        clear p
        go_wp2_with fail
        refine (isI (level_yes V S T ma H.out _) (v' := (k : Int)) (slot_is p1 p2 (by omega) (by omega) (by have := HP.out; omega))).mono ?_; rintro e w2 ⟨rfl, b⟩
        have HN := Lib.hid ((HL.out.alloc _).later b)
        clear c0 c1 c2 z q0 q1 q2 q3 HL b
        go_wp2_with fail
        go_roundw
        case rel => exact ⟨k + 1, by omega, by go_num, HN.out⟩
        case measure => simp [intOf]; omega
      · simp only at e1 p1 p2 p3 p
        subst e1
        have HP := Lib.hid p
        clear p
        have HS := Lib.hid p3
        clear p3
        go_wp2_with fail
        refine (isI (next_yes V S T ma mb H.out _) (v' := (k : Int)) (by rw [side_is HS.out]; exact slot_is p1 p2 (by have := HS.out; omega) (by have := HS.out; omega) (by have := HP.out; omega))).mono ?_; rintro e w2 ⟨rfl, b⟩
        have HN := Lib.hid ((HL.out.alloc _).later b)
        clear c0 c1 c2 z q0 q1 q2 q3 HL b
        go_wp2_with fail
        go_roundw
        case rel => exact ⟨k + 1, by omega, by go_num, HN.out⟩
        case measure => simp [intOf]; omega
      · simp only at e1 p1 p2 p3 p
        subst e1
        have HP := Lib.hid p
        clear p
        have HS := Lib.hid p3
        clear p3
        go_wp2_with fail
        refine (isI (prev_yes V S T ma mb H.out _) (v' := (k : Int)) (by rw [side_is HS.out]; exact slot_is p1 p2 (by have := HS.out; omega) (by have := HS.out; omega) (by have := HP.out; omega))).mono ?_; rintro e w2 ⟨rfl, b⟩
        have HN := Lib.hid ((HL.out.alloc _).later b)
        clear c0 c1 c2 z q0 q1 q2 q3 HL b
        go_wp2_with fail
        go_roundw
        case rel => exact ⟨k + 1, by omega, by go_num, HN.out⟩
        case measure => simp [intOf]; omega
      · simp only at e1 p1 p2 p3 p4 p
        subst e1
        have HP := Lib.hid p
        clear p
        go_wp2_with fail
        refine (isI (head_yes V S T ma mb H.out _) (v' := (k : Int)) (head_is p1 p2 p3 p4 HP.out)).mono ?_; rintro e w2 ⟨rfl, b⟩
        have HN := Lib.hid ((HL.out.alloc _).later b)
        clear c0 c1 c2 z q0 q1 q2 q3 HL b
        go_wp2_with fail
        go_roundw
        case rel => exact ⟨k + 1, by omega, by go_num, HN.out⟩
        case measure => simp [intOf]; omega
      · simp only at e1 p1 p2 p3 p
        subst e1
        have HP := Lib.hid p
        clear p
        go_wp2_with fail
        refine (isI (edge_yes V S T ma mb H.out _) (v' := (k : Int)) (edge_is p1 p2 p3 HP.out)).mono ?_; rintro e w2 ⟨rfl, b⟩
        have HN := Lib.hid ((HL.out.alloc _).later b)
        have HB := Lib.hid ((Blk.new wr 32 #[.int .i64 9, .int .i64 ma, .int .i64 mb, .int .i64 mc]).below b (by simp))
        clear c0 c1 c2 z q0 q1 q2 q3 HL b
        obtain ⟨c0, c1, c2⟩ := HN.out.cells
        have q1 : w2.cell? ⟨wr.heap.size, 1, none⟩ = some (.int .i64 ma) := HB.out.cell 1
        have q2 : w2.cell? ⟨wr.heap.size, 2, none⟩ = some (.int .i64 mb) := HB.out.cell 2
        go_wp2_with fail
        refine (isI (edge_yes V S T mb ma H.out _) (v' := (k : Int)) (edge_is' p1 p2 p3 HP.out)).mono ?_; rintro e w3 ⟨rfl, b⟩
        have HM := Lib.hid (HN.out.later b)
        clear c0 c1 c2 q1 q2 HB HN b
        go_wp2_with fail
        go_roundw
        case rel => exact ⟨k + 1, by omega, by go_num, HM.out⟩
        case measure => simp [intOf]; omega
      · simp only at e1 p1 p2 p3 p4 p
        subst e1
        have HP := Lib.hid p
        clear p
        go_wp2_with fail
        refine (isI (field_yes V S T ma mb H.out (by have := (sizes H.out).nd2; omega) (by have := (sizes H.out).nd2; omega) _) (v' := (k : Int)) (field_is p1 p2 p3 p4 HP.out)).mono ?_; rintro e w2 ⟨rfl, b⟩
        have HN := Lib.hid ((HL.out.alloc _).later b)
        clear c0 c1 c2 z q0 q1 q2 q3 HL b
        go_wp2_with fail
        go_roundw
        case rel => exact ⟨k + 1, by omega, by go_num, HN.out⟩
        case measure => simp [intOf]; omega
    · go_wp2_with fail
      refine (awakeL_any _).mono ?_; rintro e w2 ⟨rfl, b⟩
      have HN := Lib.hid (HL.out.later b)
      clear HL c0 c1 c2 z b
      go_wp2_with fail
      go_ret
      exact ⟨rfl, HN.out.end_⟩

theorem layCells_walk (V S T : Int) (w : World) :
    Calls Try.prog 4 #[vL V S T] w fun e w' => e = .returned (.bool true) ∧ Below w.heap.size w w' := by
  cases hr : rtB V S T
  · exact layCells_no V S T w hr
  · have h := rtB_yes hr
    by_cases hv : V ≤ 6
    · by_cases hs : S ≤ 6
      · exact layCells_yes V S T w h hv hs
      · exact layCells_s V S T w h hv (by omega)
    · exact layCells_v V S T w h (by omega)
end Go.Proofs.Ytflcddjoeadngaa
