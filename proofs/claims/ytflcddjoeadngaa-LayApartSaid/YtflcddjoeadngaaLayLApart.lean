/- Walk of LayApart. Printed by wip/tools/laylap.py. -/
import Derived.Test.YtflcddjoeadngaaLayH
import Derived.Deep.DeepCutAuto
namespace Go.Proofs.Ytflcddjoeadngaa
open Go.RowKit

/-- The ten cells that are told apart. -/
def apX (V S T a b : Int) : Nat → Int
  | 0 => stateF T a
  | 1 => slotF S T a 0
  | 2 => slotF S T a 1
  | 3 => slotF S T a 2
  | 4 => slotF S T a (sideF 3 b)
  | 5 => slotF S T a (sideF 5 b)
  | 6 => headF V S T a b
  | 7 => edgeF V S T a b
  | 8 => fieldF V S T a b
  | _ => T
theorem slot_spec (S T a : Int) {j : Int} (j0 : 0 ≤ j) (j1 : j < 7) : slotF S T a j = -1 ∨ (0 ≤ a ∧ a < S ∧ slotF S T a j = T + 1 + a * 7 + j) := by
  unfold slotF
  by_cases h : 0 ≤ a ∧ a < S
  · rw [if_pos ⟨h.1, h.2, j0, j1⟩]; exact .inr ⟨h.1, h.2, rfl⟩
  · rw [if_neg (by omega)]; exact .inl rfl
theorem side_spec (S T a b : Int) {f : Int} (f0 : 0 ≤ f) (f1 : f < 6) : slotF S T a (sideF f b) = -1 ∨ (0 ≤ a ∧ a < S ∧ (slotF S T a (sideF f b) = T + 1 + a * 7 + f ∨ slotF S T a (sideF f b) = T + 1 + a * 7 + f + 1)) := by
  by_cases hb : b = 0 ∨ b = 1
  · have e : sideF f b = f + b := if_neg (by omega)
    rw [e]
    rcases slot_spec S T a (j := f + b) (by omega) (by omega) with h | h
    · exact .inl h
    · exact .inr ⟨h.1, h.2.1, by omega⟩
  · have e : sideF f b = -1 := if_pos (by omega)
    rw [e]; exact .inl (if_neg (by omega))
theorem head_spec' (V S T a b : Int) : headF V S T a b = -1 ∨ (o3 S T ≤ headF V S T a b ∧ headF V S T a b < o4 V S T) := by
  by_cases h : 0 ≤ a ∧ a < V ∧ 0 ≤ b ∧ b < lv V
  · have q := (head_spec (V := V) (S := S) (T := T) a b).1 h
    refine .inr ?_
    rw [q.1]; unfold o4 o3; omega
  · exact .inl ((head_spec (V := V) (S := S) (T := T) a b).2 h)
theorem edge_spec' (V S T a b : Int) : edgeF V S T a b = -1 ∨ (o4 V S T ≤ edgeF V S T a b ∧ edgeF V S T a b < o5 V S T) := by
  by_cases h : 0 ≤ min a b ∧ a ≠ b ∧ max a b < V
  · have q := (edge_spec (V := V) (S := S) (T := T) a b).1 h
    refine .inr ?_
    rw [q.1]; unfold o5 o4; omega
  · exact .inl ((edge_spec (V := V) (S := S) (T := T) a b).2 h)
/-- Where each of the ten lies. -/
def apAt (V S T a : Int) (x : Int) : Nat → Prop
  | 0 => x = -1 ∨ (0 ≤ x ∧ x < T)
  | 1 => x = -1 ∨ (0 ≤ a ∧ a < S ∧ x = T + 1 + a * 7)
  | 2 => x = -1 ∨ (0 ≤ a ∧ a < S ∧ x = T + 1 + a * 7 + 1)
  | 3 => x = -1 ∨ (0 ≤ a ∧ a < S ∧ x = T + 1 + a * 7 + 2)
  | 4 => x = -1 ∨ (0 ≤ a ∧ a < S ∧ (x = T + 1 + a * 7 + 3 ∨ x = T + 1 + a * 7 + 4))
  | 5 => x = -1 ∨ (0 ≤ a ∧ a < S ∧ (x = T + 1 + a * 7 + 5 ∨ x = T + 1 + a * 7 + 6))
  | 6 => x = -1 ∨ (T + 1 + S * 7 ≤ x ∧ x < T + 1 + S * 7 + vn V)
  | 7 => x = -1 ∨ (T + 1 + S * 7 + vn V ≤ x ∧ x < T + 1 + S * 7 + vn V + pr V)
  | 8 => x = -1 ∨ T + 1 + S * 7 + vn V + pr V ≤ x
  | _ => x = T
theorem apAt_all (V S T a b : Int) (ht : 1 ≤ T) {i : Nat} (hi : i < 10) : apAt V S T a (apX V S T a b i) i := by
  have ci : i = 0 ∨ i = 1 ∨ i = 2 ∨ i = 3 ∨ i = 4 ∨ i = 5 ∨ i = 6 ∨ i = 7 ∨ i = 8 ∨ i = 9 := by omega
  rcases ci with rfl | rfl | rfl | rfl | rfl | rfl | rfl | rfl | rfl | rfl
  · show stateF T a = -1 ∨ (0 ≤ stateF T a ∧ stateF T a < T)
    unfold stateF; split <;> omega
  · have := slot_spec S T a (j := 0) (by omega) (by omega)
    show slotF S T a 0 = -1 ∨ (0 ≤ a ∧ a < S ∧ slotF S T a 0 = T + 1 + a * 7)
    omega
  · exact slot_spec S T a (j := 1) (by omega) (by omega)
  · exact slot_spec S T a (j := 2) (by omega) (by omega)
  · have := side_spec S T a b (f := 3) (by omega) (by omega)
    show slotF S T a (sideF 3 b) = -1 ∨ (0 ≤ a ∧ a < S ∧ (slotF S T a (sideF 3 b) = T + 1 + a * 7 + 3 ∨ slotF S T a (sideF 3 b) = T + 1 + a * 7 + 4))
    omega
  · have := side_spec S T a b (f := 5) (by omega) (by omega)
    show slotF S T a (sideF 5 b) = -1 ∨ (0 ≤ a ∧ a < S ∧ (slotF S T a (sideF 5 b) = T + 1 + a * 7 + 5 ∨ slotF S T a (sideF 5 b) = T + 1 + a * 7 + 6))
    omega
  · exact head_spec' V S T a b
  · exact edge_spec' V S T a b
  · show fieldF V S T a b = -1 ∨ o5 V S T ≤ fieldF V S T a b
    unfold fieldF; split <;> omega
  · show T = T
    rfl
theorem apAt_ne {V S T a x y : Int} (hs : 0 ≤ S) (z1 : 1 ≤ vn V) (z2 : 0 ≤ pr V) (ht : 1 ≤ T) {i k : Nat} (hi : i < 10) (hk : k < 10) (hne : i ≠ k) (h0 : 0 ≤ x) (hx : apAt V S T a x i) (hy : apAt V S T a y k) : x ≠ y := by
  have ci : i = 0 ∨ i = 1 ∨ i = 2 ∨ i = 3 ∨ i = 4 ∨ i = 5 ∨ i = 6 ∨ i = 7 ∨ i = 8 ∨ i = 9 := by omega
  have ck : k = 0 ∨ k = 1 ∨ k = 2 ∨ k = 3 ∨ k = 4 ∨ k = 5 ∨ k = 6 ∨ k = 7 ∨ k = 8 ∨ k = 9 := by omega
  clear hi hk
  rintro rfl
  rcases ci with rfl | rfl | rfl | rfl | rfl | rfl | rfl | rfl | rfl | rfl <;> simp only [apAt] at hx <;> rcases ck with rfl | rfl | rfl | rfl | rfl | rfl | rfl | rfl | rfl | rfl <;> simp only [apAt] at hy <;> first | (exact hne rfl) | omega
theorem apX_apart {V S T a b : Int} (h : Rt V S T) {i k : Nat} (hi : i < 10) (hk : k < 10) (hne : i ≠ k) (h0 : 0 ≤ apX V S T a b i) : apX V S T a b i ≠ apX V S T a b k :=
  apAt_ne h.s1 (sizes h).vn1 (sizes h).pr1 h.t1 hi hk hne h0 (apAt_all V S T a b h.t1 hi) (apAt_all V S T a b h.t1 hk)
theorem ap_cells {V S T a b : Int} {w : World} {k : Nat} (hk : k < 10) (t : TypeId) : (w.alloc (.cells #[.int .i64 (stateF T a), .int .i64 (slotF S T a 0), .int .i64 (slotF S T a 1), .int .i64 (slotF S T a 2), .int .i64 (slotF S T a (sideF 3 b)), .int .i64 (slotF S T a (sideF 5 b)), .int .i64 (headF V S T a b), .int .i64 (edgeF V S T a b), .int .i64 (fieldF V S T a b), .int .i64 (T)] t)).cell? ⟨w.heap.size, k, none⟩ = some (.int .i64 (apX V S T a b k)) := by
  have ck : k = 0 ∨ k = 1 ∨ k = 2 ∨ k = 3 ∨ k = 4 ∨ k = 5 ∨ k = 6 ∨ k = 7 ∨ k = 8 ∨ k = 9 := by omega
  rcases ck with rfl | rfl | rfl | rfl | rfl | rfl | rfl | rfl | rfl | rfl <;> simp [apX, go_sem]
theorem field_inj {V S T a b c d : Int} (h : 0 ≤ fieldF V S T a b) (e : fieldF V S T a b = fieldF V S T c d) : a = c ∧ b = d := by
  unfold fieldF at h e
  split at h
  · rw [if_pos (by assumption)] at e
    split at e <;> omega
  · omega
theorem head_inj' {V S T a b c d : Int} (h : Rt V S T) (h0 : 0 ≤ headF V S T a b) (e : headF V S T a b = headF V S T c d) : a = c ∧ b = d := by
  by_cases h1 : 0 ≤ a ∧ a < V ∧ 0 ≤ b ∧ b < lv V
  · by_cases h2 : 0 ≤ c ∧ c < V ∧ 0 ≤ d ∧ d < lv V
    · rw [((head_spec (V := V) (S := S) (T := T) a b).1 h1).1, ((head_spec (V := V) (S := S) (T := T) c d).1 h2).1] at e
      exact head_inj h.v1 h.v2 h1.2.2.1 h1.2.2.2 h2.2.2.1 h2.2.2.2 (by omega)
    · rw [(head_spec (V := V) (S := S) (T := T) c d).2 h2] at e; omega
  · rw [(head_spec (V := V) (S := S) (T := T) a b).2 h1] at h0; omega
theorem LB.drewN {w W : World} {V S T : Int} (h : LB w V S T W) (n : Nat) : LB w V S T (W.drewN n) := ⟨h.1.drewN n, ⟨h.2.os, h.2.tape, h.2.output, h.2.size, h.2.block⟩⟩

set_option maxRecDepth 100000 in
set_option maxHeartbeats 16000000 in
theorem layApart_no (V S T a b c d : Int) (w : World) (hr : rtB V S T = false) :
    Calls Try.prog 6 #[vL V S T, .agg #[.int .i64 a, .int .i64 b, .int .i64 c, .int .i64 d]] w fun e w' => e = .returned (.bool true) ∧ Below w.heap.size w w' := by
  have hR := Lib.hid hr; clear hr
  have hlb : ∀ W, LB w V S T W → W.cell? ⟨w.heap.size, 0, none⟩ = some (.int .i64 V) ∧ W.cell? ⟨w.heap.size, 1, none⟩ = some (.int .i64 S) ∧ W.cell? ⟨w.heap.size, 2, none⟩ = some (.int .i64 T) := fun W h => h.cells
  have HLB := Lib.hid hlb
  clear hlb
  go_enter Try.func6, Try.ntmps6
  go_wp2_with fail
  go_quiet (fail)
  rename_i nq
  have HL := Lib.hid (((LB.start w V S T).alloc (.cells #[.int .i64 a, .int .i64 b, .int .i64 c, .int .i64 d] 46)).drewN nq)
  have c0 := HL.out.cells
  have c1 := c0
  have c2 := c0
  have z := HL.out.lt
  go_wp2_with fail
  refine (ref_any V S T _).mono ?_; rintro e w1 ⟨rfl, b⟩
  have HN := Lib.hid (HL.out.later b)
  clear HL c0 c1 c2 z b
  have HL := HN
  clear HN
  obtain ⟨c0, c1, c2⟩ := HL.out.cells
  have z := HL.out.lt
  go_wp2_with fail
  refine (isB (rright_any V S T _) (v' := false) hR.out).mono ?_; rintro e w2 ⟨rfl, b⟩
  have HN := Lib.hid (HL.out.later b)
  clear HL c0 c1 c2 z b
  have HL := HN
  clear HN
  obtain ⟨c0, c1, c2⟩ := HL.out.cells
  have z := HL.out.lt
  go_wp2_with fail
  refine (awakeL_any _).mono ?_; rintro e w3 ⟨rfl, b⟩
  have HN := Lib.hid (HL.out.later b)
  clear HL c0 c1 c2 z b
  have HL := HN
  clear HN
  obtain ⟨c0, c1, c2⟩ := HL.out.cells
  have z := HL.out.lt
  go_wp2_with fail
  go_ret
  exact ⟨rfl, HL.out.end_⟩

set_option maxRecDepth 100000 in
set_option maxHeartbeats 16000000 in
theorem layApart_yes (V S T a b c d : Int) (w : World) (h : Rt V S T) (ha1 : -9223372036854775808 ≤ a) (ha2 : a ≤ 9223372036854775807) (hc1 : -9223372036854775808 ≤ c) (hc2 : c ≤ 9223372036854775807) :
    Calls Try.prog 6 #[vL V S T, .agg #[.int .i64 a, .int .i64 b, .int .i64 c, .int .i64 d]] w fun e w' => e = .returned (.bool true) ∧ Below w.heap.size w w' := by
  have hR := Lib.hid h.yes
  have H := Lib.hid h
  have HA1 := Lib.hid ha1
  have HA2 := Lib.hid ha2
  have HC1 := Lib.hid hc1
  have HC2 := Lib.hid hc2
  clear h ha1 ha2 hc1 hc2
  have hlb : ∀ W, LB w V S T W → W.cell? ⟨w.heap.size, 0, none⟩ = some (.int .i64 V) ∧ W.cell? ⟨w.heap.size, 1, none⟩ = some (.int .i64 S) ∧ W.cell? ⟨w.heap.size, 2, none⟩ = some (.int .i64 T) := fun W h => h.cells
  have HLB := Lib.hid hlb
  clear hlb
  go_enter Try.func6, Try.ntmps6
  go_wp2_with fail
  go_quiet (fail)
  rename_i nq
  have HL := Lib.hid (((LB.start w V S T).alloc (.cells #[.int .i64 a, .int .i64 b, .int .i64 c, .int .i64 d] 46)).drewN nq)
  have c0 := HL.out.cells
  have c1 := c0
  have c2 := c0
  have z := HL.out.lt
  go_wp2_with fail
  refine (ref_any V S T _).mono ?_; rintro e w1 ⟨rfl, b⟩
  have HN := Lib.hid (HL.out.later b)
  clear HL c0 c1 c2 z b
  have HL := HN
  clear HN
  obtain ⟨c0, c1, c2⟩ := HL.out.cells
  have z := HL.out.lt
  go_wp2_with fail
  refine (isB (rright_any V S T _) (v' := true) hR.out).mono ?_; rintro e w2 ⟨rfl, b⟩
  have HN := Lib.hid (HL.out.later b)
  clear HL c0 c1 c2 z b
  have HL := HN
  clear HN
  obtain ⟨c0, c1, c2⟩ := HL.out.cells
  have z := HL.out.lt
  go_wp2_with fail
  have hlb := HLB.out
  go_region_held3 (LB w V S T) (first | (with_reducible assumption) | (with_reducible exact HL.out.drew) | (with_reducible exact LB.later (by assumption) hb) | (with_reducible exact LB.alloc (by assumption) _))
    (first
      | (go_at_call 21; ((with_reducible refine (state_yes V S T a HA1.out HA2.out H.out _).mono ?_); rintro e w' ⟨rfl, hb⟩))
      | (go_at_call 23; ((with_reducible refine (nextFree_yes V S T a H.out _).mono ?_); rintro e w' ⟨rfl, hb⟩))
      | (go_at_call 24; ((with_reducible refine (ends_yes V S T a H.out _).mono ?_); rintro e w' ⟨rfl, hb⟩))
      | (go_at_call 25; ((with_reducible refine (level_yes V S T a H.out _).mono ?_); rintro e w' ⟨rfl, hb⟩))
      | (go_at_call 26; ((with_reducible refine (next_yes V S T a b H.out _).mono ?_); rintro e w' ⟨rfl, hb⟩))
      | (go_at_call 27; ((with_reducible refine (prev_yes V S T a b H.out _).mono ?_); rintro e w' ⟨rfl, hb⟩))
      | (go_at_call 28; ((with_reducible refine (head_yes V S T a b H.out _).mono ?_); rintro e w' ⟨rfl, hb⟩))
      | (go_at_call 29; ((with_reducible refine (edge_yes V S T a b H.out _).mono ?_); rintro e w' ⟨rfl, hb⟩))
      | (go_at_call 30; ((with_reducible refine (field_yes V S T a b H.out HA1.out HA2.out _).mono ?_); rintro e w' ⟨rfl, hb⟩))
      | (go_at_call 22; ((with_reducible refine (free_yes V S T H.out _).mono ?_); rintro e w' ⟨rfl, hb⟩)))
  have HN := Lib.hid ‹LB w V S T _›
  clear HL hlb c0 c1 c2 z
  have HL := HN
  clear HN
  obtain ⟨c0, c1, c2⟩ := HL.out.cells
  have z := HL.out.lt
  have HC : Hid (∀ k, k < 10 → (w'.alloc (.cells #[.int .i64 (stateF T a), .int .i64 (slotF S T a 0), .int .i64 (slotF S T a 1), .int .i64 (slotF S T a 2), .int .i64 (slotF S T a (sideF 3 b)), .int .i64 (slotF S T a (sideF 5 b)), .int .i64 (headF V S T a b), .int .i64 (edgeF V S T a b), .int .i64 (fieldF V S T a b), .int .i64 (T)] 3)).cell? ⟨w'.heap.size, k, none⟩ = some (.int .i64 (apX V S T a b k))) := Lib.hid fun k hk => ap_cells hk _
  have HAP := Lib.hid (fun i k (hi : i < 10) (hk : k < 10) (hne : i ≠ k) h0 => apX_apart (a := a) (b := b) H.out hi hk hne h0)
  go_wp2_with fail
  go_loop [70] (fun i => ∃ n : Nat, n ≤ 10 ∧ i = .int .i64 n) (fun i => 10 - (intOf i).toNat)
  case atStart => exact ⟨0, Nat.zero_le _, rfl⟩
  case round =>
    obtain ⟨n, hn, rfl⟩ := hrel
    by_cases hlt : n < 10
    · have hx := HC.out n hlt
      go_wp2_with fail
      clear hx
      go_loop [77] (fun i => ∃ m : Nat, m ≤ 10 ∧ i = .int .i64 m) (fun i => 10 - (intOf i).toNat)
      case atStart => exact ⟨0, Nat.zero_le _, rfl⟩
      case round =>
        obtain ⟨m, hm, rfl⟩ := hrel
        by_cases hmt : m < 10
        · have hy := HC.out m hmt
          by_cases h0 : 0 ≤ apX V S T a b n
          · by_cases hnm : n = m
            · subst hnm
              go_wp2_with fail
              go_round
              case rel => exact ⟨n + 1, by omega, by go_num⟩
              case measure => simp [intOf]; omega
            · have e1 : (apX V S T a b n == apX V S T a b m) = false := beq_eq_false_iff_ne.2 (HAP.out n m hlt hmt hnm h0)
              have e2 : ((n : Int) != (m : Int)) = true := bne_iff_ne.2 (by omega)
              have e3 : (n != m) = true := bne_iff_ne.2 hnm
              clear hnm
              go_wp2_with fail
              go_round
              case rel => exact ⟨m + 1, by omega, by go_num⟩
              case measure => simp [intOf]; omega
          · have e0 : decide (0 ≤ apX V S T a b n) = false := decide_eq_false h0
            clear h0
            go_wp2_with fail
            go_round
            case rel => exact ⟨m + 1, by omega, by go_num⟩
            case measure => simp [intOf]; omega
        · have e : m = 10 := by omega
          subst e
          go_wp2_with fail
          go_round
          case rel => exact ⟨n + 1, by omega, by go_num⟩
          case measure => simp [intOf]; omega
    · have e : n = 10 := by omega
      subst e
      clear HC HAP
      go_wp2_with fail
      have hlb := HLB.out
      go_region_held3 (LB w V S T) (first | (with_reducible assumption) | (with_reducible exact HL.out.drew) | (with_reducible exact LB.later (by assumption) hb))
        (first
          | (go_at_call 29; ((with_reducible refine (edge_yes V S T a b H.out _).mono ?_); rintro e w' ⟨rfl, hb⟩))
          | (go_at_call 29; ((with_reducible refine (edge_yes V S T c d H.out _).mono ?_); rintro e w' ⟨rfl, hb⟩)))
      have HN := Lib.hid ‹LB w V S T _›
      clear HL hlb c0 c1 c2 z
      have HL := HN
      clear HN
      obtain ⟨c0, c1, c2⟩ := HL.out.cells
      have z := HL.out.lt
      go_upto_region 16 with fail
      go_cut [119] (fun s wx => s = .bool false ∧ LB w V S T wx)
      case first =>
        by_cases h0 : 0 ≤ edgeF V S T a b
        · by_cases he : edgeF V S T a b = edgeF V S T c d
          · have hm := edge_inj h0 he
            have e1 : (edgeF V S T a b == edgeF V S T c d) = true := beq_iff_eq.2 he
            clear he
            rcases Int.lt_or_le b a with g1 | g1 <;> rcases Int.lt_or_le d c with g2 | g2
            · have hq : (b != d) = false := by rw [show b = d by omega]; exact bne_self_eq_false _
              clear hm
              go_wp2_with fail
              go_meet
              exact ⟨rfl, HL.out⟩
            · have hq : (b != c) = false := by rw [show b = c by omega]; exact bne_self_eq_false _
              clear hm
              go_wp2_with fail
              go_meet
              exact ⟨rfl, HL.out⟩
            · have hq : (a != d) = false := by rw [show a = d by omega]; exact bne_self_eq_false _
              clear hm
              go_wp2_with fail
              go_meet
              exact ⟨rfl, HL.out⟩
            · have hq : (a != c) = false := by rw [show a = c by omega]; exact bne_self_eq_false _
              clear hm
              go_wp2_with fail
              go_meet
              exact ⟨rfl, HL.out⟩
          · have e1 : (edgeF V S T a b == edgeF V S T c d) = false := beq_eq_false_iff_ne.2 he
            clear he
            go_wp2_with fail
            go_meet
            exact ⟨rfl, HL.out⟩
        · have e0 : decide (0 ≤ edgeF V S T a b) = false := decide_eq_false h0
          clear h0
          go_wp2_with fail
          go_meet
          exact ⟨rfl, HL.out⟩
      case rest =>
        obtain ⟨rfl, hL⟩ := hcut
        clear HL c0 c1 c2 z
        have HL := Lib.hid hL
        clear hL
        obtain ⟨c0, c1, c2⟩ := HL.out.cells
        have z := HL.out.lt
        go_wp2_with fail
        have hlb := HLB.out
        go_region_held3 (LB w V S T) (first | (with_reducible assumption) | (with_reducible exact HL.out.drew) | (with_reducible exact LB.later (by assumption) hb))
          (first
            | (go_at_call 30; ((with_reducible refine (field_yes V S T a b H.out HA1.out HA2.out _).mono ?_); rintro e w' ⟨rfl, hb⟩))
            | (go_at_call 30; ((with_reducible refine (field_yes V S T c d H.out HC1.out HC2.out _).mono ?_); rintro e w' ⟨rfl, hb⟩)))
        have HN := Lib.hid ‹LB w V S T _›
        clear HL hlb c0 c1 c2 z
        have HL := HN
        clear HN
        obtain ⟨c0, c1, c2⟩ := HL.out.cells
        have z := HL.out.lt
        go_upto_region 19 with fail
        go_cut [144] (fun s wx => s = .bool false ∧ LB w V S T wx)
        case first =>
          by_cases h0 : 0 ≤ fieldF V S T a b
          · by_cases he : fieldF V S T a b = fieldF V S T c d
            · obtain ⟨hm1, hm2⟩ := field_inj h0 he
              have e1 : (fieldF V S T a b == fieldF V S T c d) = true := beq_iff_eq.2 he
              have q1 : (a != c) = false := by rw [hm1]; exact bne_self_eq_false _
              have q2 : (b != d) = false := by rw [hm2]; exact bne_self_eq_false _
              clear he hm1 hm2
              go_wp2_with fail
              go_meet
              exact ⟨rfl, HL.out⟩
            · have e1 : (fieldF V S T a b == fieldF V S T c d) = false := beq_eq_false_iff_ne.2 he
              clear he
              go_wp2_with fail
              go_meet
              exact ⟨rfl, HL.out⟩
          · have e0 : decide (0 ≤ fieldF V S T a b) = false := decide_eq_false h0
            clear h0
            go_wp2_with fail
            go_meet
            exact ⟨rfl, HL.out⟩
        case rest =>
          obtain ⟨rfl, hL⟩ := hcut
          clear HL c0 c1 c2 z
          have HL := Lib.hid hL
          clear hL
          obtain ⟨c0, c1, c2⟩ := HL.out.cells
          have z := HL.out.lt
          go_wp2_with fail
          have hlb := HLB.out
          go_region_held3 (LB w V S T) (first | (with_reducible assumption) | (with_reducible exact HL.out.drew) | (with_reducible exact LB.later (by assumption) hb))
            (first
              | (go_at_call 28; ((with_reducible refine (head_yes V S T a b H.out _).mono ?_); rintro e w' ⟨rfl, hb⟩))
              | (go_at_call 28; ((with_reducible refine (head_yes V S T c d H.out _).mono ?_); rintro e w' ⟨rfl, hb⟩)))
          have HN := Lib.hid ‹LB w V S T _›
          clear HL hlb c0 c1 c2 z
          have HL := HN
          clear HN
          obtain ⟨c0, c1, c2⟩ := HL.out.cells
          have z := HL.out.lt
          by_cases h0 : 0 ≤ headF V S T a b
          · by_cases he : headF V S T a b = headF V S T c d
            · obtain ⟨hm1, hm2⟩ := head_inj' H.out h0 he
              have e1 : (headF V S T a b != headF V S T c d) = false := by rw [he]; exact bne_self_eq_false _
              have q1 : (a == c) = true := beq_iff_eq.2 hm1
              have q2 : (b == d) = true := beq_iff_eq.2 hm2
              clear he hm1 hm2
              go_wp2_with fail
              refine (awakeL_any _).mono ?_; rintro e w9 ⟨rfl, b9⟩
              have HN := Lib.hid (HL.out.later b9)
              clear HL c0 c1 c2 z b9
              go_wp2_with fail
              go_ret
              exact ⟨rfl, HN.out.end_⟩
            · have e1 : (headF V S T a b != headF V S T c d) = true := bne_iff_ne.2 he
              clear he
              go_wp2_with fail
              refine (awakeL_any _).mono ?_; rintro e w9 ⟨rfl, b9⟩
              have HN := Lib.hid (HL.out.later b9)
              clear HL c0 c1 c2 z b9
              go_wp2_with fail
              go_ret
              exact ⟨rfl, HN.out.end_⟩
          · have e0 : headF V S T a b < 0 := by omega
            clear h0
            go_wp2_with fail
            refine (awakeL_any _).mono ?_; rintro e w9 ⟨rfl, b9⟩
            have HN := Lib.hid (HL.out.later b9)
            clear HL c0 c1 c2 z b9
            go_wp2_with fail
            go_ret
            exact ⟨rfl, HN.out.end_⟩

theorem layApart_walk (V S T a b c d : Int) (ha1 : -9223372036854775808 ≤ a) (ha2 : a ≤ 9223372036854775807) (_hb1 : -9223372036854775808 ≤ b) (_hb2 : b ≤ 9223372036854775807) (hc1 : -9223372036854775808 ≤ c) (hc2 : c ≤ 9223372036854775807) (_hd1 : -9223372036854775808 ≤ d) (_hd2 : d ≤ 9223372036854775807) (w : World) :
    Calls Try.prog 6 #[vL V S T, .agg #[.int .i64 a, .int .i64 b, .int .i64 c, .int .i64 d]] w fun e w' => e = .returned (.bool true) ∧ Below w.heap.size w w' := by
  cases hr : rtB V S T
  · exact layApart_no V S T a b c d w hr
  · exact layApart_yes V S T a b c d w (rtB_yes hr) ha1 ha2 hc1 hc2
end Go.Proofs.Ytflcddjoeadngaa
