/- Walk of LayNodes. Printed by wip/tools/layln.py. -/
import Derived.Test.YtflcddjoeadngaaLayH
namespace Go.Proofs.Ytflcddjoeadngaa
open Go.RowKit

set_option maxRecDepth 100000 in
set_option maxHeartbeats 4000000 in
theorem layNodes_no (V S T : Int) (x : Int) (w : World) (hr : rtB V S T = false) :
    Calls Try.prog 3 #[vL V S T, .int .i64 x] w fun e w' => e = .returned (.bool true) ∧ Below w.heap.size w w' := by
  have hR := Lib.hid hr; clear hr
  have hlb : ∀ W, LB w V S T W → W.cell? ⟨w.heap.size, 0, none⟩ = some (.int .i64 V) ∧ W.cell? ⟨w.heap.size, 1, none⟩ = some (.int .i64 S) ∧ W.cell? ⟨w.heap.size, 2, none⟩ = some (.int .i64 T) := fun W h => h.cells
  have HLB := Lib.hid hlb
  clear hlb
  go_enter Try.func3, Try.ntmps3
  go_wp2_with fail
  have hlb := HLB.out
  have HL := Lib.hid (LB.start w V S T)
  go_region_held3 (LB w V S T) (first | (with_reducible assumption) | (with_reducible exact HL.out.drew) | (with_reducible exact LB.later (by assumption) hb))
    (first
      | (go_at_call 8; refine (isB (right_any V S T _) (v' := false) hR.out).mono ?_; rintro e w' ⟨rfl, hb⟩)
      | (go_at_call 10; refine (ref_any V S T _).mono ?_; rintro e w' ⟨rfl, hb⟩)
      | (go_at_call 9; refine (isB (rright_any V S T _) (v' := false) hR.out).mono ?_; rintro e w' ⟨rfl, hb⟩))
  have HN := Lib.hid ‹LB w V S T _›
  clear HL hlb
  have HL := HN
  clear HN
  obtain ⟨c0, c1, c2⟩ := HL.out.cells
  have z := HL.out.lt
  go_wp2_with fail
  refine (ref_any V S T _).mono ?_; rintro e w1 ⟨rfl, b⟩
  have HN := Lib.hid (HL.out.later b)
  clear HL c0 c1 c2 z b
  have HL := HN
  clear HN
  obtain ⟨c0, c1, c2⟩ := HL.out.cells
  have z := HL.out.lt
  go_wp2_with fail
  refine (isB (rright_any V S T _) (v' := false) hR.out).mono ?_; rintro e w2 ⟨rfl, b⟩
  have HN := Lib.hid (HL.out.later b)
  clear HL c0 c1 c2 z b
  have HL := HN
  clear HN
  obtain ⟨c0, c1, c2⟩ := HL.out.cells
  have z := HL.out.lt
  go_wp2_with fail
  refine (awakeL_any _).mono ?_; rintro e w3 ⟨rfl, b⟩
  have HN := Lib.hid (HL.out.later b)
  clear HL c0 c1 c2 z b
  have HL := HN
  clear HN
  obtain ⟨c0, c1, c2⟩ := HL.out.cells
  have z := HL.out.lt
  go_wp2_with fail
  go_ret
  exact ⟨rfl, HL.out.end_⟩

set_option maxRecDepth 100000 in
set_option maxHeartbeats 4000000 in
theorem layNodes_yes (V S T : Int) (x : Int) (w : World) (h : Rt V S T) :
    Calls Try.prog 3 #[vL V S T, .int .i64 x] w fun e w' => e = .returned (.bool true) ∧ Below w.heap.size w w' := by
  have hR := Lib.hid h.yes
  have H := Lib.hid h
  have HZ := Lib.hid (sizes h)
  have hnn : (((nd V S).toNat : Nat) : Int) = nd V S := by have := (sizes h).nd1; omega
  clear h
  have hlb : ∀ W, LB w V S T W → W.cell? ⟨w.heap.size, 0, none⟩ = some (.int .i64 V) ∧ W.cell? ⟨w.heap.size, 1, none⟩ = some (.int .i64 S) ∧ W.cell? ⟨w.heap.size, 2, none⟩ = some (.int .i64 T) := fun W h => h.cells
  have HLB := Lib.hid hlb
  clear hlb
  go_enter Try.func3, Try.ntmps3
  go_wp2_with fail
  have hlb := HLB.out
  have HL := Lib.hid (LB.start w V S T)
  go_region_held3 (LB w V S T) (first | (with_reducible assumption) | (with_reducible exact HL.out.drew) | (with_reducible exact LB.later (by assumption) hb))
    (first
      | (go_at_call 8; refine (isB (right_any V S T _) (v' := true) hR.out).mono ?_; rintro e w' ⟨rfl, hb⟩)
      | (go_at_call 10; refine (ref_any V S T _).mono ?_; rintro e w' ⟨rfl, hb⟩)
      | (go_at_call 9; refine (isB (rright_any V S T _) (v' := true) hR.out).mono ?_; rintro e w' ⟨rfl, hb⟩))
  have HN := Lib.hid ‹LB w V S T _›
  clear HL hlb
  have HL := HN
  clear HN
  obtain ⟨c0, c1, c2⟩ := HL.out.cells
  have z := HL.out.lt
  go_wp2_with fail
  refine (ref_any V S T _).mono ?_; rintro e w1 ⟨rfl, b⟩
  have HN := Lib.hid (HL.out.later b)
  clear HL c0 c1 c2 z b
  have HL := HN
  clear HN
  obtain ⟨c0, c1, c2⟩ := HL.out.cells
  have z := HL.out.lt
  go_wp2_with fail
  refine (isB (rright_any V S T _) (v' := true) hR.out).mono ?_; rintro e w2 ⟨rfl, b⟩
  have HN := Lib.hid (HL.out.later b)
  clear HL c0 c1 c2 z b
  have HL := HN
  clear HN
  obtain ⟨c0, c1, c2⟩ := HL.out.cells
  have z := HL.out.lt
  go_wp2_with fail
  refine (ref_any V S T _).mono ?_; rintro e w3 ⟨rfl, b⟩
  have HN := Lib.hid (HL.out.later b)
  clear HL c0 c1 c2 z b
  have HL := HN
  clear HN
  obtain ⟨c0, c1, c2⟩ := HL.out.cells
  have z := HL.out.lt
  go_wp2_with fail
  refine (rnodes_yes V S T H.out _).mono ?_; rintro e w9 ⟨g, cap, f, rfl, hcap, hg0, hg1, hall, b⟩
  have HA := Lib.hid fun k hk => (hall k hk).2
  have HN : Hid (LR w V S T g (nd V S).toNat f w9) := Lib.hid ⟨HL.out.later b, hg1, fun k hk => (hall k hk).1⟩
  clear hall HL c0 c1 c2 z b hg0 hg1
  have HL := HN
  clear HN
  obtain ⟨c0, c1, c2⟩ := HL.out.cells
  have z := HL.out.lt
  go_wp2_with fail
  have hlb := fun W (h : LR w V S T g (nd V S).toNat f W) => h.cells
  go_region_held3 (LR w V S T g (nd V S).toNat f) (first | (with_reducible assumption) | (with_reducible exact HL.out.drew) | (with_reducible exact LR.later (by assumption) hb))
    (first
      | (go_at_call 13; refine (levels_yes V S T H.out _).mono ?_; rintro e w' ⟨rfl, hb⟩)
      | (go_at_call 10; refine (ref_any V S T _).mono ?_; rintro e w' ⟨rfl, hb⟩)
      | (go_at_call 14; refine (rlevels_yes V S T H.out _).mono ?_; rintro e w' ⟨rfl, hb⟩)
      | (go_at_call 15; refine (nodes_yes V S T H.out _).mono ?_; rintro e w' ⟨rfl, hb⟩))
  have HN := Lib.hid ‹LR w V S T g (nd V S).toNat f _›
  clear HL hlb c0 c1 c2 z
  have HL := HN
  clear HN
  obtain ⟨c0, c1, c2⟩ := HL.out.cells
  have z := HL.out.lt
  go_wp2_with fail
  go_loopw [43] (fun i wr => ∃ k : Nat, k ≤ (nd V S).toNat ∧ i = .int .i64 k ∧ LR w V S T g (nd V S).toNat f wr) (fun i _ => (nd V S).toNat - (intOf i).toNat)
  case atStart => exact ⟨0, Nat.zero_le _, rfl, HL.out⟩
  case round =>
    clear HL c0 c1 c2 z
    obtain ⟨k, hk, rfl, hL⟩ := hrel
    have HL := Lib.hid hL
    clear hL
    obtain ⟨c0, c1, c2⟩ := HL.out.cells
    have z := HL.out.lt
    by_cases hlt : k < (nd V S).toNat
    · have hn := HL.out.2.2 k hlt
      have hP := HA.out k hlt
      have k560 : (k : Int) ≤ 560 := by have := HZ.out.nd2; omega
      generalize f k = m at hn hP
      obtain ⟨mk, ma, mb, mc⟩ := m
      obtain ⟨q0, q1, q2, q3⟩ := hn
      simp only at q0 q1 q2 q3
      rcases hP with ⟨e1, e2, p1, p2, p3, p4, p5⟩ | ⟨e1, p1, p2, p3, p4, p6, p5⟩
      · simp only at e1 e2 p1 p2 p3 p4 p5
        subst e1 e2
        have HP := Lib.hid p5
        clear p5
        go_wp2_with fail
        refine (node_1 V S T ma mb H.out p1 p2 p3 p4 k HP.out _).mono ?_; rintro e w2 ⟨rfl, b⟩
        have HT := Lib.hid (LT.start (th := #[.bool false, .int .i64 ma, .int .i64 mb, .int .i64 0, .int .i64 0]) (nm := ⟨1, ma, mb, 0⟩) ((HL.out.alloc _).later b) ((Blk.new wr _ _).below b (by simp)))
        have o1 : w.heap.size < w2.heap.size := by have := b.size; simp at this; omega
        have o2 : g < w2.heap.size := by have := b.size; have := HL.out.2.1; simp at *; omega
        have o3 : wr.heap.size < w2.heap.size := by have := b.size; simp at this; omega
        have hsz : ∀ o, (w2.alloc o).heap.size = w2.heap.size + 1 := by intro o; simp
        clear c0 c1 c2 z q0 q1 q2 q3 HL b
        have hlb := fun W (h : LT w V S T g (nd V S).toNat f wr.heap.size ⟨1, ma, mb, 0⟩ w2.heap.size #[.bool false, .int .i64 ma, .int .i64 mb, .int .i64 0, .int .i64 0] W) => h.cells
        have hz5 := zAt5
        go_wp2_with fail
        go_region_held3 (LT w V S T g (nd V S).toNat f wr.heap.size ⟨1, ma, mb, 0⟩ w2.heap.size #[.bool false, .int .i64 ma, .int .i64 mb, .int .i64 0, .int .i64 0]) (first | (with_reducible assumption) | (with_reducible exact HT.out.drew) | (with_reducible exact LT.later (by assumption) hb) | (with_reducible exact LT.alloc (by assumption) _) | (with_reducible exact (LT.alloc HT.out _).drew) | (with_reducible exact LT.alloc HQ.out _) | (with_reducible exact LT.far5 (by omega) (by omega) (by omega) (by omega) _ _ _ _ _ (by assumption)))
          (first | (go_at_call 17; refine (vertex_is V S T ma mb H.out p1 p2 p3 p4 k HP.out _).mono ?_; rintro e w' ⟨rfl, hb⟩; have HQ := Lib.hid (LT.later (by assumption) hb); have hb0 := hb.size; have hth := there_fresh hb; (try simp only [hsz] at hth)))
        all_goals
          have HE := Lib.hid ‹LT w V S T g (nd V S).toNat f wr.heap.size ⟨1, ma, mb, 0⟩ w2.heap.size #[.bool false, .int .i64 ma, .int .i64 mb, .int .i64 0, .int .i64 0] _›
          clear HT hlb hsz
          obtain ⟨_, _, _, q0, q1, q2, q3⟩ := HE.out.cells
          obtain ⟨t0, t1, t2, t3, t4⟩ := HE.out.thing
          go_wp2_with fail
          go_roundw
          case rel => exact ⟨k + 1, by omega, by go_num, HE.out.1⟩
          case measure => simp [intOf]; omega
      · simp only at e1 p1 p2 p3 p4 p6 p5
        subst e1
        have HP := Lib.hid p5
        clear p5
        go_wp2_with fail
        refine (node_2 V S T ma mb mc H.out p1 p2 p3 p4 p6 k HP.out _).mono ?_; rintro e w2 ⟨rfl, b⟩
        have HT := Lib.hid (LT.start (th := #[.bool true, .int .i64 mb, .int .i64 0, .int .i64 ma, .int .i64 mc]) (nm := ⟨2, ma, mb, mc⟩) ((HL.out.alloc _).later b) ((Blk.new wr _ _).below b (by simp)))
        have o1 : w.heap.size < w2.heap.size := by have := b.size; simp at this; omega
        have o2 : g < w2.heap.size := by have := b.size; have := HL.out.2.1; simp at *; omega
        have o3 : wr.heap.size < w2.heap.size := by have := b.size; simp at this; omega
        have hsz : ∀ o, (w2.alloc o).heap.size = w2.heap.size + 1 := by intro o; simp
        clear c0 c1 c2 z q0 q1 q2 q3 HL b
        have hlb := fun W (h : LT w V S T g (nd V S).toNat f wr.heap.size ⟨2, ma, mb, mc⟩ w2.heap.size #[.bool true, .int .i64 mb, .int .i64 0, .int .i64 ma, .int .i64 mc] W) => h.cells
        have hz5 := zAt5
        go_wp2_with fail
        go_region_held3 (LT w V S T g (nd V S).toNat f wr.heap.size ⟨2, ma, mb, mc⟩ w2.heap.size #[.bool true, .int .i64 mb, .int .i64 0, .int .i64 ma, .int .i64 mc]) (first | (with_reducible assumption) | (with_reducible exact HT.out.drew) | (with_reducible exact LT.later (by assumption) hb) | (with_reducible exact LT.alloc (by assumption) _) | (with_reducible exact (LT.alloc HT.out _).drew) | (with_reducible exact LT.alloc HQ.out _) | (with_reducible exact LT.far5 (by omega) (by omega) (by omega) (by omega) _ _ _ _ _ (by assumption)))
          (first | (go_at_call 17; refine (vertex_yes V S T ma mb H.out _).mono ?_; rintro e w' ⟨rfl, hb⟩; have HQ := Lib.hid (LT.later (by assumption) hb); have hb0 := hb.size; have hth := there_fresh hb; (try simp only [hsz] at hth)))
        · have HE := Lib.hid ‹LT w V S T g (nd V S).toNat f wr.heap.size ⟨2, ma, mb, mc⟩ w2.heap.size #[.bool true, .int .i64 mb, .int .i64 0, .int .i64 ma, .int .i64 mc] _›
          have HW := Lib.hid (LQ.mk_ HE.out (there_new w' _ _ _ _ _ _) (by simp) HQ.out.1.lt HQ.out.1.2.1 HQ.out.2.1.lt HQ.out.2.2.lt)
          clear HT hlb hsz HQ
          obtain ⟨_, _, _, q0, q1, q2, q3⟩ := HE.out.cells
          clear HE
          have hlb := fun W (h : LQ w V S T g (nd V S).toNat f wr.heap.size ⟨2, ma, mb, mc⟩ w2.heap.size #[.bool true, .int .i64 mb, .int .i64 0, .int .i64 ma, .int .i64 mc] w'.heap.size W) => h.cells
          go_wp2_with fail
          clear q0 q1 q2 q3
          go_region_held3 (LQ w V S T g (nd V S).toNat f wr.heap.size ⟨2, ma, mb, mc⟩ w2.heap.size #[.bool true, .int .i64 mb, .int .i64 0, .int .i64 ma, .int .i64 mc] w'.heap.size) (first | (with_reducible assumption) | (with_reducible exact HW.out.drew) | (with_reducible exact LQ.later (by assumption) hb) | (with_reducible exact LQ.far5 _ _ _ _ _ (by assumption)))
            (first | (go_at_call 18; refine (arc_is V S T ma mb mc H.out p1 p2 p3 p4 p6 k HP.out _).mono ?_; rintro e w3 ⟨rfl, hb⟩; have hth2 := (LQ.later (by assumption) hb).2.1))
          have HE := Lib.hid ‹LQ w V S T g (nd V S).toNat f wr.heap.size ⟨2, ma, mb, mc⟩ w2.heap.size #[.bool true, .int .i64 mb, .int .i64 0, .int .i64 ma, .int .i64 mc] w'.heap.size _›
          clear HW hlb
          obtain ⟨_, _, _, q0, q1, q2, q3⟩ := HE.out.cells
          obtain ⟨t0, t1, t2, t3, t4⟩ := HE.out.1.thing
          go_wp2_with fail
          go_roundw
          case rel => exact ⟨k + 1, by omega, by go_num, HE.out.1.1⟩
          case measure => simp [intOf]; omega
        · have HE := Lib.hid ‹LT w V S T g (nd V S).toNat f wr.heap.size ⟨2, ma, mb, mc⟩ w2.heap.size #[.bool true, .int .i64 mb, .int .i64 0, .int .i64 ma, .int .i64 mc] _›
          have HW := Lib.hid (LQ.mk_ HE.out (World.there_setCells hth (w2.heap.size + 1) 0 [_, _, _, _, _]) (by have h0 := hb0; simp at h0; simp [World.setCell]; omega) (by omega) (by omega) (by omega) (by omega))
          clear HT hlb hsz HQ
          obtain ⟨_, _, _, q0, q1, q2, q3⟩ := HE.out.cells
          clear HE
          have hlb := fun W (h : LQ w V S T g (nd V S).toNat f wr.heap.size ⟨2, ma, mb, mc⟩ w2.heap.size #[.bool true, .int .i64 mb, .int .i64 0, .int .i64 ma, .int .i64 mc] (w2.heap.size + 1) W) => h.cells
          go_wp2_with fail
          clear q0 q1 q2 q3
          go_region_held3 (LQ w V S T g (nd V S).toNat f wr.heap.size ⟨2, ma, mb, mc⟩ w2.heap.size #[.bool true, .int .i64 mb, .int .i64 0, .int .i64 ma, .int .i64 mc] (w2.heap.size + 1)) (first | (with_reducible assumption) | (with_reducible exact HW.out.drew) | (with_reducible exact LQ.later (by assumption) hb) | (with_reducible exact LQ.far5 _ _ _ _ _ (by assumption)))
            (first | (go_at_call 18; refine (arc_is V S T ma mb mc H.out p1 p2 p3 p4 p6 k HP.out _).mono ?_; rintro e w3 ⟨rfl, hb⟩; have hth2 := (LQ.later (by assumption) hb).2.1))
          have HE := Lib.hid ‹LQ w V S T g (nd V S).toNat f wr.heap.size ⟨2, ma, mb, mc⟩ w2.heap.size #[.bool true, .int .i64 mb, .int .i64 0, .int .i64 ma, .int .i64 mc] (w2.heap.size + 1) _›
          clear HW hlb
          obtain ⟨_, _, _, q0, q1, q2, q3⟩ := HE.out.cells
          obtain ⟨t0, t1, t2, t3, t4⟩ := HE.out.1.thing
          go_wp2_with fail
          go_roundw
          case rel => exact ⟨k + 1, by omega, by go_num, HE.out.1.1⟩
          case measure => simp [intOf]; omega
    · have hkn : k = (nd V S).toNat := by omega
      subst hkn
      rcases Int.lt_or_le x 1 with hx | hx
      · go_wp2_with fail
        refine (node_low V S T x hx _).mono ?_; rintro e w2 ⟨rfl, b⟩
        have HN := Lib.hid (HL.out.later b)
        clear HL c0 c1 c2 z b
        go_wp2_with fail
        refine (awakeL_any _).mono ?_; rintro e w3 ⟨rfl, b⟩
        go_wp2_with fail
        go_ret
        exact ⟨rfl, keepL (HN.out.end_.alloc (Nat.le_of_lt HN.out.lt) _) b (by have := HN.out.lt; simp; omega)⟩
      · rcases Int.lt_or_le (nd V S) x with hx2 | hx2
        · have hx3 : decide (x ≤ nd V S) = false := decide_eq_false (by omega)
          go_wp2_with fail
          refine (node_high V S T x H.out hx2 _).mono ?_; rintro e w2 ⟨rfl, b⟩
          have HN := Lib.hid (HL.out.later b)
          clear HL c0 c1 c2 z b
          go_wp2_with fail
          refine (awakeL_any _).mono ?_; rintro e w3 ⟨rfl, b⟩
          go_wp2_with fail
          go_ret
          exact ⟨rfl, keepL (HN.out.end_.alloc (Nat.le_of_lt HN.out.lt) _) b (by have := HN.out.lt; simp; omega)⟩
        · go_wp2_with fail
          refine (node_in V S T x H.out hx hx2 _).mono ?_; rintro e w2 ⟨ta, tl, tv, ts, td, rfl, b⟩
          have HN := Lib.hid (HL.out.later b)
          clear HL c0 c1 c2 z b
          go_wp2_with fail
          refine (awakeL_any _).mono ?_; rintro e w3 ⟨rfl, b⟩
          go_wp2_with fail
          go_ret
          exact ⟨rfl, keepL (HN.out.end_.alloc (Nat.le_of_lt HN.out.lt) _) b (by have := HN.out.lt; simp; omega)⟩

end Go.Proofs.Ytflcddjoeadngaa
