/- Walk of LayNowhere. Printed by wip/tools/laylnow2.py. -/
import Derived.Test.YtflcddjoeadngaaLayJ
namespace Go.Proofs.Ytflcddjoeadngaa
open Go.RowKit
section
variable {V S T a b : Int}
theorem state_okA (h : Rt V S T) : 1 ≤ a → okB (cn V S T) (stateF T a) (decide (a ≤ T)) = true := fun x => by have := state_ok (a := a) h; rwa [decide_eq_true x, Bool.true_and] at this
theorem state_okB (h : Rt V S T) : a < 1 → okB (cn V S T) (stateF T a) false = true := fun x => by have := state_ok (a := a) h; rwa [decide_eq_false (show ¬ 1 ≤ a by omega), Bool.false_and] at this
theorem side_okA (h : Rt V S T) {f : Int} (f0 : 0 ≤ f) (f1 : f < 6) : inB S a = true → okB (cn V S T) (slotF S T a (sideF f b)) (sideB b) = true := fun x => by have := side_ok (a := a) (b := b) h f0 f1; rwa [x, Bool.true_and] at this
theorem side_okB (h : Rt V S T) {f : Int} (f0 : 0 ≤ f) (f1 : f < 6) : inB S a = false → okB (cn V S T) (slotF S T a (sideF f b)) false = true := fun x => by have := side_ok (a := a) (b := b) h f0 f1; rwa [x, Bool.false_and] at this
theorem head_okA (h : Rt V S T) : inB V a = true → okB (cn V S T) (headF V S T a b) (inB (lv V) b) = true := fun x => by have := head_ok (a := a) (b := b) h; rwa [x, Bool.true_and] at this
theorem head_okB (h : Rt V S T) : inB V a = false → okB (cn V S T) (headF V S T a b) false = true := fun x => by have := head_ok (a := a) (b := b) h; rwa [x, Bool.false_and] at this
theorem edge_okA (h : Rt V S T) : ¬ a = b → inB V a = true → okB (cn V S T) (edgeF V S T a b) (inB V b) = true := fun n x => by have := edge_ok (a := a) (b := b) h n; rwa [x, Bool.true_and] at this
theorem edge_okB (h : Rt V S T) : ¬ a = b → inB V a = false → okB (cn V S T) (edgeF V S T a b) false = true := fun n x => by have := edge_ok (a := a) (b := b) h n; rwa [x, Bool.false_and] at this
theorem edge_okC {V S T : Int} (a b : Int) : a = b → okB (cn V S T) (edgeF V S T a b) false = true := fun n => by subst n; exact edge_same a
theorem field_okA (h : Rt V S T) : 1 ≤ a → a ≤ nd V S → 0 ≤ b → okB (cn V S T) (fieldF V S T a b) (decide (b < 7)) = true := fun z x y => field_ok h (by rw [decide_eq_decide]; omega)
theorem field_okB (h : Rt V S T) : 1 ≤ a → a ≤ nd V S → b < 0 → okB (cn V S T) (fieldF V S T a b) false = true := fun z x y => field_ok h (by symm; rw [decide_eq_false_iff_not]; omega)
theorem field_okC (h : Rt V S T) : 1 ≤ a → nd V S < a → okB (cn V S T) (fieldF V S T a b) false = true := fun z x => field_ok h (by symm; rw [decide_eq_false_iff_not]; omega)
theorem field_okD (h : Rt V S T) : a < 1 → okB (cn V S T) (fieldF V S T a b) false = true := fun x => field_ok h (by symm; rw [decide_eq_false_iff_not]; omega)
end

set_option maxRecDepth 100000 in
set_option maxHeartbeats 16000000 in
theorem layNowhere_yes (V S T : Int) (a b : Int) (w : World) (h : Rt V S T) (b1 : -9223372036854775808 ≤ a) (b2 : a ≤ 9223372036854775807) :
    Calls Try.prog 5 #[vL V S T, .int .i64 a, .int .i64 b] w fun e w' => e = .returned (.bool true) ∧ Below w.heap.size w w' := by
  have hR := Lib.hid h.yes
  have H := Lib.hid h
  have HB1 := Lib.hid b1
  have HB2 := Lib.hid b2
  clear b1 b2 h
  have hlb : ∀ W, LB w V S T W → W.cell? ⟨w.heap.size, 0, none⟩ = some (.int .i64 V) ∧ W.cell? ⟨w.heap.size, 1, none⟩ = some (.int .i64 S) ∧ W.cell? ⟨w.heap.size, 2, none⟩ = some (.int .i64 T) := fun W h => h.cells
  have HLB := Lib.hid hlb
  clear hlb
  go_enter Try.func5, Try.ntmps5
  go_wp2_with fail
  refine (ref_any V S T _).mono ?_; rintro e w1 ⟨rfl, b⟩
  have HL := Lib.hid ((LB.start w V S T).later b)
  clear b
  obtain ⟨c0, c1, c2⟩ := HL.out.cells
  have z := HL.out.lt
  go_wp2_with fail
  refine (isB (rright_any V S T _) (v' := true) hR.out).mono ?_; rintro e w2 ⟨rfl, b⟩
  have HN := Lib.hid (HL.out.later b)
  clear HL c0 c1 c2 z b
  have HL := HN
  clear HN
  obtain ⟨c0, c1, c2⟩ := HL.out.cells
  have z := HL.out.lt
  go_wp2_with fail
  refine Code.wp_mono (Q := CutN w V S T a b) ?_ ?_
  rotate_left
  · have hlb := HLB.out
    have o3 := HL.out.lt
    have hz1 := zAt1
    go_region_held3 (LB w V S T) (first | (with_reducible assumption) | (with_reducible exact HL.out.drew) | (with_reducible exact LB.later (by assumption) hbL) | (with_reducible exact LB.later (by assumption) hbN) | (with_reducible exact LB.alloc (by assumption) _) | (with_reducible exact (LB.alloc HL.out _).drew) | (with_reducible exact LB.alloc HQ.out _) | (with_reducible exact LB.far (by assumption) (by omega) _ _))
      (first
        | (go_at_call 13; refine (levels_yes V S T H.out _).mono ?_; rintro e wL ⟨rfl, hbL⟩; have oL := (LB.later (by assumption) hbL).lt; (try have hthL := there_oneB hbL))
        | (go_at_call 15; refine (nodes_yes V S T H.out _).mono ?_; rintro e wN ⟨rfl, hbN⟩; have HQ := Lib.hid (LB.later (by assumption) hbN); (first | (have hthN := there_oneA hbN) | (have hthN := there_later hbN hthL) | skip)))
    all_goals first | exact ⟨rfl, _, rfl, LV.ofA HQ.out _⟩ | exact ⟨rfl, _, rfl, LV.ofB HQ.out hthN (by omega)⟩
  clear HL c0 c1 c2 z
  rintro _ _ W ⟨rfl, g7, rfl, hV⟩
  have HL := Lib.hid hV
  clear hV
  obtain ⟨c0, c1, c2, c7⟩ := HL.out.cells
  go_wp2_with fail
  refine (vertex_yes V S T _ _ H.out _).mono ?_; rintro e w' ⟨rfl, hb⟩; have HN := Lib.hid (HL.out.later hb); clear HL c0 c1 c2 c7 hb; have HL := HN; clear HN; obtain ⟨c0, c1, c2, c7⟩ := HL.out.cells
  rename_i Kx hKx
  refine hKx _ _ ?_
  clear hKx Kx
  refine chunk_start (fun L ops HLs HO => ?_)
  refine chunk_cut 11 (InvN w V S T a b g7 41 (.bool false)) HLs (fun L2 hcont => ?_) (fun L2 HL2 ac W hI => ?_)
  · simp only [List.take_succ_cons, List.take_zero, List.cons_append, List.nil_append]
    obtain ⟨o8, q8, r8⟩ := guard_at (ops := ops) (i := 8) (d := 35) (by rw [HO.out]; rfl)
    clear HO HLs
    have f1 := vertex_there (a := a) (b := b) H.out
    go_wp2_with (first
      | (go_at_call 33; refine (levelC _ _ _ _ c7).mono ?_; rintro e w' ⟨rfl, rfl⟩)
      | (go_at_call 31; refine (vertexC _ _ _ _ c0).mono ?_; rintro e w' ⟨rfl, rfl⟩))
    all_goals exact hcont _ _ (InvN.of (by kernel_rfl) (by kernel_rfl) HL.out)
  obtain ⟨⟨u, rfl, hu⟩, hV⟩ := hI
  rw [hu]
  clear hu
  have HLs := HL2
  clear HL2 HL c0 c1 c2 c7
  have HL := Lib.hid hV
  clear hV
  obtain ⟨c0, c1, c2, c7⟩ := HL.out.cells
  refine chunk_cut 16 (InvN w V S T a b g7 57 (.bool false)) HLs (fun L2 hcont => ?_) (fun L2 HL2 ac W hI => ?_)
  · simp only [List.drop_succ_cons, List.drop_zero, List.take_succ_cons, List.take_zero, List.cons_append, List.nil_append]
    obtain ⟨o14, q14, r14⟩ := guard_at (ops := ops) (i := 14) (d := 41) (by rw [HO.out]; rfl)
    obtain ⟨o23, q23, r23⟩ := guard_at (ops := ops) (i := 23) (d := 50) (by rw [HO.out]; rfl)
    clear HO HLs
    have f2 := arc_there (s := a) (l := b) (d := 0) H.out
    rw [sideB_0, Bool.and_true] at f2
    go_wp2_with (first
      | (go_at_call 18; refine (arc_yes V S T _ _ _ H.out _).mono ?_; rintro e w' ⟨rfl, hb⟩; have HN := Lib.hid (HL.out.later hb); clear HL c0 c1 c2 c7 hb; have HL := HN; clear HN; obtain ⟨c0, c1, c2, c7⟩ := HL.out.cells)
      | (go_at_call 32; refine (slotC _ _ _ _ c1).mono ?_; rintro e w' ⟨rfl, rfl⟩)
      | (go_at_call 33; refine (levelC _ _ _ _ c7).mono ?_; rintro e w' ⟨rfl, rfl⟩))
    all_goals exact hcont _ _ (InvN.of (by kernel_rfl) (by kernel_rfl) HL.out)
  obtain ⟨⟨u, rfl, hu⟩, hV⟩ := hI
  rw [hu]
  clear hu
  have HLs := HL2
  clear HL2 HL c0 c1 c2 c7
  have HL := Lib.hid hV
  clear hV
  obtain ⟨c0, c1, c2, c7⟩ := HL.out.cells
  refine chunk_cut 15 (InvN w V S T a b g7 72 (.bool false)) HLs (fun L2 hcont => ?_) (fun L2 HL2 ac W hI => ?_)
  · simp only [List.drop_succ_cons, List.drop_zero, List.take_succ_cons, List.take_zero, List.cons_append, List.nil_append]
    obtain ⟨o30, q30, r30⟩ := guard_at (ops := ops) (i := 30) (d := 57) (by rw [HO.out]; rfl)
    obtain ⟨o39, q39, r39⟩ := guard_at (ops := ops) (i := 39) (d := 66) (by rw [HO.out]; rfl)
    clear HO HLs
    have f3 := arc_there (s := a) (l := 0) (d := b) H.out
    rw [inB_lv0, Bool.true_and] at f3
    go_wp2_with (first
      | (go_at_call 18; refine (arc_yes V S T _ _ _ H.out _).mono ?_; rintro e w' ⟨rfl, hb⟩; have HN := Lib.hid (HL.out.later hb); clear HL c0 c1 c2 c7 hb; have HL := HN; clear HN; obtain ⟨c0, c1, c2, c7⟩ := HL.out.cells)
      | (go_at_call 32; refine (slotC _ _ _ _ c1).mono ?_; rintro e w' ⟨rfl, rfl⟩)
      | (go_at_call 34; refine (sideC _ _).mono ?_; rintro e w' ⟨rfl, rfl⟩))
    all_goals exact hcont _ _ (InvN.of (by kernel_rfl) (by kernel_rfl) HL.out)
  obtain ⟨⟨u, rfl, hu⟩, hV⟩ := hI
  rw [hu]
  clear hu
  have HLs := HL2
  clear HL2 HL c0 c1 c2 c7
  have HL := Lib.hid hV
  clear hV
  obtain ⟨c0, c1, c2, c7⟩ := HL.out.cells
  refine chunk_start (fun L3 ops3 HL3 HO3 => ?_)
  clear HO HO3
  rw [HL3.out, HLs.out]
  simp only [List.drop_succ_cons, List.drop_zero, List.drop_nil]
  clear HL3 HLs
  go_wp2_with fail
  refine (state_yes V S T _ HB1.out HB2.out H.out _).mono ?_; rintro e w' ⟨rfl, hb⟩; have HN := Lib.hid (HL.out.later hb); clear HL c0 c1 c2 c7 hb; have HL := HN; clear HN; obtain ⟨c0, c1, c2, c7⟩ := HL.out.cells
  rename_i Kx hKx
  refine hKx _ _ ?_
  clear hKx Kx
  simp only [List.append_eq, List.cons_append, List.nil_append]
  refine chunk_start (fun L ops HLs HO => ?_)
  refine chunk_cut 10 (InvN w V S T a b g7 86 (.bool true)) HLs (fun L2 hcont => ?_) (fun L2 HL2 ac W hI => ?_)
  · simp only [List.take_succ_cons, List.take_zero, List.cons_append, List.nil_append]
    obtain ⟨o6, q6, r6⟩ := guard_at (ops := ops) (i := 6) (d := 79) (by rw [HO.out]; rfl)
    clear HO HLs
    have k1 := state_okA (a := a) H.out
    have k1' := state_okB (a := a) H.out
    go_wp2_with (first
      | (go_at_call 35; refine (isC _ V S T H.out _ _ _ c0 c1 c2).mono ?_; rintro e w' ⟨rfl, hb⟩; have HN := Lib.hid (HL.out.later hb); clear HL c0 c1 c2 c7 hb; have HL := HN; clear HN; obtain ⟨c0, c1, c2, c7⟩ := HL.out.cells))
    all_goals exact hcont _ _ (InvN.of (by kernel_rfl) (by kernel_rfl) HL.out)
  obtain ⟨⟨u, rfl, hu⟩, hV⟩ := hI
  rw [hu]
  clear hu
  have HLs := HL2
  clear HL2 HL c0 c1 c2 c7
  have HL := Lib.hid hV
  clear hV
  obtain ⟨c0, c1, c2, c7⟩ := HL.out.cells
  refine chunk_cut 10 (InvN w V S T a b g7 96 (.bool true)) HLs (fun L2 hcont => ?_) (fun L2 HL2 ac W hI => ?_)
  · simp only [List.drop_succ_cons, List.drop_zero, List.take_succ_cons, List.take_zero, List.cons_append, List.nil_append]
    obtain ⟨o13, q13, r13⟩ := guard_at (ops := ops) (i := 13) (d := 86) (by rw [HO.out]; rfl)
    clear HO HLs
    have k2 := slot_ok (a := a) H.out (k := 0) (by omega) (by omega)
    go_wp2_with (first
      | (go_at_call 23; refine (nextFree_yes V S T _ H.out _).mono ?_; rintro e w' ⟨rfl, hb⟩; have HN := Lib.hid (HL.out.later hb); clear HL c0 c1 c2 c7 hb; have HL := HN; clear HN; obtain ⟨c0, c1, c2, c7⟩ := HL.out.cells)
      | (go_at_call 32; refine (slotC _ _ _ _ c1).mono ?_; rintro e w' ⟨rfl, rfl⟩)
      | (go_at_call 35; refine (isC _ V S T H.out _ _ _ c0 c1 c2).mono ?_; rintro e w' ⟨rfl, hb⟩; have HN := Lib.hid (HL.out.later hb); clear HL c0 c1 c2 c7 hb; have HL := HN; clear HN; obtain ⟨c0, c1, c2, c7⟩ := HL.out.cells))
    all_goals exact hcont _ _ (InvN.of (by kernel_rfl) (by kernel_rfl) HL.out)
  obtain ⟨⟨u, rfl, hu⟩, hV⟩ := hI
  rw [hu]
  clear hu
  have HLs := HL2
  clear HL2 HL c0 c1 c2 c7
  have HL := Lib.hid hV
  clear hV
  obtain ⟨c0, c1, c2, c7⟩ := HL.out.cells
  refine chunk_cut 10 (InvN w V S T a b g7 106 (.bool true)) HLs (fun L2 hcont => ?_) (fun L2 HL2 ac W hI => ?_)
  · simp only [List.drop_succ_cons, List.drop_zero, List.take_succ_cons, List.take_zero, List.cons_append, List.nil_append]
    obtain ⟨o23, q23, r23⟩ := guard_at (ops := ops) (i := 23) (d := 96) (by rw [HO.out]; rfl)
    clear HO HLs
    have k2 := slot_ok (a := a) H.out (k := 1) (by omega) (by omega)
    go_wp2_with (first
      | (go_at_call 24; refine (ends_yes V S T _ H.out _).mono ?_; rintro e w' ⟨rfl, hb⟩; have HN := Lib.hid (HL.out.later hb); clear HL c0 c1 c2 c7 hb; have HL := HN; clear HN; obtain ⟨c0, c1, c2, c7⟩ := HL.out.cells)
      | (go_at_call 32; refine (slotC _ _ _ _ c1).mono ?_; rintro e w' ⟨rfl, rfl⟩)
      | (go_at_call 35; refine (isC _ V S T H.out _ _ _ c0 c1 c2).mono ?_; rintro e w' ⟨rfl, hb⟩; have HN := Lib.hid (HL.out.later hb); clear HL c0 c1 c2 c7 hb; have HL := HN; clear HN; obtain ⟨c0, c1, c2, c7⟩ := HL.out.cells))
    all_goals exact hcont _ _ (InvN.of (by kernel_rfl) (by kernel_rfl) HL.out)
  obtain ⟨⟨u, rfl, hu⟩, hV⟩ := hI
  rw [hu]
  clear hu
  have HLs := HL2
  clear HL2 HL c0 c1 c2 c7
  have HL := Lib.hid hV
  clear hV
  obtain ⟨c0, c1, c2, c7⟩ := HL.out.cells
  refine chunk_cut 10 (InvN w V S T a b g7 116 (.bool true)) HLs (fun L2 hcont => ?_) (fun L2 HL2 ac W hI => ?_)
  · simp only [List.drop_succ_cons, List.drop_zero, List.take_succ_cons, List.take_zero, List.cons_append, List.nil_append]
    obtain ⟨o33, q33, r33⟩ := guard_at (ops := ops) (i := 33) (d := 106) (by rw [HO.out]; rfl)
    clear HO HLs
    have k2 := slot_ok (a := a) H.out (k := 2) (by omega) (by omega)
    go_wp2_with (first
      | (go_at_call 25; refine (level_yes V S T _ H.out _).mono ?_; rintro e w' ⟨rfl, hb⟩; have HN := Lib.hid (HL.out.later hb); clear HL c0 c1 c2 c7 hb; have HL := HN; clear HN; obtain ⟨c0, c1, c2, c7⟩ := HL.out.cells)
      | (go_at_call 32; refine (slotC _ _ _ _ c1).mono ?_; rintro e w' ⟨rfl, rfl⟩)
      | (go_at_call 35; refine (isC _ V S T H.out _ _ _ c0 c1 c2).mono ?_; rintro e w' ⟨rfl, hb⟩; have HN := Lib.hid (HL.out.later hb); clear HL c0 c1 c2 c7 hb; have HL := HN; clear HN; obtain ⟨c0, c1, c2, c7⟩ := HL.out.cells))
    all_goals exact hcont _ _ (InvN.of (by kernel_rfl) (by kernel_rfl) HL.out)
  obtain ⟨⟨u, rfl, hu⟩, hV⟩ := hI
  rw [hu]
  clear hu
  have HLs := HL2
  clear HL2 HL c0 c1 c2 c7
  have HL := Lib.hid hV
  clear hV
  obtain ⟨c0, c1, c2, c7⟩ := HL.out.cells
  refine chunk_cut 16 (InvN w V S T a b g7 132 (.bool true)) HLs (fun L2 hcont => ?_) (fun L2 HL2 ac W hI => ?_)
  · simp only [List.drop_succ_cons, List.drop_zero, List.take_succ_cons, List.take_zero, List.cons_append, List.nil_append]
    obtain ⟨o43, q43, r43⟩ := guard_at (ops := ops) (i := 43) (d := 116) (by rw [HO.out]; rfl)
    obtain ⟨o52, q52, r52⟩ := guard_at (ops := ops) (i := 52) (d := 125) (by rw [HO.out]; rfl)
    clear HO HLs
    have k5 := side_okA (a := a) (b := b) H.out (f := 3) (by omega) (by omega)
    have k5' := side_okB (a := a) (b := b) H.out (f := 3) (by omega) (by omega)
    go_wp2_with (first
      | (go_at_call 26; refine (next_yes V S T _ _ H.out _).mono ?_; rintro e w' ⟨rfl, hb⟩; have HN := Lib.hid (HL.out.later hb); clear HL c0 c1 c2 c7 hb; have HL := HN; clear HN; obtain ⟨c0, c1, c2, c7⟩ := HL.out.cells)
      | (go_at_call 32; refine (slotC _ _ _ _ c1).mono ?_; rintro e w' ⟨rfl, rfl⟩)
      | (go_at_call 34; refine (sideC _ _).mono ?_; rintro e w' ⟨rfl, rfl⟩)
      | (go_at_call 35; refine (isC _ V S T H.out _ _ _ c0 c1 c2).mono ?_; rintro e w' ⟨rfl, hb⟩; have HN := Lib.hid (HL.out.later hb); clear HL c0 c1 c2 c7 hb; have HL := HN; clear HN; obtain ⟨c0, c1, c2, c7⟩ := HL.out.cells))
    all_goals exact hcont _ _ (InvN.of (by kernel_rfl) (by kernel_rfl) HL.out)
  obtain ⟨⟨u, rfl, hu⟩, hV⟩ := hI
  rw [hu]
  clear hu
  have HLs := HL2
  clear HL2 HL c0 c1 c2 c7
  have HL := Lib.hid hV
  clear hV
  obtain ⟨c0, c1, c2, c7⟩ := HL.out.cells
  refine chunk_cut 16 (InvN w V S T a b g7 148 (.bool true)) HLs (fun L2 hcont => ?_) (fun L2 HL2 ac W hI => ?_)
  · simp only [List.drop_succ_cons, List.drop_zero, List.take_succ_cons, List.take_zero, List.cons_append, List.nil_append]
    obtain ⟨o59, q59, r59⟩ := guard_at (ops := ops) (i := 59) (d := 132) (by rw [HO.out]; rfl)
    obtain ⟨o68, q68, r68⟩ := guard_at (ops := ops) (i := 68) (d := 141) (by rw [HO.out]; rfl)
    clear HO HLs
    have k5 := side_okA (a := a) (b := b) H.out (f := 5) (by omega) (by omega)
    have k5' := side_okB (a := a) (b := b) H.out (f := 5) (by omega) (by omega)
    go_wp2_with (first
      | (go_at_call 27; refine (prev_yes V S T _ _ H.out _).mono ?_; rintro e w' ⟨rfl, hb⟩; have HN := Lib.hid (HL.out.later hb); clear HL c0 c1 c2 c7 hb; have HL := HN; clear HN; obtain ⟨c0, c1, c2, c7⟩ := HL.out.cells)
      | (go_at_call 32; refine (slotC _ _ _ _ c1).mono ?_; rintro e w' ⟨rfl, rfl⟩)
      | (go_at_call 34; refine (sideC _ _).mono ?_; rintro e w' ⟨rfl, rfl⟩)
      | (go_at_call 35; refine (isC _ V S T H.out _ _ _ c0 c1 c2).mono ?_; rintro e w' ⟨rfl, hb⟩; have HN := Lib.hid (HL.out.later hb); clear HL c0 c1 c2 c7 hb; have HL := HN; clear HN; obtain ⟨c0, c1, c2, c7⟩ := HL.out.cells))
    all_goals exact hcont _ _ (InvN.of (by kernel_rfl) (by kernel_rfl) HL.out)
  obtain ⟨⟨u, rfl, hu⟩, hV⟩ := hI
  rw [hu]
  clear hu
  have HLs := HL2
  clear HL2 HL c0 c1 c2 c7
  have HL := Lib.hid hV
  clear hV
  obtain ⟨c0, c1, c2, c7⟩ := HL.out.cells
  refine chunk_cut 16 (InvN w V S T a b g7 164 (.bool true)) HLs (fun L2 hcont => ?_) (fun L2 HL2 ac W hI => ?_)
  · simp only [List.drop_succ_cons, List.drop_zero, List.take_succ_cons, List.take_zero, List.cons_append, List.nil_append]
    obtain ⟨o75, q75, r75⟩ := guard_at (ops := ops) (i := 75) (d := 148) (by rw [HO.out]; rfl)
    obtain ⟨o84, q84, r84⟩ := guard_at (ops := ops) (i := 84) (d := 157) (by rw [HO.out]; rfl)
    clear HO HLs
    have k7 := head_okA (a := a) (b := b) H.out
    have k7' := head_okB (a := a) (b := b) H.out
    go_wp2_with (first
      | (go_at_call 28; refine (head_yes V S T _ _ H.out _).mono ?_; rintro e w' ⟨rfl, hb⟩; have HN := Lib.hid (HL.out.later hb); clear HL c0 c1 c2 c7 hb; have HL := HN; clear HN; obtain ⟨c0, c1, c2, c7⟩ := HL.out.cells)
      | (go_at_call 31; refine (vertexC _ _ _ _ c0).mono ?_; rintro e w' ⟨rfl, rfl⟩)
      | (go_at_call 33; refine (levelC _ _ _ _ c7).mono ?_; rintro e w' ⟨rfl, rfl⟩)
      | (go_at_call 35; refine (isC _ V S T H.out _ _ _ c0 c1 c2).mono ?_; rintro e w' ⟨rfl, hb⟩; have HN := Lib.hid (HL.out.later hb); clear HL c0 c1 c2 c7 hb; have HL := HN; clear HN; obtain ⟨c0, c1, c2, c7⟩ := HL.out.cells))
    all_goals exact hcont _ _ (InvN.of (by kernel_rfl) (by kernel_rfl) HL.out)
  obtain ⟨⟨u, rfl, hu⟩, hV⟩ := hI
  rw [hu]
  clear hu
  have HLs := HL2
  clear HL2 HL c0 c1 c2 c7
  have HL := Lib.hid hV
  clear hV
  obtain ⟨c0, c1, c2, c7⟩ := HL.out.cells
  refine chunk_cut 21 (InvN w V S T a b g7 185 (.bool true)) HLs (fun L2 hcont => ?_) (fun L2 HL2 ac W hI => ?_)
  · simp only [List.drop_succ_cons, List.drop_zero, List.take_succ_cons, List.take_zero, List.cons_append, List.nil_append]
    obtain ⟨o91, q91, r91⟩ := guard_at (ops := ops) (i := 91) (d := 164) (by rw [HO.out]; rfl)
    obtain ⟨o100, q100, r100⟩ := guard_at (ops := ops) (i := 100) (d := 173) (by rw [HO.out]; rfl)
    obtain ⟨o105, q105, r105⟩ := guard_at (ops := ops) (i := 105) (d := 178) (by rw [HO.out]; rfl)
    clear HO HLs
    by_cases hab : a = b
    · subst hab
      have m7 := edge_same (V := V) (S := S) (T := T) a
      go_wp2_with (first
        | (go_at_call 29; refine (edge_yes V S T _ _ H.out _).mono ?_; rintro e w' ⟨rfl, hb⟩; have HN := Lib.hid (HL.out.later hb); clear HL c0 c1 c2 c7 hb; have HL := HN; clear HN; obtain ⟨c0, c1, c2, c7⟩ := HL.out.cells)
        | (go_at_call 31; refine (vertexC _ _ _ _ c0).mono ?_; rintro e w' ⟨rfl, rfl⟩)
        | (go_at_call 35; refine (isC _ V S T H.out _ _ _ c0 c1 c2).mono ?_; rintro e w' ⟨rfl, hb⟩; have HN := Lib.hid (HL.out.later hb); clear HL c0 c1 c2 c7 hb; have HL := HN; clear HN; obtain ⟨c0, c1, c2, c7⟩ := HL.out.cells))
      all_goals exact hcont _ _ (InvN.of (by kernel_rfl) (by kernel_rfl) HL.out)
    · have e1 : (a == b) = false := beq_eq_false_iff_ne.2 hab
      have e2 : (a != b) = true := bne_iff_ne.2 hab
      have k8 := edge_okA (a := a) (b := b) H.out hab
      have k8' := edge_okB (a := a) (b := b) H.out hab
      have HAB := Lib.hid hab
      clear hab
      go_wp2_with (first
        | (go_at_call 29; refine (edge_yes V S T _ _ H.out _).mono ?_; rintro e w' ⟨rfl, hb⟩; have HN := Lib.hid (HL.out.later hb); clear HL c0 c1 c2 c7 hb; have HL := HN; clear HN; obtain ⟨c0, c1, c2, c7⟩ := HL.out.cells)
        | (go_at_call 31; refine (vertexC _ _ _ _ c0).mono ?_; rintro e w' ⟨rfl, rfl⟩)
        | (go_at_call 35; refine (isC _ V S T H.out _ _ _ c0 c1 c2).mono ?_; rintro e w' ⟨rfl, hb⟩; have HN := Lib.hid (HL.out.later hb); clear HL c0 c1 c2 c7 hb; have HL := HN; clear HN; obtain ⟨c0, c1, c2, c7⟩ := HL.out.cells))
      all_goals exact hcont _ _ (InvN.of (by kernel_rfl) (by kernel_rfl) HL.out)
  obtain ⟨⟨u, rfl, hu⟩, hV⟩ := hI
  rw [hu]
  clear hu
  have HLs := HL2
  clear HL2 HL c0 c1 c2 c7
  have HL := Lib.hid hV
  clear hV
  obtain ⟨c0, c1, c2, c7⟩ := HL.out.cells
  refine chunk_cut 23 (InvN w V S T a b g7 208 (.bool true)) HLs (fun L2 hcont => ?_) (fun L2 HL2 ac W hI => ?_)
  · simp only [List.drop_succ_cons, List.drop_zero, List.take_succ_cons, List.take_zero, List.cons_append, List.nil_append]
    obtain ⟨o112, q112, r112⟩ := guard_at (ops := ops) (i := 112) (d := 185) (by rw [HO.out]; rfl)
    obtain ⟨o120, q120, r120⟩ := guard_at (ops := ops) (i := 120) (d := 193) (by rw [HO.out]; rfl)
    obtain ⟨o125, q125, r125⟩ := guard_at (ops := ops) (i := 125) (d := 198) (by rw [HO.out]; rfl)
    obtain ⟨o129, q129, r129⟩ := guard_at (ops := ops) (i := 129) (d := 202) (by rw [HO.out]; rfl)
    clear HO HLs
    have k9 := field_okA (a := a) (b := b) H.out
    have k10 := field_okB (a := a) (b := b) H.out
    have k11 := field_okC (a := a) (b := b) H.out
    have k12 := field_okD (a := a) (b := b) H.out
    go_wp2_with (first
      | (go_at_call 30; refine (field_yes V S T _ _ H.out HB1.out HB2.out _).mono ?_; rintro e w' ⟨rfl, hb⟩; have HN := Lib.hid (HL.out.later hb); clear HL c0 c1 c2 c7 hb; have HL := HN; clear HN; obtain ⟨c0, c1, c2, c7⟩ := HL.out.cells)
      | (go_at_call 35; refine (isC _ V S T H.out _ _ _ c0 c1 c2).mono ?_; rintro e w' ⟨rfl, hb⟩; have HN := Lib.hid (HL.out.later hb); clear HL c0 c1 c2 c7 hb; have HL := HN; clear HN; obtain ⟨c0, c1, c2, c7⟩ := HL.out.cells))
    all_goals exact hcont _ _ (InvN.of (by kernel_rfl) (by kernel_rfl) HL.out)
  obtain ⟨⟨u, rfl, hu⟩, hV⟩ := hI
  rw [hu]
  clear hu
  have HLs := HL2
  clear HL2 HL c0 c1 c2 c7
  have HL := Lib.hid hV
  clear hV
  obtain ⟨c0, c1, c2, c7⟩ := HL.out.cells
  rw [HLs.out]
  simp only [List.drop_succ_cons, List.drop_zero]
  obtain ⟨o135, q135, r135⟩ := guard_at (ops := ops) (i := 135) (d := 208) (by rw [HO.out]; rfl)
  clear HLs HO
  go_wp2_with (first
    | (go_at_call 11; refine (awakeL_any _).mono ?_; rintro e w' ⟨rfl, hb⟩; have HN := Lib.hid (HL.out.later hb); clear HL c0 c1 c2 c7 hb; have HL := HN; clear HN; obtain ⟨c0, c1, c2, c7⟩ := HL.out.cells))
  go_ret
  exact ⟨rfl, HL.out.end_⟩

theorem layNowhere_walk (V S T a : Int) (h1 : -9223372036854775808 ≤ a) (h2 : a ≤ 9223372036854775807) (b : Int) (_h3 : -9223372036854775808 ≤ b) (_h4 : b ≤ 9223372036854775807) (w : World) :
    Calls Try.prog 5 #[vL V S T, .int .i64 a, .int .i64 b] w fun e w' => e = .returned (.bool true) ∧ Below w.heap.size w w' := by
  cases hr : rtB V S T
  · exact layNowhere_no V S T a b w hr
  · exact layNowhere_yes V S T a b w (rtB_yes hr) h1 h2
end Go.Proofs.Ytflcddjoeadngaa
