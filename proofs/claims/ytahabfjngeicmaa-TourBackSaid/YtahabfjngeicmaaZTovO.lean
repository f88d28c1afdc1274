/- The law's step: another kind. Printed by wip/tools/tour4.py. -/
import Derived.Test.YtahabfjngeicmaaZTouT
import Derived.Test.YtahabfjngeicmaaZTouV
import Derived.Deep.DeepCutAuto
import Derived.StillTailTactics
namespace Go.Proofs.Ytahabfjngeicmaa
open Go.RowKit

set_option maxRecDepth 100000

section
variable {w : World} {V S T kd : Int} {n q p gb cap rb lb cr cl base m : Nat} {gB : Nat → Nat} {g : Mg9} {ts : List Tp} {vr : Nat → Value} {rs : Nat → List (List Nat)} {gr : Nat → List (Option (Nat × Nat))}
set_option maxHeartbeats 8000000 in
theorem step_other (h : PL w V S T n q p gb cap rb lb cr cl base gB m g ts vr rs gr) (hb : base ≤ w.heap.size) (hm : m ≤ 700000) {L s u v : Nat} (hL : L < n) (hs : (s : Int) < S) (hu : (u : Int) < V) (hv : (v : Int) < V) {i k : Nat} {r1 r2 : List Nat} {e : Option (Nat × Nat)} (hi : (rs L)[i]? = some r1) (hx : Xn V L u ∈ r1) (hk : (rs L)[k]? = some r2) (hy : Xn V L v ∈ r2) (he : (gr L)[s]? = some e) (hk1 : kd ≠ 1) (hk2 : kd ≠ 2) (hk3 : kd ≠ 3) :
    Calls Try.prog 11 #[.pointer (some ⟨q, 0, none⟩), .agg #[.int .i64 kd, .int .i64 (L : Int), .int .i64 (s : Int), .int .i64 (u : Int), .int .i64 (v : Int)]] w (StD V S T n q p gb cap rb lb cr cl base gB m w) := by
  have HR := Lib.hid h.hR
  have lL := h.lL hL
  have H0 := Lib.hid (SI.new (kd := kd) (a := (L : Int)) (b := (s : Int)) (c := (u : Int)) (d := (v : Int)) h hb)
  have HLv := Lib.hid (h.lv L hL)
  have HF := Lib.hid h.fi
  have hn96 := h.n96
  have HRL := Lib.hid (h.rows_len hL)
  have HRR : Hid (∀ r ∈ rs L, r.length ≤ 96) := Lib.hid fun r hr => h.row_len hL hr
  have hn16 : (L : Int) < (n : Int) := by omega
  obtain ⟨c0, c1, c2, _, _, _, _, _, _, c9, c10⟩ := h.pg.cells
  have qlt := h.pg.lt
  have g0 : ¬ (L : Int) < 0 := by omega
  have gd0 : decide ((L : Int) < 0) = false := decide_eq_false g0
  have g1 : ¬ lv V ≤ (L : Int) := by omega
  have gd1 : decide (lv V ≤ (L : Int)) = false := decide_eq_false g1
  have g2 : ¬ (s : Int) < 0 := by omega
  have gd2 : decide ((s : Int) < 0) = false := decide_eq_false g2
  have g3 : ¬ S ≤ (s : Int) := by omega
  have gd3 : decide (S ≤ (s : Int)) = false := decide_eq_false g3
  have g4 : ¬ (u : Int) < 0 := by omega
  have gd4 : decide ((u : Int) < 0) = false := decide_eq_false g4
  have g5 : ¬ V ≤ (u : Int) := by omega
  have gd5 : decide (V ≤ (u : Int)) = false := decide_eq_false g5
  have g6 : ¬ (v : Int) < 0 := by omega
  have gd6 : decide ((v : Int) < 0) = false := decide_eq_false g6
  have g7 : ¬ V ≤ (v : Int) := by omega
  have gd7 : decide (V ≤ (v : Int)) = false := decide_eq_false g7
  have HI := Lib.hid hi
  have HXU := Lib.hid hx
  have HK := Lib.hid hk
  have HYV := Lib.hid hy
  have HE := Lib.hid he
  have HLA := Lib.hid h.lv
  have HV8 := Lib.hid (And.intro h.v8 h.s8)
  have HU1 : Hid (∀ (j : Nat) (r' : List Nat), (rs L)[j]? = some r' → Xn V L u ∈ r' → j = i) := Lib.hid fun j r' h1 h2 => idx_uniq (h.lv L hL).nd h1 hi h2 hx
  have HU2 : Hid (∀ (j : Nat) (r' : List Nat), (rs L)[j]? = some r' → Xn V L v ∈ r' → j = k) := Lib.hid fun j r' h1 h2 => idx_uniq (h.lv L hL).nd h1 hk h2 hy
  have HRL1 : Hid ((rs L).length ≤ 1000) := Lib.hid (Nat.le_trans (h.rows_len hL) (by omega))
  have HRR1 : Hid (∀ r' ∈ rs L, r'.length ≤ 1000) := Lib.hid fun r hr => Nat.le_trans (h.row_len hL hr) (by omega)
  clear hi hx hk hy he
  clear h
  go_enter Try.func11, Try.ntmps11
  go_wp2_with fail
  generalize w.heap.size + 1 = lo at H0 ⊢
  generalize w.heap.size = ob at H0 ⊢
  generalize (w.alloc (.cells #[.int .i64 kd, .int .i64 (L : Int), .int .i64 (s : Int), .int .i64 (u : Int), .int .i64 (v : Int)] 29)).alloc (.cells #[.int .i64 V, .int .i64 S, .int .i64 T] 23) = W0 at H0 ⊢
  clear c0 c1 c2 c9 c10 qlt
  obtain ⟨x0, x1, x2, x3, x4, l0, l1, l2, c0, c1, c2, c3, c4, c5, c6, c7, c8, c9, c10⟩ := SB.rule _ _ _ _ _ _ _ _ _ _ _ _ _ _ _ _ _ _ H0.out.sb
  obtain ⟨olt, llt, qlt, rlt, blt⟩ := H0.out.lt
  have hrule := SB.rule ob lo q p rb lb n cr cl V S T kd (L : Int) (s : Int) (u : Int) (v : Int)
  have Hd := Lib.hid H0.out.drew
  clear H0
  refine wp_region_held_drew (S := (fun W => SB W ob lo q p rb lb n cr cl V S T kd (L : Int) (s : Int) (u : Int) (v : Int))) (by kernel_rfl) ?_ (fun hHeld => ?_)
  · exact Hd.out.sb
  refine wpAnyH_take (i := 0) (v := ?_) rfl (by kernel_rfl) (by kernel_rfl) (by kernel_rfl) (fun _ _ _ h => h) (Or.inl ⟨by rfl, ?_⟩) (by assumption) ?_
  rotate_left
  · (intro w hSw; (try dsimp only at hSw); go_simp; try with_reducible rfl)
  try simp only [Act.put, List.setIfInBounds_toArray, List.set_cons_zero, List.set_cons_succ, List.getElem_toArray, List.getElem_cons_zero]
  refine wpAnyH_take (i := 1) (v := ?_) rfl (by kernel_rfl) (by kernel_rfl) (by kernel_rfl) (fun _ _ _ h => h) (Or.inl ⟨by rfl, ?_⟩) (by assumption) ?_
  rotate_left
  · (intro w hSw; (try dsimp only at hSw); go_simp; try with_reducible rfl)
  try simp only [Act.put, List.setIfInBounds_toArray, List.set_cons_zero, List.set_cons_succ, List.getElem_toArray, List.getElem_cons_zero, List.getElem_cons_succ]
  refine wpAnyH_take (i := 2) (v := ?_) rfl (by kernel_rfl) (by kernel_rfl) (by kernel_rfl) (fun _ _ _ h => h) (Or.inl ⟨by rfl, ?_⟩) (by assumption) ?_
  rotate_left
  · (intro w hSw; (try dsimp only at hSw); go_simp; try with_reducible rfl)
  try simp only [Act.put, List.setIfInBounds_toArray, List.set_cons_zero, List.set_cons_succ, List.getElem_toArray, List.getElem_cons_zero, List.getElem_cons_succ]
  refine wpAnyH_take (i := 3) (v := ?_) rfl (by kernel_rfl) (by kernel_rfl) (by kernel_rfl) (fun _ _ _ h => h) (Or.inl ⟨by rfl, ?_⟩) (by assumption) ?_
  rotate_left
  · (intro w hSw; (try dsimp only at hSw); go_simp; try with_reducible rfl)
  try simp only [Act.put, List.setIfInBounds_toArray, List.set_cons_zero, List.set_cons_succ, List.getElem_toArray, List.getElem_cons_zero, List.getElem_cons_succ]
  refine wpAnyH_take (i := 4) (v := ?_) rfl (by kernel_rfl) (by kernel_rfl) (by kernel_rfl) (fun _ _ _ h => h) (Or.inl ⟨by rfl, ?_⟩) (by assumption) ?_
  rotate_left
  · (intro w hSw; (try dsimp only at hSw); go_simp; try with_reducible rfl)
  try simp only [Act.put, List.setIfInBounds_toArray, List.set_cons_zero, List.set_cons_succ, List.getElem_toArray, List.getElem_cons_zero, List.getElem_cons_succ]
  refine wpAnyH_take (i := 5) (v := ?_) rfl (by kernel_rfl) (by kernel_rfl) (by kernel_rfl) (fun _ _ _ h => h) (Or.inl ⟨by rfl, ?_⟩) (by assumption) ?_
  rotate_left
  · (intro w hSw; (try dsimp only at hSw); go_simp; try with_reducible rfl)
  try simp only [Act.put, List.setIfInBounds_toArray, List.set_cons_zero, List.set_cons_succ, List.getElem_toArray, List.getElem_cons_zero, List.getElem_cons_succ]
  refine wpAnyH_take (i := 6) (v := ?_) rfl (by kernel_rfl) (by kernel_rfl) (by kernel_rfl) (fun _ _ _ h => h) (Or.inl ⟨by rfl, ?_⟩) (by assumption) ?_
  rotate_left
  · (intro w hSw; (try dsimp only at hSw); go_simp; try with_reducible rfl)
  try simp only [Act.put, List.setIfInBounds_toArray, List.set_cons_zero, List.set_cons_succ, List.getElem_toArray, List.getElem_cons_zero, List.getElem_cons_succ]
  refine wpAnyH_ready (rs := [7]) (by kernel_rfl) (by simp) ?_
  refine AllReadyH.cons rfl (fun K hK => ?_) ?_
  rotate_left
  · exact AllReadyH.nil
  go_simp
  (refine (levels_yes _ _ _ HR.out _).mono ?_; rintro e w2 ⟨rfl, B1⟩; have H1 := Lib.hid (Hd.out.below B1))
  go_wp2_with fail
  refine hK.out _ _ ?_ (fun hHeld => ?_)
  · (try dsimp only); (first | (with_reducible assumption) | (with_reducible exact H1.out.sb) | (with_reducible exact Hd.out.sb))
  clear hK K
  try simp only [Act.put, List.setIfInBounds_toArray, List.set_cons_zero, List.set_cons_succ, List.getElem_toArray, List.getElem_cons_zero, List.getElem_cons_succ]
  refine wpAnyH_take (i := 8) (v := ?_) rfl (by kernel_rfl) (by kernel_rfl) (by kernel_rfl) (fun _ _ _ h => h) (Or.inl ⟨by rfl, ?_⟩) (by assumption) ?_
  rotate_left
  · (intro w hSw; (try dsimp only at hSw); go_simp; try with_reducible rfl)
  try simp only [Act.put, List.setIfInBounds_toArray, List.set_cons_zero, List.set_cons_succ, List.getElem_toArray, List.getElem_cons_zero, List.getElem_cons_succ]
  refine wpAnyH_take (i := 9) (v := ?_) rfl (by kernel_rfl) (by kernel_rfl) (by kernel_rfl) (fun _ _ _ h => h) (Or.inl ⟨by rfl, ?_⟩) (by assumption) ?_
  rotate_left
  · (intro w hSw; (try dsimp only at hSw); go_simp; try with_reducible rfl)
  try simp only [Act.put, List.setIfInBounds_toArray, List.set_cons_zero, List.set_cons_succ, List.getElem_toArray, List.getElem_cons_zero, List.getElem_cons_succ]
  refine wpAnyH_take (i := 10) (v := ?_) rfl (by kernel_rfl) (by kernel_rfl) (by kernel_rfl) (fun _ _ _ h => h) (Or.inl ⟨by rfl, ?_⟩) (by assumption) ?_
  rotate_left
  · (intro w hSw; (try dsimp only at hSw); go_simp; try with_reducible rfl)
  try simp only [Act.put, List.setIfInBounds_toArray, List.set_cons_zero, List.set_cons_succ, List.getElem_toArray, List.getElem_cons_zero, List.getElem_cons_succ]
  refine wpAnyH_take (i := 11) (v := ?_) rfl (by kernel_rfl) (by kernel_rfl) (by kernel_rfl) (fun _ _ _ h => h) (Or.inl ⟨by rfl, ?_⟩) (by assumption) ?_
  rotate_left
  · (intro w hSw; (try dsimp only at hSw); go_simp; try with_reducible rfl)
  try simp only [Act.put, List.setIfInBounds_toArray, List.set_cons_zero, List.set_cons_succ, List.getElem_toArray, List.getElem_cons_zero, List.getElem_cons_succ]
  refine wpAnyH_take (i := 12) (v := ?_) rfl (by kernel_rfl) (by kernel_rfl) (by kernel_rfl) (fun _ _ _ h => h) (Or.inl ⟨by rfl, ?_⟩) (by assumption) ?_
  rotate_left
  · (intro w hSw; (try dsimp only at hSw); go_simp; try with_reducible rfl)
  try simp only [Act.put, List.setIfInBounds_toArray, List.set_cons_zero, List.set_cons_succ, List.getElem_toArray, List.getElem_cons_zero, List.getElem_cons_succ]
  refine wpAnyH_take (i := 13) (v := ?_) rfl (by kernel_rfl) (by kernel_rfl) (by kernel_rfl) (fun _ _ _ h => h) (Or.inl ⟨by rfl, ?_⟩) (by assumption) ?_
  rotate_left
  · (intro w hSw; (try dsimp only at hSw); go_simp; try with_reducible rfl)
  try simp only [Act.put, List.setIfInBounds_toArray, List.set_cons_zero, List.set_cons_succ, List.getElem_toArray, List.getElem_cons_zero, List.getElem_cons_succ]
  refine wpAnyH_take (i := 14) (v := ?_) rfl (by kernel_rfl) (by kernel_rfl) (by kernel_rfl) (fun _ _ _ h => h) (Or.inl ⟨by rfl, ?_⟩) (by assumption) ?_
  rotate_left
  · (intro w hSw; (try dsimp only at hSw); go_simp; try with_reducible rfl)
  try simp only [Act.put, List.setIfInBounds_toArray, List.set_cons_zero, List.set_cons_succ, List.getElem_toArray, List.getElem_cons_zero, List.getElem_cons_succ]
  refine wpAnyH_take (i := 15) (v := ?_) rfl (by kernel_rfl) (by kernel_rfl) (by kernel_rfl) (fun _ _ _ h => h) (Or.inl ⟨by rfl, ?_⟩) (by assumption) ?_
  rotate_left
  · (intro w hSw; (try dsimp only at hSw); go_simp; try with_reducible rfl)
  try simp only [Act.put, List.setIfInBounds_toArray, List.set_cons_zero, List.set_cons_succ, List.getElem_toArray, List.getElem_cons_zero, List.getElem_cons_succ]
  refine wpAnyH_take (i := 16) (v := ?_) rfl (by kernel_rfl) (by kernel_rfl) (by kernel_rfl) (fun _ _ _ h => h) (Or.inl ⟨by rfl, ?_⟩) (by assumption) ?_
  rotate_left
  · (intro w hSw; (try dsimp only at hSw); go_simp; try with_reducible rfl)
  try simp only [Act.put, List.setIfInBounds_toArray, List.set_cons_zero, List.set_cons_succ, List.getElem_toArray, List.getElem_cons_zero, List.getElem_cons_succ]
  refine wpAnyH_take (i := 17) (v := ?_) rfl (by kernel_rfl) (by kernel_rfl) (by kernel_rfl) (fun _ _ _ h => h) (Or.inl ⟨by rfl, ?_⟩) (by assumption) ?_
  rotate_left
  · (intro w hSw; (try dsimp only at hSw); go_simp; try with_reducible rfl)
  try simp only [Act.put, List.setIfInBounds_toArray, List.set_cons_zero, List.set_cons_succ, List.getElem_toArray, List.getElem_cons_zero, List.getElem_cons_succ]
  refine wpAnyH_take (i := 18) (v := ?_) rfl (by kernel_rfl) (by kernel_rfl) (by kernel_rfl) (fun _ _ _ h => h) (Or.inl ⟨by rfl, ?_⟩) (by assumption) ?_
  rotate_left
  · (intro w hSw; (try dsimp only at hSw); go_simp; try with_reducible rfl)
  try simp only [Act.put, List.setIfInBounds_toArray, List.set_cons_zero, List.set_cons_succ, List.getElem_toArray, List.getElem_cons_zero, List.getElem_cons_succ]
  refine wpAnyH_take (i := 19) (v := ?_) rfl (by kernel_rfl) (by kernel_rfl) (by kernel_rfl) (fun _ _ _ h => h) (Or.inl ⟨by rfl, ?_⟩) (by assumption) ?_
  rotate_left
  · (intro w hSw; (try dsimp only at hSw); go_simp; try with_reducible rfl)
  try simp only [Act.put, List.setIfInBounds_toArray, List.set_cons_zero, List.set_cons_succ, List.getElem_toArray, List.getElem_cons_zero, List.getElem_cons_succ]
  refine wpAnyH_take (i := 20) (v := ?_) rfl (by kernel_rfl) (by kernel_rfl) (by kernel_rfl) (fun _ _ _ h => h) (Or.inl ⟨by rfl, ?_⟩) (by assumption) ?_
  rotate_left
  · (intro w hSw; (try dsimp only at hSw); go_simp; try with_reducible rfl)
  try simp only [Act.put, List.setIfInBounds_toArray, List.set_cons_zero, List.set_cons_succ, List.getElem_toArray, List.getElem_cons_zero, List.getElem_cons_succ]
  refine wpAnyH_take (i := 21) (v := ?_) rfl (by kernel_rfl) (by kernel_rfl) (by kernel_rfl) (fun _ _ _ h => h) (Or.inl ⟨by rfl, ?_⟩) (by assumption) ?_
  rotate_left
  · (intro w hSw; (try dsimp only at hSw); go_simp; try with_reducible rfl)
  try simp only [Act.put, List.setIfInBounds_toArray, List.set_cons_zero, List.set_cons_succ, List.getElem_toArray, List.getElem_cons_zero, List.getElem_cons_succ]
  refine wpAnyH_take (i := 22) (v := ?_) rfl (by kernel_rfl) (by kernel_rfl) (by kernel_rfl) (fun _ _ _ h => h) (Or.inl ⟨by rfl, ?_⟩) (by assumption) ?_
  rotate_left
  · (intro w hSw; (try dsimp only at hSw); go_simp; try with_reducible rfl)
  try simp only [Act.put, List.setIfInBounds_toArray, List.set_cons_zero, List.set_cons_succ, List.getElem_toArray, List.getElem_cons_zero, List.getElem_cons_succ]
  refine wpAnyH_take (i := 23) (v := ?_) rfl (by kernel_rfl) (by kernel_rfl) (by kernel_rfl) (fun _ _ _ h => h) (Or.inl ⟨by rfl, ?_⟩) (by assumption) ?_
  rotate_left
  · (intro w hSw; (try dsimp only at hSw); go_simp; try with_reducible rfl)
  try simp only [Act.put, List.setIfInBounds_toArray, List.set_cons_zero, List.set_cons_succ, List.getElem_toArray, List.getElem_cons_zero, List.getElem_cons_succ]
  refine wpAnyH_take (i := 24) (v := ?_) rfl (by kernel_rfl) (by kernel_rfl) (by kernel_rfl) (fun _ _ _ h => h) (Or.inl ⟨by rfl, ?_⟩) (by assumption) ?_
  rotate_left
  · (intro w hSw; (try dsimp only at hSw); go_simp; try with_reducible rfl)
  try simp only [Act.put, List.setIfInBounds_toArray, List.set_cons_zero, List.set_cons_succ, List.getElem_toArray, List.getElem_cons_zero, List.getElem_cons_succ]
  refine wpAnyH_take (i := 25) (v := ?_) rfl (by kernel_rfl) (by kernel_rfl) (by kernel_rfl) (fun _ _ _ h => h) (Or.inl ⟨by rfl, ?_⟩) (by assumption) ?_
  rotate_left
  · (intro w hSw; (try dsimp only at hSw); go_simp; try with_reducible rfl)
  try simp only [Act.put, List.setIfInBounds_toArray, List.set_cons_zero, List.set_cons_succ, List.getElem_toArray, List.getElem_cons_zero, List.getElem_cons_succ]
  refine wpAnyH_take (i := 26) (v := ?_) rfl (by kernel_rfl) (by kernel_rfl) (by kernel_rfl) (fun _ _ _ h => h) (Or.inl ⟨by rfl, ?_⟩) (by assumption) ?_
  rotate_left
  · (intro w hSw; (try dsimp only at hSw); go_simp; try with_reducible rfl)
  try simp only [Act.put, List.setIfInBounds_toArray, List.set_cons_zero, List.set_cons_succ, List.getElem_toArray, List.getElem_cons_zero, List.getElem_cons_succ]
  refine wpAnyH_take (i := 27) (v := ?_) rfl (by kernel_rfl) (by kernel_rfl) (by kernel_rfl) (fun _ _ _ h => h) (Or.inl ⟨by rfl, ?_⟩) (by assumption) ?_
  rotate_left
  · (intro w hSw; (try dsimp only at hSw); go_simp; try with_reducible rfl)
  try simp only [Act.put, List.setIfInBounds_toArray, List.set_cons_zero, List.set_cons_succ, List.getElem_toArray, List.getElem_cons_zero, List.getElem_cons_succ]
  refine wpAnyH_take (i := 28) (v := ?_) rfl (by kernel_rfl) (by kernel_rfl) (by kernel_rfl) (fun _ _ _ h => h) (Or.inl ⟨by rfl, ?_⟩) (by assumption) ?_
  rotate_left
  · (intro w hSw; (try dsimp only at hSw); go_simp; try with_reducible rfl)
  try simp only [Act.put, List.setIfInBounds_toArray, List.set_cons_zero, List.set_cons_succ, List.getElem_toArray, List.getElem_cons_zero, List.getElem_cons_succ]
  refine wpAnyH_take (i := 29) (v := ?_) rfl (by kernel_rfl) (by kernel_rfl) (by kernel_rfl) (fun _ _ _ h => h) (Or.inl ⟨by rfl, ?_⟩) (by assumption) ?_
  rotate_left
  · (intro w hSw; (try dsimp only at hSw); go_simp; try with_reducible rfl)
  try simp only [Act.put, List.setIfInBounds_toArray, List.set_cons_zero, List.set_cons_succ, List.getElem_toArray, List.getElem_cons_zero, List.getElem_cons_succ]
  refine wpAnyH_take (i := 30) (v := ?_) rfl (by kernel_rfl) (by kernel_rfl) (by kernel_rfl) (fun _ _ _ h => h) (Or.inl ⟨by rfl, ?_⟩) (by assumption) ?_
  rotate_left
  · (intro w hSw; (try dsimp only at hSw); go_simp; try with_reducible rfl)
  try simp only [Act.put, List.setIfInBounds_toArray, List.set_cons_zero, List.set_cons_succ, List.getElem_toArray, List.getElem_cons_zero, List.getElem_cons_succ]
  refine wpAnyH_take (i := 31) (v := ?_) rfl (by kernel_rfl) (by kernel_rfl) (by kernel_rfl) (fun _ _ _ h => h) (Or.inl ⟨by rfl, ?_⟩) (by assumption) ?_
  rotate_left
  · (intro w hSw; (try dsimp only at hSw); go_simp; try with_reducible rfl)
  try simp only [Act.put, List.setIfInBounds_toArray, List.set_cons_zero, List.set_cons_succ, List.getElem_toArray, List.getElem_cons_zero, List.getElem_cons_succ]
  refine wpAnyH_take (i := 32) (v := ?_) rfl (by kernel_rfl) (by kernel_rfl) (by kernel_rfl) (fun _ _ _ h => h) (Or.inl ⟨by rfl, ?_⟩) (by assumption) ?_
  rotate_left
  · (intro w hSw; (try dsimp only at hSw); go_simp; try with_reducible rfl)
  try simp only [Act.put, List.setIfInBounds_toArray, List.set_cons_zero, List.set_cons_succ, List.getElem_toArray, List.getElem_cons_zero, List.getElem_cons_succ]
  refine wpAnyH_take (i := 33) (v := ?_) rfl (by kernel_rfl) (by kernel_rfl) (by kernel_rfl) (fun _ _ _ h => h) (Or.inl ⟨by rfl, ?_⟩) (by assumption) ?_
  rotate_left
  · (intro w hSw; (try dsimp only at hSw); go_simp; try with_reducible rfl)
  try simp only [Act.put, List.setIfInBounds_toArray, List.set_cons_zero, List.set_cons_succ, List.getElem_toArray, List.getElem_cons_zero, List.getElem_cons_succ]
  refine wpAnyH_take (i := 34) (v := ?_) rfl (by kernel_rfl) (by kernel_rfl) (by kernel_rfl) (fun _ _ _ h => h) (Or.inl ⟨by rfl, ?_⟩) (by assumption) ?_
  rotate_left
  · (intro w hSw; (try dsimp only at hSw); go_simp; try with_reducible rfl)
  try simp only [Act.put, List.setIfInBounds_toArray, List.set_cons_zero, List.set_cons_succ, List.getElem_toArray, List.getElem_cons_zero, List.getElem_cons_succ]
  refine wpAnyH_take (i := 35) (v := ?_) rfl (by kernel_rfl) (by kernel_rfl) (by kernel_rfl) (fun _ _ _ h => h) (Or.inl ⟨by rfl, ?_⟩) (by assumption) ?_
  rotate_left
  · (intro w hSw; (try dsimp only at hSw); go_simp; try with_reducible rfl)
  try simp only [Act.put, List.setIfInBounds_toArray, List.set_cons_zero, List.set_cons_succ, List.getElem_toArray, List.getElem_cons_zero, List.getElem_cons_succ]
  refine wpAnyH_take (i := 36) (v := ?_) rfl (by kernel_rfl) (by kernel_rfl) (by kernel_rfl) (fun _ _ _ h => h) (Or.inl ⟨by rfl, ?_⟩) (by assumption) ?_
  rotate_left
  · (intro w hSw; (try dsimp only at hSw); go_simp; try with_reducible rfl)
  try simp only [Act.put, List.setIfInBounds_toArray, List.set_cons_zero, List.set_cons_succ, List.getElem_toArray, List.getElem_cons_zero, List.getElem_cons_succ]
  refine wpAnyH_take (i := 37) (v := ?_) rfl (by kernel_rfl) (by kernel_rfl) (by kernel_rfl) (fun _ _ _ h => h) (Or.inl ⟨by rfl, ?_⟩) (by assumption) ?_
  rotate_left
  · (intro w hSw; (try dsimp only at hSw); go_simp; try with_reducible rfl)
  try simp only [Act.put, List.setIfInBounds_toArray, List.set_cons_zero, List.set_cons_succ, List.getElem_toArray, List.getElem_cons_zero, List.getElem_cons_succ]
  refine wpAnyH_take (i := 38) (v := ?_) rfl (by kernel_rfl) (by kernel_rfl) (by kernel_rfl) (fun _ _ _ h => h) (Or.inl ⟨by rfl, ?_⟩) (by assumption) ?_
  rotate_left
  · (intro w hSw; (try dsimp only at hSw); go_simp; try with_reducible rfl)
  try simp only [Act.put, List.setIfInBounds_toArray, List.set_cons_zero, List.set_cons_succ, List.getElem_toArray, List.getElem_cons_zero, List.getElem_cons_succ]
  refine wpAnyH_take (i := 39) (v := ?_) rfl (by kernel_rfl) (by kernel_rfl) (by kernel_rfl) (fun _ _ _ h => h) (Or.inl ⟨by rfl, ?_⟩) (by assumption) ?_
  rotate_left
  · (intro w hSw; (try dsimp only at hSw); go_simp; try with_reducible rfl)
  try simp only [Act.put, List.setIfInBounds_toArray, List.set_cons_zero, List.set_cons_succ, List.getElem_toArray, List.getElem_cons_zero, List.getElem_cons_succ]
  refine wpAnyH_take (i := 40) (v := ?_) rfl (by kernel_rfl) (by kernel_rfl) (by kernel_rfl) (fun _ _ _ h => h) (Or.inl ⟨by rfl, ?_⟩) (by assumption) ?_
  rotate_left
  · (intro w hSw; (try dsimp only at hSw); go_simp; try with_reducible rfl)
  try simp only [Act.put, List.setIfInBounds_toArray, List.set_cons_zero, List.set_cons_succ, List.getElem_toArray, List.getElem_cons_zero, List.getElem_cons_succ]
  refine wpAnyH_take (i := 41) (v := ?_) rfl (by kernel_rfl) (by kernel_rfl) (by kernel_rfl) (fun _ _ _ h => h) (Or.inl ⟨by rfl, ?_⟩) (by assumption) ?_
  rotate_left
  · (intro w hSw; (try dsimp only at hSw); go_simp; try with_reducible rfl)
  try simp only [Act.put, List.setIfInBounds_toArray, List.set_cons_zero, List.set_cons_succ, List.getElem_toArray, List.getElem_cons_zero, List.getElem_cons_succ]
  refine wpAnyH_take (i := 42) (v := ?_) rfl (by kernel_rfl) (by kernel_rfl) (by kernel_rfl) (fun _ _ _ h => h) (Or.inl ⟨by rfl, ?_⟩) (by assumption) ?_
  rotate_left
  · (intro w hSw; (try dsimp only at hSw); go_simp; try with_reducible rfl)
  try simp only [Act.put, List.setIfInBounds_toArray, List.set_cons_zero, List.set_cons_succ, List.getElem_toArray, List.getElem_cons_zero, List.getElem_cons_succ]
  refine wpAnyH_take (i := 43) (v := ?_) rfl (by kernel_rfl) (by kernel_rfl) (by kernel_rfl) (fun _ _ _ h => h) (Or.inl ⟨by rfl, ?_⟩) (by assumption) ?_
  rotate_left
  · (intro w hSw; (try dsimp only at hSw); go_simp; try with_reducible rfl)
  try simp only [Act.put, List.setIfInBounds_toArray, List.set_cons_zero, List.set_cons_succ, List.getElem_toArray, List.getElem_cons_zero, List.getElem_cons_succ]
  refine wpAnyH_take (i := 44) (v := ?_) rfl (by kernel_rfl) (by kernel_rfl) (by kernel_rfl) (fun _ _ _ h => h) (Or.inl ⟨by rfl, ?_⟩) (by assumption) ?_
  rotate_left
  · (intro w hSw; (try dsimp only at hSw); go_simp; try with_reducible rfl)
  try simp only [Act.put, List.setIfInBounds_toArray, List.set_cons_zero, List.set_cons_succ, List.getElem_toArray, List.getElem_cons_zero, List.getElem_cons_succ]
  refine wpAnyH_take (i := 45) (v := ?_) rfl (by kernel_rfl) (by kernel_rfl) (by kernel_rfl) (fun _ _ _ h => h) (Or.inl ⟨by rfl, ?_⟩) (by assumption) ?_
  rotate_left
  · (intro w hSw; (try dsimp only at hSw); go_simp; try with_reducible rfl)
  try simp only [Act.put, List.setIfInBounds_toArray, List.set_cons_zero, List.set_cons_succ, List.getElem_toArray, List.getElem_cons_zero, List.getElem_cons_succ]
  refine wpAnyH_done (by kernel_rfl) ?_ _
  clear Hd x0 x1 x2 x3 x4 l0 l1 l2 c0 c1 c2 c3 c4 c5 c6 c7 c8 c9 c10 olt llt qlt rlt blt g0 gd0 g1 gd1 g2 gd2 g3 gd3 g4 gd4 g5 gd5 g6 gd6 g7 gd7
  obtain ⟨x0, x1, x2, x3, x4, l0, l1, l2, c0, c1, c2, c3, c4, c5, c6, c7, c8, c9, c10⟩ := SB.rule _ _ _ _ _ _ _ _ _ _ _ _ _ _ _ _ _ _ H1.out.sb
  obtain ⟨olt, llt, qlt, rlt, blt⟩ := H1.out.lt
  go_wp2_with fail
  have Hd := Lib.hid H1.out.drew
  clear H1
  go_region_held3 (fun W => SB W ob lo q p rb lb n cr cl V S T kd (L : Int) (s : Int) (u : Int) (v : Int)) (first | (with_reducible assumption) | (with_reducible exact H3.out.sb) | (with_reducible exact H2.out.sb) | (with_reducible exact Hd.out.sb))
    (first
      | (go_at_call 14; ((with_reducible refine (vert_at HR.out lL hu _).mono ?_); rintro e w2 ⟨rfl, B1⟩; have H2 := Lib.hid (Hd.out.below B1)))
      | (go_at_call 14; ((with_reducible refine (vert_at HR.out lL hv _).mono ?_); rintro e w2 ⟨rfl, B1⟩; have H3 := Lib.hid (H2.out.below B1))))
  clear Hd H2 x0 x1 x2 x3 x4 l0 l1 l2 c0 c1 c2 c3 c4 c5 c6 c7 c8 c9 c10 olt llt qlt rlt blt
  obtain ⟨x0, x1, x2, x3, x4, l0, l1, l2, c0, c1, c2, c3, c4, c5, c6, c7, c8, c9, c10⟩ := SB.rule _ _ _ _ _ _ _ _ _ _ _ _ _ _ _ _ _ _ H3.out.sb
  obtain ⟨olt, llt, qlt, rlt, blt⟩ := H3.out.lt
  go_wp2_with fail
  have Hd := Lib.hid H3.out.drew
  clear H3
  go_region_held3 (fun W => SB W ob lo q p rb lb n cr cl V S T kd (L : Int) (s : Int) (u : Int) (v : Int)) (first | (with_reducible assumption) | (with_reducible exact H5.out.sb) | (with_reducible exact H4.out.sb) | (with_reducible exact Hd.out.sb))
    (first
      | (go_at_call 42; ((with_reducible refine (arc0_at HR.out lL hs _).mono ?_); rintro e w2 ⟨rfl, B1⟩; have H4 := Lib.hid (Hd.out.below B1)))
      | (go_at_call 42; ((with_reducible refine (arc1_at HR.out lL hs _).mono ?_); rintro e w2 ⟨rfl, B1⟩; have H5 := Lib.hid (H4.out.below B1))))
  clear Hd H4 x0 x1 x2 x3 x4 l0 l1 l2 c0 c1 c2 c3 c4 c5 c6 c7 c8 c9 c10 olt llt qlt rlt blt
  obtain ⟨x0, x1, x2, x3, x4, l0, l1, l2, c0, c1, c2, c3, c4, c5, c6, c7, c8, c9, c10⟩ := SB.rule _ _ _ _ _ _ _ _ _ _ _ _ _ _ _ _ _ _ H5.out.sb
  obtain ⟨olt, llt, qlt, rlt, blt⟩ := H5.out.lt
  go_wp2_with fail
  have Hd := Lib.hid H5.out.drew
  clear H5
  go_region_held3 (fun W => SB W ob lo q p rb lb n cr cl V S T kd (L : Int) (s : Int) (u : Int) (v : Int)) (first | (with_reducible assumption) | (with_reducible exact H7.out.sb) | (with_reducible exact H6.out.sb) | (with_reducible exact Hd.out.sb))
    (first
      | (go_at_call 43; ((with_reducible refine (row_of Hd.out.pl.pg hL HI.out HXU.out HU1.out HRL1.out HRR1.out).mono ?_); rintro e w2 ⟨rfl, B1⟩; have H6 := Lib.hid (Hd.out.below B1)))
      | (go_at_call 43; ((with_reducible refine (row_of H6.out.pl.pg hL HK.out HYV.out HU2.out HRL1.out HRR1.out).mono ?_); rintro e w2 ⟨rfl, B1⟩; have H7 := Lib.hid (H6.out.below B1))))
  clear Hd H6 x0 x1 x2 x3 x4 l0 l1 l2 c0 c1 c2 c3 c4 c5 c6 c7 c8 c9 c10 olt llt qlt rlt blt
  obtain ⟨x0, x1, x2, x3, x4, l0, l1, l2, c0, c1, c2, c3, c4, c5, c6, c7, c8, c9, c10⟩ := SB.rule _ _ _ _ _ _ _ _ _ _ _ _ _ _ _ _ _ _ H7.out.sb
  obtain ⟨olt, llt, qlt, rlt, blt⟩ := H7.out.lt
  go_wp2_with fail
  have hsN : (s : Int) < ((S.toNat : Nat) : Int) := by omega
  have s0 : (0 : Int) ≤ (s : Int) := by omega
  have L0 : (0 : Int) ≤ (L : Int) := by omega
  have gl := H7.out.pl.pg.gr_cell hL
  obtain ⟨lc1, lc2, _, _, glt⟩ := PG.link_cell H7.out.pl.pg hL HE.out
  obtain ⟨E1, hE1⟩ : ∃ x, end1 e = x := ⟨_, rfl⟩
  obtain ⟨E2, hE2⟩ : ∃ x, end2 e = x := ⟨_, rfl⟩
  rw [hE1] at lc1
  rw [hE2] at lc2
  go_quiet (fail)
  have H8 := Lib.hid (H7.out.below (drewN_below _ nq))
  clear H7 x0 x1 x2 x3 x4 l0 l1 l2 c0 c1 c2 c3 c4 c5 c6 c7 c8 c9 c10 olt llt qlt rlt blt gl lc1 lc2 glt hE1 hE2
  generalize w2.drewN nq = W3 at H8 ⊢
  generalize decide (0 ≤ E1) = BE
  obtain ⟨x0, x1, x2, x3, x4, l0, l1, l2, c0, c1, c2, c3, c4, c5, c6, c7, c8, c9, c10⟩ := SB.rule _ _ _ _ _ _ _ _ _ _ _ _ _ _ _ _ _ _ H8.out.sb
  obtain ⟨olt, llt, qlt, rlt, blt⟩ := H8.out.lt
  have _hm := hm
  have q1 : (kd == 1) = false := beq_eq_false_iff_ne.2 hk1
  have q2 : (kd == 2) = false := beq_eq_false_iff_ne.2 hk2
  have q3 : (kd == 3) = false := beq_eq_false_iff_ne.2 hk3
  go_wp2_with fail
  go_ret
  exact ⟨rfl, H8.out.fin (by omega)⟩
end

end Go.Proofs.Ytahabfjngeicmaa
