/- The law's step: a beginning. Printed by wip/tools/tour3.py. -/
import Derived.Test.YtahabfjngeicmaaZTouT
import Derived.Test.YtahabfjngeicmaaZTouW
import Derived.Deep.DeepCutAuto
import Derived.StillTailTactics
namespace Go.Proofs.Ytahabfjngeicmaa
open Go.RowKit

set_option maxRecDepth 100000

section
variable {w : World} {V S T kd : Int} {n q p gb cap rb lb cr cl base m : Nat} {gB : Nat → Nat} {g : Mg9} {ts : List Tp} {vr : Nat → Value} {rs : Nat → List (List Nat)} {gr : Nat → List (Option (Nat × Nat))}
set_option maxHeartbeats 8000000 in
theorem step_begin (h : PL w V S T n q p gb cap rb lb cr cl base gB m g ts vr rs gr) (hb : base ≤ w.heap.size) (hm : m ≤ 700000) {L s u v : Nat} (hL : L < n) (hs : (s : Int) < S) (hu : (u : Int) < V) (hv : (v : Int) < V) {i k : Nat} {r1 r2 : List Nat} {e : Option (Nat × Nat)} (hi : (rs L)[i]? = some r1) (hx : Xn V L u ∈ r1) (hk : (rs L)[k]? = some r2) (hy : Xn V L v ∈ r2) (he : (gr L)[s]? = some e) :
    Calls Try.prog 11 #[.pointer (some ⟨q, 0, none⟩), .agg #[.int .i64 3, .int .i64 (L : Int), .int .i64 (s : Int), .int .i64 (u : Int), .int .i64 (v : Int)]] w (StD V S T n q p gb cap rb lb cr cl base gB m w) := by
  have HR := Lib.hid h.hR
  have lL := h.lL hL
  have H0 := Lib.hid (SI.new (kd := 3) (a := (L : Int)) (b := (s : Int)) (c := (u : Int)) (d := (v : Int)) h hb)
  have HLv := Lib.hid (h.lv L hL)
  have HF := Lib.hid h.fi
  have hn96 := h.n96
  have HRL := Lib.hid (h.rows_len hL)
  have HRR : Hid (∀ r ∈ rs L, r.length ≤ 96) := Lib.hid fun r hr => h.row_len hL hr
  have hn16 : (L : Int) < (n : Int) := by omega
  obtain ⟨c0, c1, c2, _, _, _, _, _, _, c9, c10⟩ := h.pg.cells
  have qlt := h.pg.lt
  have g0 : ¬ (L : Int) < 0 := by omega
  have gd0 : decide ((L : Int) < 0) = false := decide_eq_false g0
  have g1 : ¬ lv V ≤ (L : Int) := by omega
  have gd1 : decide (lv V ≤ (L : Int)) = false := decide_eq_false g1
  have g2 : ¬ (s : Int) < 0 := by omega
  have gd2 : decide ((s : Int) < 0) = false := decide_eq_false g2
  have g3 : ¬ S ≤ (s : Int) := by omega
  have gd3 : decide (S ≤ (s : Int)) = false := decide_eq_false g3
  have g4 : ¬ (u : Int) < 0 := by omega
  have gd4 : decide ((u : Int) < 0) = false := decide_eq_false g4
  have g5 : ¬ V ≤ (u : Int) := by omega
  have gd5 : decide (V ≤ (u : Int)) = false := decide_eq_false g5
  have g6 : ¬ (v : Int) < 0 := by omega
  have gd6 : decide ((v : Int) < 0) = false := decide_eq_false g6
  have g7 : ¬ V ≤ (v : Int) := by omega
  have gd7 : decide (V ≤ (v : Int)) = false := decide_eq_false g7
  have HI := Lib.hid hi
  have HXU := Lib.hid hx
  have HK := Lib.hid hk
  have HYV := Lib.hid hy
  have HE := Lib.hid he
  have HLA := Lib.hid h.lv
  have HV8 := Lib.hid (And.intro h.v8 h.s8)
  have HU1 : Hid (∀ (j : Nat) (r' : List Nat), (rs L)[j]? = some r' → Xn V L u ∈ r' → j = i) := Lib.hid fun j r' h1 h2 => idx_uniq (h.lv L hL).nd h1 hi h2 hx
  have HU2 : Hid (∀ (j : Nat) (r' : List Nat), (rs L)[j]? = some r' → Xn V L v ∈ r' → j = k) := Lib.hid fun j r' h1 h2 => idx_uniq (h.lv L hL).nd h1 hk h2 hy
  have HRL1 : Hid ((rs L).length ≤ 1000) := Lib.hid (Nat.le_trans (h.rows_len hL) (by omega))
  have HRR1 : Hid (∀ r' ∈ rs L, r'.length ≤ 1000) := Lib.hid fun r hr => Nat.le_trans (h.row_len hL hr) (by omega)
  clear hi hx hk hy he
  clear h
  go_enter Try.func11, Try.ntmps11
  go_wp2_with fail
  generalize w.heap.size + 1 = lo at H0 ⊢
  generalize w.heap.size = ob at H0 ⊢
  generalize (w.alloc (.cells #[.int .i64 3, .int .i64 (L : Int), .int .i64 (s : Int), .int .i64 (u : Int), .int .i64 (v : Int)] 29)).alloc (.cells #[.int .i64 V, .int .i64 S, .int .i64 T] 23) = W0 at H0 ⊢
  clear c0 c1 c2 c9 c10 qlt
  obtain ⟨x0, x1, x2, x3, x4, l0, l1, l2, c0, c1, c2, c3, c4, c5, c6, c7, c8, c9, c10⟩ := SB.rule _ _ _ _ _ _ _ _ _ _ _ _ _ _ _ _ _ _ H0.out.sb
  obtain ⟨olt, llt, qlt, rlt, blt⟩ := H0.out.lt
  have hrule := SB.rule ob lo q p rb lb n cr cl V S T 3 (L : Int) (s : Int) (u : Int) (v : Int)
  have Hd := Lib.hid H0.out.drew
  clear H0
  refine wp_region_held_drew (S := (fun W => SB W ob lo q p rb lb n cr cl V S T 3 (L : Int) (s : Int) (u : Int) (v : Int))) (by kernel_rfl) ?_ (fun hHeld => ?_)
  · exact Hd.out.sb
  refine wpAnyH_take (i := 0) (v := ?_) rfl (by kernel_rfl) (by kernel_rfl) (by kernel_rfl) (fun _ _ _ h => h) (Or.inl ⟨by rfl, ?_⟩) (by assumption) ?_
  rotate_left
  · (intro w hSw; (try dsimp only at hSw); go_simp; try with_reducible rfl)
  try simp only [Act.put, List.setIfInBounds_toArray, List.set_cons_zero, List.set_cons_succ, List.getElem_toArray, List.getElem_cons_zero]
  refine wpAnyH_take (i := 1) (v := ?_) rfl (by kernel_rfl) (by kernel_rfl) (by kernel_rfl) (fun _ _ _ h => h) (Or.inl ⟨by rfl, ?_⟩) (by assumption) ?_
  rotate_left
  · (intro w hSw; (try dsimp only at hSw); go_simp; try with_reducible rfl)
  try simp only [Act.put, List.setIfInBounds_toArray, List.set_cons_zero, List.set_cons_succ, List.getElem_toArray, List.getElem_cons_zero, List.getElem_cons_succ]
  refine wpAnyH_take (i := 2) (v := ?_) rfl (by kernel_rfl) (by kernel_rfl) (by kernel_rfl) (fun _ _ _ h => h) (Or.inl ⟨by rfl, ?_⟩) (by assumption) ?_
  rotate_left
  · (intro w hSw; (try dsimp only at hSw); go_simp; try with_reducible rfl)
  try simp only [Act.put, List.setIfInBounds_toArray, List.set_cons_zero, List.set_cons_succ, List.getElem_toArray, List.getElem_cons_zero, List.getElem_cons_succ]
  refine wpAnyH_take (i := 3) (v := ?_) rfl (by kernel_rfl) (by kernel_rfl) (by kernel_rfl) (fun _ _ _ h => h) (Or.inl ⟨by rfl, ?_⟩) (by assumption) ?_
  rotate_left
  · (intro w hSw; (try dsimp only at hSw); go_simp; try with_reducible rfl)
  try simp only [Act.put, List.setIfInBounds_toArray, List.set_cons_zero, List.set_cons_succ, List.getElem_toArray, List.getElem_cons_zero, List.getElem_cons_succ]
  refine wpAnyH_take (i := 4) (v := ?_) rfl (by kernel_rfl) (by kernel_rfl) (by kernel_rfl) (fun _ _ _ h => h) (Or.inl ⟨by rfl, ?_⟩) (by assumption) ?_
  rotate_left
  · (intro w hSw; (try dsimp only at hSw); go_simp; try with_reducible rfl)
  try simp only [Act.put, List.setIfInBounds_toArray, List.set_cons_zero, List.set_cons_succ, List.getElem_toArray, List.getElem_cons_zero, List.getElem_cons_succ]
  refine wpAnyH_take (i := 5) (v := ?_) rfl (by kernel_rfl) (by kernel_rfl) (by kernel_rfl) (fun _ _ _ h => h) (Or.inl ⟨by rfl, ?_⟩) (by assumption) ?_
  rotate_left
  · (intro w hSw; (try dsimp only at hSw); go_simp; try with_reducible rfl)
  try simp only [Act.put, List.setIfInBounds_toArray, List.set_cons_zero, List.set_cons_succ, List.getElem_toArray, List.getElem_cons_zero, List.getElem_cons_succ]
  refine wpAnyH_take (i := 6) (v := ?_) rfl (by kernel_rfl) (by kernel_rfl) (by kernel_rfl) (fun _ _ _ h => h) (Or.inl ⟨by rfl, ?_⟩) (by assumption) ?_
  rotate_left
  · (intro w hSw; (try dsimp only at hSw); go_simp; try with_reducible rfl)
  try simp only [Act.put, List.setIfInBounds_toArray, List.set_cons_zero, List.set_cons_succ, List.getElem_toArray, List.getElem_cons_zero, List.getElem_cons_succ]
  refine wpAnyH_ready (rs := [7]) (by kernel_rfl) (by simp) ?_
  refine AllReadyH.cons rfl (fun K hK => ?_) ?_
  rotate_left
  · exact AllReadyH.nil
  go_simp
  (refine (levels_yes _ _ _ HR.out _).mono ?_; rintro e w2 ⟨rfl, B1⟩; have H1 := Lib.hid (Hd.out.below B1))
  go_wp2_with fail
  refine hK.out _ _ ?_ (fun hHeld => ?_)
  · (try dsimp only); (first | (with_reducible assumption) | (with_reducible exact H1.out.sb) | (with_reducible exact Hd.out.sb))
  clear hK K
  try simp only [Act.put, List.setIfInBounds_toArray, List.set_cons_zero, List.set_cons_succ, List.getElem_toArray, List.getElem_cons_zero, List.getElem_cons_succ]
  refine wpAnyH_take (i := 8) (v := ?_) rfl (by kernel_rfl) (by kernel_rfl) (by kernel_rfl) (fun _ _ _ h => h) (Or.inl ⟨by rfl, ?_⟩) (by assumption) ?_
  rotate_left
  · (intro w hSw; (try dsimp only at hSw); go_simp; try with_reducible rfl)
  try simp only [Act.put, List.setIfInBounds_toArray, List.set_cons_zero, List.set_cons_succ, List.getElem_toArray, List.getElem_cons_zero, List.getElem_cons_succ]
  refine wpAnyH_take (i := 9) (v := ?_) rfl (by kernel_rfl) (by kernel_rfl) (by kernel_rfl) (fun _ _ _ h => h) (Or.inl ⟨by rfl, ?_⟩) (by assumption) ?_
  rotate_left
  · (intro w hSw; (try dsimp only at hSw); go_simp; try with_reducible rfl)
  try simp only [Act.put, List.setIfInBounds_toArray, List.set_cons_zero, List.set_cons_succ, List.getElem_toArray, List.getElem_cons_zero, List.getElem_cons_succ]
  refine wpAnyH_take (i := 10) (v := ?_) rfl (by kernel_rfl) (by kernel_rfl) (by kernel_rfl) (fun _ _ _ h => h) (Or.inl ⟨by rfl, ?_⟩) (by assumption) ?_
  rotate_left
  · (intro w hSw; (try dsimp only at hSw); go_simp; try with_reducible rfl)
  try simp only [Act.put, List.setIfInBounds_toArray, List.set_cons_zero, List.set_cons_succ, List.getElem_toArray, List.getElem_cons_zero, List.getElem_cons_succ]
  refine wpAnyH_take (i := 11) (v := ?_) rfl (by kernel_rfl) (by kernel_rfl) (by kernel_rfl) (fun _ _ _ h => h) (Or.inl ⟨by rfl, ?_⟩) (by assumption) ?_
  rotate_left
  · (intro w hSw; (try dsimp only at hSw); go_simp; try with_reducible rfl)
  try simp only [Act.put, List.setIfInBounds_toArray, List.set_cons_zero, List.set_cons_succ, List.getElem_toArray, List.getElem_cons_zero, List.getElem_cons_succ]
  refine wpAnyH_take (i := 12) (v := ?_) rfl (by kernel_rfl) (by kernel_rfl) (by kernel_rfl) (fun _ _ _ h => h) (Or.inl ⟨by rfl, ?_⟩) (by assumption) ?_
  rotate_left
  · (intro w hSw; (try dsimp only at hSw); go_simp; try with_reducible rfl)
  try simp only [Act.put, List.setIfInBounds_toArray, List.set_cons_zero, List.set_cons_succ, List.getElem_toArray, List.getElem_cons_zero, List.getElem_cons_succ]
  refine wpAnyH_take (i := 13) (v := ?_) rfl (by kernel_rfl) (by kernel_rfl) (by kernel_rfl) (fun _ _ _ h => h) (Or.inl ⟨by rfl, ?_⟩) (by assumption) ?_
  rotate_left
  · (intro w hSw; (try dsimp only at hSw); go_simp; try with_reducible rfl)
  try simp only [Act.put, List.setIfInBounds_toArray, List.set_cons_zero, List.set_cons_succ, List.getElem_toArray, List.getElem_cons_zero, List.getElem_cons_succ]
  refine wpAnyH_take (i := 14) (v := ?_) rfl (by kernel_rfl) (by kernel_rfl) (by kernel_rfl) (fun _ _ _ h => h) (Or.inl ⟨by rfl, ?_⟩) (by assumption) ?_
  rotate_left
  · (intro w hSw; (try dsimp only at hSw); go_simp; try with_reducible rfl)
  try simp only [Act.put, List.setIfInBounds_toArray, List.set_cons_zero, List.set_cons_succ, List.getElem_toArray, List.getElem_cons_zero, List.getElem_cons_succ]
  refine wpAnyH_take (i := 15) (v := ?_) rfl (by kernel_rfl) (by kernel_rfl) (by kernel_rfl) (fun _ _ _ h => h) (Or.inl ⟨by rfl, ?_⟩) (by assumption) ?_
  rotate_left
  · (intro w hSw; (try dsimp only at hSw); go_simp; try with_reducible rfl)
  try simp only [Act.put, List.setIfInBounds_toArray, List.set_cons_zero, List.set_cons_succ, List.getElem_toArray, List.getElem_cons_zero, List.getElem_cons_succ]
  refine wpAnyH_take (i := 16) (v := ?_) rfl (by kernel_rfl) (by kernel_rfl) (by kernel_rfl) (fun _ _ _ h => h) (Or.inl ⟨by rfl, ?_⟩) (by assumption) ?_
  rotate_left
  · (intro w hSw; (try dsimp only at hSw); go_simp; try with_reducible rfl)
  try simp only [Act.put, List.setIfInBounds_toArray, List.set_cons_zero, List.set_cons_succ, List.getElem_toArray, List.getElem_cons_zero, List.getElem_cons_succ]
  refine wpAnyH_take (i := 17) (v := ?_) rfl (by kernel_rfl) (by kernel_rfl) (by kernel_rfl) (fun _ _ _ h => h) (Or.inl ⟨by rfl, ?_⟩) (by assumption) ?_
  rotate_left
  · (intro w hSw; (try dsimp only at hSw); go_simp; try with_reducible rfl)
  try simp only [Act.put, List.setIfInBounds_toArray, List.set_cons_zero, List.set_cons_succ, List.getElem_toArray, List.getElem_cons_zero, List.getElem_cons_succ]
  refine wpAnyH_take (i := 18) (v := ?_) rfl (by kernel_rfl) (by kernel_rfl) (by kernel_rfl) (fun _ _ _ h => h) (Or.inl ⟨by rfl, ?_⟩) (by assumption) ?_
  rotate_left
  · (intro w hSw; (try dsimp only at hSw); go_simp; try with_reducible rfl)
  try simp only [Act.put, List.setIfInBounds_toArray, List.set_cons_zero, List.set_cons_succ, List.getElem_toArray, List.getElem_cons_zero, List.getElem_cons_succ]
  refine wpAnyH_take (i := 19) (v := ?_) rfl (by kernel_rfl) (by kernel_rfl) (by kernel_rfl) (fun _ _ _ h => h) (Or.inl ⟨by rfl, ?_⟩) (by assumption) ?_
  rotate_left
  · (intro w hSw; (try dsimp only at hSw); go_simp; try with_reducible rfl)
  try simp only [Act.put, List.setIfInBounds_toArray, List.set_cons_zero, List.set_cons_succ, List.getElem_toArray, List.getElem_cons_zero, List.getElem_cons_succ]
  refine wpAnyH_take (i := 20) (v := ?_) rfl (by kernel_rfl) (by kernel_rfl) (by kernel_rfl) (fun _ _ _ h => h) (Or.inl ⟨by rfl, ?_⟩) (by assumption) ?_
  rotate_left
  · (intro w hSw; (try dsimp only at hSw); go_simp; try with_reducible rfl)
  try simp only [Act.put, List.setIfInBounds_toArray, List.set_cons_zero, List.set_cons_succ, List.getElem_toArray, List.getElem_cons_zero, List.getElem_cons_succ]
  refine wpAnyH_take (i := 21) (v := ?_) rfl (by kernel_rfl) (by kernel_rfl) (by kernel_rfl) (fun _ _ _ h => h) (Or.inl ⟨by rfl, ?_⟩) (by assumption) ?_
  rotate_left
  · (intro w hSw; (try dsimp only at hSw); go_simp; try with_reducible rfl)
  try simp only [Act.put, List.setIfInBounds_toArray, List.set_cons_zero, List.set_cons_succ, List.getElem_toArray, List.getElem_cons_zero, List.getElem_cons_succ]
  refine wpAnyH_take (i := 22) (v := ?_) rfl (by kernel_rfl) (by kernel_rfl) (by kernel_rfl) (fun _ _ _ h => h) (Or.inl ⟨by rfl, ?_⟩) (by assumption) ?_
  rotate_left
  · (intro w hSw; (try dsimp only at hSw); go_simp; try with_reducible rfl)
  try simp only [Act.put, List.setIfInBounds_toArray, List.set_cons_zero, List.set_cons_succ, List.getElem_toArray, List.getElem_cons_zero, List.getElem_cons_succ]
  refine wpAnyH_take (i := 23) (v := ?_) rfl (by kernel_rfl) (by kernel_rfl) (by kernel_rfl) (fun _ _ _ h => h) (Or.inl ⟨by rfl, ?_⟩) (by assumption) ?_
  rotate_left
  · (intro w hSw; (try dsimp only at hSw); go_simp; try with_reducible rfl)
  try simp only [Act.put, List.setIfInBounds_toArray, List.set_cons_zero, List.set_cons_succ, List.getElem_toArray, List.getElem_cons_zero, List.getElem_cons_succ]
  refine wpAnyH_take (i := 24) (v := ?_) rfl (by kernel_rfl) (by kernel_rfl) (by kernel_rfl) (fun _ _ _ h => h) (Or.inl ⟨by rfl, ?_⟩) (by assumption) ?_
  rotate_left
  · (intro w hSw; (try dsimp only at hSw); go_simp; try with_reducible rfl)
  try simp only [Act.put, List.setIfInBounds_toArray, List.set_cons_zero, List.set_cons_succ, List.getElem_toArray, List.getElem_cons_zero, List.getElem_cons_succ]
  refine wpAnyH_take (i := 25) (v := ?_) rfl (by kernel_rfl) (by kernel_rfl) (by kernel_rfl) (fun _ _ _ h => h) (Or.inl ⟨by rfl, ?_⟩) (by assumption) ?_
  rotate_left
  · (intro w hSw; (try dsimp only at hSw); go_simp; try with_reducible rfl)
  try simp only [Act.put, List.setIfInBounds_toArray, List.set_cons_zero, List.set_cons_succ, List.getElem_toArray, List.getElem_cons_zero, List.getElem_cons_succ]
  refine wpAnyH_take (i := 26) (v := ?_) rfl (by kernel_rfl) (by kernel_rfl) (by kernel_rfl) (fun _ _ _ h => h) (Or.inl ⟨by rfl, ?_⟩) (by assumption) ?_
  rotate_left
  · (intro w hSw; (try dsimp only at hSw); go_simp; try with_reducible rfl)
  try simp only [Act.put, List.setIfInBounds_toArray, List.set_cons_zero, List.set_cons_succ, List.getElem_toArray, List.getElem_cons_zero, List.getElem_cons_succ]
  refine wpAnyH_take (i := 27) (v := ?_) rfl (by kernel_rfl) (by kernel_rfl) (by kernel_rfl) (fun _ _ _ h => h) (Or.inl ⟨by rfl, ?_⟩) (by assumption) ?_
  rotate_left
  · (intro w hSw; (try dsimp only at hSw); go_simp; try with_reducible rfl)
  try simp only [Act.put, List.setIfInBounds_toArray, List.set_cons_zero, List.set_cons_succ, List.getElem_toArray, List.getElem_cons_zero, List.getElem_cons_succ]
  refine wpAnyH_take (i := 28) (v := ?_) rfl (by kernel_rfl) (by kernel_rfl) (by kernel_rfl) (fun _ _ _ h => h) (Or.inl ⟨by rfl, ?_⟩) (by assumption) ?_
  rotate_left
  · (intro w hSw; (try dsimp only at hSw); go_simp; try with_reducible rfl)
  try simp only [Act.put, List.setIfInBounds_toArray, List.set_cons_zero, List.set_cons_succ, List.getElem_toArray, List.getElem_cons_zero, List.getElem_cons_succ]
  refine wpAnyH_take (i := 29) (v := ?_) rfl (by kernel_rfl) (by kernel_rfl) (by kernel_rfl) (fun _ _ _ h => h) (Or.inl ⟨by rfl, ?_⟩) (by assumption) ?_
  rotate_left
  · (intro w hSw; (try dsimp only at hSw); go_simp; try with_reducible rfl)
  try simp only [Act.put, List.setIfInBounds_toArray, List.set_cons_zero, List.set_cons_succ, List.getElem_toArray, List.getElem_cons_zero, List.getElem_cons_succ]
  refine wpAnyH_take (i := 30) (v := ?_) rfl (by kernel_rfl) (by kernel_rfl) (by kernel_rfl) (fun _ _ _ h => h) (Or.inl ⟨by rfl, ?_⟩) (by assumption) ?_
  rotate_left
  · (intro w hSw; (try dsimp only at hSw); go_simp; try with_reducible rfl)
  try simp only [Act.put, List.setIfInBounds_toArray, List.set_cons_zero, List.set_cons_succ, List.getElem_toArray, List.getElem_cons_zero, List.getElem_cons_succ]
  refine wpAnyH_take (i := 31) (v := ?_) rfl (by kernel_rfl) (by kernel_rfl) (by kernel_rfl) (fun _ _ _ h => h) (Or.inl ⟨by rfl, ?_⟩) (by assumption) ?_
  rotate_left
  · (intro w hSw; (try dsimp only at hSw); go_simp; try with_reducible rfl)
  try simp only [Act.put, List.setIfInBounds_toArray, List.set_cons_zero, List.set_cons_succ, List.getElem_toArray, List.getElem_cons_zero, List.getElem_cons_succ]
  refine wpAnyH_take (i := 32) (v := ?_) rfl (by kernel_rfl) (by kernel_rfl) (by kernel_rfl) (fun _ _ _ h => h) (Or.inl ⟨by rfl, ?_⟩) (by assumption) ?_
  rotate_left
  · (intro w hSw; (try dsimp only at hSw); go_simp; try with_reducible rfl)
  try simp only [Act.put, List.setIfInBounds_toArray, List.set_cons_zero, List.set_cons_succ, List.getElem_toArray, List.getElem_cons_zero, List.getElem_cons_succ]
  refine wpAnyH_take (i := 33) (v := ?_) rfl (by kernel_rfl) (by kernel_rfl) (by kernel_rfl) (fun _ _ _ h => h) (Or.inl ⟨by rfl, ?_⟩) (by assumption) ?_
  rotate_left
  · (intro w hSw; (try dsimp only at hSw); go_simp; try with_reducible rfl)
  try simp only [Act.put, List.setIfInBounds_toArray, List.set_cons_zero, List.set_cons_succ, List.getElem_toArray, List.getElem_cons_zero, List.getElem_cons_succ]
  refine wpAnyH_take (i := 34) (v := ?_) rfl (by kernel_rfl) (by kernel_rfl) (by kernel_rfl) (fun _ _ _ h => h) (Or.inl ⟨by rfl, ?_⟩) (by assumption) ?_
  rotate_left
  · (intro w hSw; (try dsimp only at hSw); go_simp; try with_reducible rfl)
  try simp only [Act.put, List.setIfInBounds_toArray, List.set_cons_zero, List.set_cons_succ, List.getElem_toArray, List.getElem_cons_zero, List.getElem_cons_succ]
  refine wpAnyH_take (i := 35) (v := ?_) rfl (by kernel_rfl) (by kernel_rfl) (by kernel_rfl) (fun _ _ _ h => h) (Or.inl ⟨by rfl, ?_⟩) (by assumption) ?_
  rotate_left
  · (intro w hSw; (try dsimp only at hSw); go_simp; try with_reducible rfl)
  try simp only [Act.put, List.setIfInBounds_toArray, List.set_cons_zero, List.set_cons_succ, List.getElem_toArray, List.getElem_cons_zero, List.getElem_cons_succ]
  refine wpAnyH_take (i := 36) (v := ?_) rfl (by kernel_rfl) (by kernel_rfl) (by kernel_rfl) (fun _ _ _ h => h) (Or.inl ⟨by rfl, ?_⟩) (by assumption) ?_
  rotate_left
  · (intro w hSw; (try dsimp only at hSw); go_simp; try with_reducible rfl)
  try simp only [Act.put, List.setIfInBounds_toArray, List.set_cons_zero, List.set_cons_succ, List.getElem_toArray, List.getElem_cons_zero, List.getElem_cons_succ]
  refine wpAnyH_take (i := 37) (v := ?_) rfl (by kernel_rfl) (by kernel_rfl) (by kernel_rfl) (fun _ _ _ h => h) (Or.inl ⟨by rfl, ?_⟩) (by assumption) ?_
  rotate_left
  · (intro w hSw; (try dsimp only at hSw); go_simp; try with_reducible rfl)
  try simp only [Act.put, List.setIfInBounds_toArray, List.set_cons_zero, List.set_cons_succ, List.getElem_toArray, List.getElem_cons_zero, List.getElem_cons_succ]
  refine wpAnyH_take (i := 38) (v := ?_) rfl (by kernel_rfl) (by kernel_rfl) (by kernel_rfl) (fun _ _ _ h => h) (Or.inl ⟨by rfl, ?_⟩) (by assumption) ?_
  rotate_left
  · (intro w hSw; (try dsimp only at hSw); go_simp; try with_reducible rfl)
  try simp only [Act.put, List.setIfInBounds_toArray, List.set_cons_zero, List.set_cons_succ, List.getElem_toArray, List.getElem_cons_zero, List.getElem_cons_succ]
  refine wpAnyH_take (i := 39) (v := ?_) rfl (by kernel_rfl) (by kernel_rfl) (by kernel_rfl) (fun _ _ _ h => h) (Or.inl ⟨by rfl, ?_⟩) (by assumption) ?_
  rotate_left
  · (intro w hSw; (try dsimp only at hSw); go_simp; try with_reducible rfl)
  try simp only [Act.put, List.setIfInBounds_toArray, List.set_cons_zero, List.set_cons_succ, List.getElem_toArray, List.getElem_cons_zero, List.getElem_cons_succ]
  refine wpAnyH_take (i := 40) (v := ?_) rfl (by kernel_rfl) (by kernel_rfl) (by kernel_rfl) (fun _ _ _ h => h) (Or.inl ⟨by rfl, ?_⟩) (by assumption) ?_
  rotate_left
  · (intro w hSw; (try dsimp only at hSw); go_simp; try with_reducible rfl)
  try simp only [Act.put, List.setIfInBounds_toArray, List.set_cons_zero, List.set_cons_succ, List.getElem_toArray, List.getElem_cons_zero, List.getElem_cons_succ]
  refine wpAnyH_take (i := 41) (v := ?_) rfl (by kernel_rfl) (by kernel_rfl) (by kernel_rfl) (fun _ _ _ h => h) (Or.inl ⟨by rfl, ?_⟩) (by assumption) ?_
  rotate_left
  · (intro w hSw; (try dsimp only at hSw); go_simp; try with_reducible rfl)
  try simp only [Act.put, List.setIfInBounds_toArray, List.set_cons_zero, List.set_cons_succ, List.getElem_toArray, List.getElem_cons_zero, List.getElem_cons_succ]
  refine wpAnyH_take (i := 42) (v := ?_) rfl (by kernel_rfl) (by kernel_rfl) (by kernel_rfl) (fun _ _ _ h => h) (Or.inl ⟨by rfl, ?_⟩) (by assumption) ?_
  rotate_left
  · (intro w hSw; (try dsimp only at hSw); go_simp; try with_reducible rfl)
  try simp only [Act.put, List.setIfInBounds_toArray, List.set_cons_zero, List.set_cons_succ, List.getElem_toArray, List.getElem_cons_zero, List.getElem_cons_succ]
  refine wpAnyH_take (i := 43) (v := ?_) rfl (by kernel_rfl) (by kernel_rfl) (by kernel_rfl) (fun _ _ _ h => h) (Or.inl ⟨by rfl, ?_⟩) (by assumption) ?_
  rotate_left
  · (intro w hSw; (try dsimp only at hSw); go_simp; try with_reducible rfl)
  try simp only [Act.put, List.setIfInBounds_toArray, List.set_cons_zero, List.set_cons_succ, List.getElem_toArray, List.getElem_cons_zero, List.getElem_cons_succ]
  refine wpAnyH_take (i := 44) (v := ?_) rfl (by kernel_rfl) (by kernel_rfl) (by kernel_rfl) (fun _ _ _ h => h) (Or.inl ⟨by rfl, ?_⟩) (by assumption) ?_
  rotate_left
  · (intro w hSw; (try dsimp only at hSw); go_simp; try with_reducible rfl)
  try simp only [Act.put, List.setIfInBounds_toArray, List.set_cons_zero, List.set_cons_succ, List.getElem_toArray, List.getElem_cons_zero, List.getElem_cons_succ]
  refine wpAnyH_take (i := 45) (v := ?_) rfl (by kernel_rfl) (by kernel_rfl) (by kernel_rfl) (fun _ _ _ h => h) (Or.inl ⟨by rfl, ?_⟩) (by assumption) ?_
  rotate_left
  · (intro w hSw; (try dsimp only at hSw); go_simp; try with_reducible rfl)
  try simp only [Act.put, List.setIfInBounds_toArray, List.set_cons_zero, List.set_cons_succ, List.getElem_toArray, List.getElem_cons_zero, List.getElem_cons_succ]
  refine wpAnyH_done (by kernel_rfl) ?_ _
  clear Hd x0 x1 x2 x3 x4 l0 l1 l2 c0 c1 c2 c3 c4 c5 c6 c7 c8 c9 c10 olt llt qlt rlt blt g0 gd0 g1 gd1 g2 gd2 g3 gd3 g4 gd4 g5 gd5 g6 gd6 g7 gd7
  obtain ⟨x0, x1, x2, x3, x4, l0, l1, l2, c0, c1, c2, c3, c4, c5, c6, c7, c8, c9, c10⟩ := SB.rule _ _ _ _ _ _ _ _ _ _ _ _ _ _ _ _ _ _ H1.out.sb
  obtain ⟨olt, llt, qlt, rlt, blt⟩ := H1.out.lt
  go_wp2_with fail
  have Hd := Lib.hid H1.out.drew
  clear H1
  go_region_held3 (fun W => SB W ob lo q p rb lb n cr cl V S T 3 (L : Int) (s : Int) (u : Int) (v : Int)) (first | (with_reducible assumption) | (with_reducible exact H3.out.sb) | (with_reducible exact H2.out.sb) | (with_reducible exact Hd.out.sb))
    (first
      | (go_at_call 14; ((with_reducible refine (vert_at HR.out lL hu _).mono ?_); rintro e w2 ⟨rfl, B1⟩; have H2 := Lib.hid (Hd.out.below B1)))
      | (go_at_call 14; ((with_reducible refine (vert_at HR.out lL hv _).mono ?_); rintro e w2 ⟨rfl, B1⟩; have H3 := Lib.hid (H2.out.below B1))))
  clear Hd H2 x0 x1 x2 x3 x4 l0 l1 l2 c0 c1 c2 c3 c4 c5 c6 c7 c8 c9 c10 olt llt qlt rlt blt
  obtain ⟨x0, x1, x2, x3, x4, l0, l1, l2, c0, c1, c2, c3, c4, c5, c6, c7, c8, c9, c10⟩ := SB.rule _ _ _ _ _ _ _ _ _ _ _ _ _ _ _ _ _ _ H3.out.sb
  obtain ⟨olt, llt, qlt, rlt, blt⟩ := H3.out.lt
  go_wp2_with fail
  have Hd := Lib.hid H3.out.drew
  clear H3
  go_region_held3 (fun W => SB W ob lo q p rb lb n cr cl V S T 3 (L : Int) (s : Int) (u : Int) (v : Int)) (first | (with_reducible assumption) | (with_reducible exact H5.out.sb) | (with_reducible exact H4.out.sb) | (with_reducible exact Hd.out.sb))
    (first
      | (go_at_call 42; ((with_reducible refine (arc0_at HR.out lL hs _).mono ?_); rintro e w2 ⟨rfl, B1⟩; have H4 := Lib.hid (Hd.out.below B1)))
      | (go_at_call 42; ((with_reducible refine (arc1_at HR.out lL hs _).mono ?_); rintro e w2 ⟨rfl, B1⟩; have H5 := Lib.hid (H4.out.below B1))))
  clear Hd H4 x0 x1 x2 x3 x4 l0 l1 l2 c0 c1 c2 c3 c4 c5 c6 c7 c8 c9 c10 olt llt qlt rlt blt
  obtain ⟨x0, x1, x2, x3, x4, l0, l1, l2, c0, c1, c2, c3, c4, c5, c6, c7, c8, c9, c10⟩ := SB.rule _ _ _ _ _ _ _ _ _ _ _ _ _ _ _ _ _ _ H5.out.sb
  obtain ⟨olt, llt, qlt, rlt, blt⟩ := H5.out.lt
  go_wp2_with fail
  have Hd := Lib.hid H5.out.drew
  clear H5
  go_region_held3 (fun W => SB W ob lo q p rb lb n cr cl V S T 3 (L : Int) (s : Int) (u : Int) (v : Int)) (first | (with_reducible assumption) | (with_reducible exact H7.out.sb) | (with_reducible exact H6.out.sb) | (with_reducible exact Hd.out.sb))
    (first
      | (go_at_call 43; ((with_reducible refine (row_of Hd.out.pl.pg hL HI.out HXU.out HU1.out HRL1.out HRR1.out).mono ?_); rintro e w2 ⟨rfl, B1⟩; have H6 := Lib.hid (Hd.out.below B1)))
      | (go_at_call 43; ((with_reducible refine (row_of H6.out.pl.pg hL HK.out HYV.out HU2.out HRL1.out HRR1.out).mono ?_); rintro e w2 ⟨rfl, B1⟩; have H7 := Lib.hid (H6.out.below B1))))
  clear Hd H6 x0 x1 x2 x3 x4 l0 l1 l2 c0 c1 c2 c3 c4 c5 c6 c7 c8 c9 c10 olt llt qlt rlt blt
  obtain ⟨x0, x1, x2, x3, x4, l0, l1, l2, c0, c1, c2, c3, c4, c5, c6, c7, c8, c9, c10⟩ := SB.rule _ _ _ _ _ _ _ _ _ _ _ _ _ _ _ _ _ _ H7.out.sb
  obtain ⟨olt, llt, qlt, rlt, blt⟩ := H7.out.lt
  go_wp2_with fail
  have hsN : (s : Int) < ((S.toNat : Nat) : Int) := by omega
  have s0 : (0 : Int) ≤ (s : Int) := by omega
  have L0 : (0 : Int) ≤ (L : Int) := by omega
  have gl := H7.out.pl.pg.gr_cell hL
  obtain ⟨lc1, lc2, _, _, glt⟩ := PG.link_cell H7.out.pl.pg hL HE.out
  obtain ⟨E1, hE1⟩ : ∃ x, end1 e = x := ⟨_, rfl⟩
  obtain ⟨E2, hE2⟩ : ∃ x, end2 e = x := ⟨_, rfl⟩
  rw [hE1] at lc1
  rw [hE2] at lc2
  go_quiet (fail)
  have H8 := Lib.hid (H7.out.below (drewN_below _ nq))
  clear H7 x0 x1 x2 x3 x4 l0 l1 l2 c0 c1 c2 c3 c4 c5 c6 c7 c8 c9 c10 olt llt qlt rlt blt gl lc1 lc2 glt hE1 hE2
  generalize w2.drewN nq = W3 at H8 ⊢
  generalize decide (0 ≤ E1) = BE
  obtain ⟨x0, x1, x2, x3, x4, l0, l1, l2, c0, c1, c2, c3, c4, c5, c6, c7, c8, c9, c10⟩ := SB.rule _ _ _ _ _ _ _ _ _ _ _ _ _ _ _ _ _ _ H8.out.sb
  obtain ⟨olt, llt, qlt, rlt, blt⟩ := H8.out.lt
  go_wp2_with fail
  have G0 := Lib.hid H8.out.sg
  clear H8 x0 x1 x2 x3 x4 l0 l1 l2 c0 c1 c2 c3 c4 c5 c6 c7 c8 c9 c10 olt llt qlt rlt blt
  obtain ⟨a1, a2, ea⟩ := List.append_of_mem HXU.out
  subst ea
  have HN1 := Lib.hid (row_nd HLv.out.nd (List.mem_of_getElem? HI.out))
  have HQ1 : Hid ((a1 ++ Xn V L u :: a2).length ≤ 96) := Lib.hid (HRR.out _ (List.mem_of_getElem? HI.out))
  have iN := (List.getElem?_eq_some_iff.1 HI.out).1
  have i0 : (0 : Int) ≤ (i : Int) := by omega
  have cL := G0.out.pg.row_cell hL
  obtain ⟨rg, rc, ar, cr1, ev, rglt, ci, LI1⟩ := (G0.out.pg.rs L hL).at HI.out
  have HEV := Lib.hid ev
  rw [ev] at cL
  have HL1 := Lib.hid LI1
  obtain ⟨N, hN⟩ : ∃ N, (rs L).length = N := ⟨_, rfl⟩
  have HNN := Lib.hid hN
  obtain ⟨n1, hn1⟩ : ∃ N, (a1 ++ Xn V L u :: a2).length = N := ⟨_, rfl⟩
  rw [hN] at cL HEV iN
  rw [hn1] at ci HL1
  have iI : (i : Int) < (N : Int) := by omega
  clear LI1 ev hn1 hN
  obtain ⟨x0, x1, x2, x3, x4, l0, l1, l2, c0, c1, c2, c3, c4, c5, c6, c7, c8, c9, c10⟩ := SB.rule _ _ _ _ _ _ _ _ _ _ _ _ _ _ _ _ _ _ G0.out.sb
  obtain ⟨olt, llt, qlt, rlt, blt⟩ := G0.out.lt
  go_still_tail 12, (by kernel_rfl)
  change wpList _ _ _ _ _ (World.drew _)
  have G1 := Lib.hid G0.out.drew
  replace HL1 := Lib.hid HL1.out.drew
  go_wp2_with fail
  refine (begun_row HL1.out HN1.out (by have := HQ1.out; omega)).mono ?_
  rintro e w1 ⟨rv, rfl, hr, hb1⟩
  have G2 := Lib.hid (G1.out.below hb1)
  have HLR : Hid (LI w1 rv (Xn V L u :: (a2 ++ a1))) := Lib.hid hr.li
  obtain ⟨ra, rca, rfl, _⟩ := HLR.out.shape
  obtain ⟨n5, hn5⟩ : ∃ N, (Xn V L u :: (a2 ++ a1)).length = N := ⟨_, rfl⟩
  rw [hn5] at HLR ⊢
  clear hr hb1 G0 G1 HL1 cL ci rglt hn5 x0 x1 x2 x3 x4 l0 l1 l2 c0 c1 c2 c3 c4 c5 c6 c7 c8 c9 c10 olt llt qlt rlt blt
  obtain ⟨x0, x1, x2, x3, x4, l0, l1, l2, c0, c1, c2, c3, c4, c5, c6, c7, c8, c9, c10⟩ := SB.rule _ _ _ _ _ _ _ _ _ _ _ _ _ _ _ _ _ _ G2.out.sb
  obtain ⟨olt, llt, qlt, rlt, blt⟩ := G2.out.lt
  go_wp2_with fail
  have Gd := Lib.hid G2.out.drew
  have HLd := Lib.hid HLR.out.drew
  have Ga := Lib.hid (G2.out.alloc (.cells #[] 53)).drew
  have HEm := Lib.hid ((RsI.empty w1).below (Below.refl _ _).drew)
  have cL : w1.drew.cell? ⟨rb, L, none⟩ = some (.slice (some ⟨rg, 0, none⟩) N rc) := HEV.out ▸ Gd.out.pg.row_cell hL
  have hrule : ∀ W : World, (SB W ob lo q p rb lb n cr cl V S T 3 (L : Int) (s : Int) (u : Int) (v : Int) ∧ W.cell? ⟨rb, L, none⟩ = some (.slice (some ⟨rg, 0, none⟩) N rc)) → _ := fun W h => SB.rule ob lo q p rb lb n cr cl V S T 3 (L : Int) (s : Int) (u : Int) (v : Int) W h.1
  have HNL := Lib.hid HRL.out
  refine wp_region_held_drew (S := (fun W => SB W ob lo q p rb lb n cr cl V S T 3 (L : Int) (s : Int) (u : Int) (v : Int) ∧ W.cell? ⟨rb, L, none⟩ = some (.slice (some ⟨rg, 0, none⟩) N rc))) (by kernel_rfl) ?_ (fun hHeld => ?_)
  · exact ⟨Gd.out.sb, cL⟩
  refine wpAnyH_take (i := 1) (v := ?_) rfl (by kernel_rfl) (by kernel_rfl) (by kernel_rfl) (fun _ _ _ h => h) (Or.inl ⟨by rfl, ?_⟩) (by assumption) ?_
  rotate_left
  · (intro w hSw; (try dsimp only at hSw); go_simp; try with_reducible rfl)
  try simp only [Act.put, List.setIfInBounds_toArray, List.set_cons_zero, List.set_cons_succ, List.getElem_toArray, List.getElem_cons_zero, List.getElem_cons_succ]
  refine wpAnyH_take (i := 2) (v := ?_) rfl (by kernel_rfl) (by kernel_rfl) (by kernel_rfl) (fun _ _ _ h => h) (Or.inl ⟨by rfl, ?_⟩) (by assumption) ?_
  rotate_left
  · (intro w hSw; (try dsimp only at hSw); go_simp; try with_reducible rfl)
  try simp only [Act.put, List.setIfInBounds_toArray, List.set_cons_zero, List.set_cons_succ, List.getElem_toArray, List.getElem_cons_zero, List.getElem_cons_succ]
  refine wpAnyH_take (i := 3) (v := ?_) rfl (by kernel_rfl) (by kernel_rfl) (by kernel_rfl) (fun _ _ _ h => h) (Or.inl ⟨by rfl, ?_⟩) (by assumption) ?_
  rotate_left
  · (intro w hSw; (try dsimp only at hSw); go_simp; try with_reducible rfl)
  try simp only [Act.put, List.setIfInBounds_toArray, List.set_cons_zero, List.set_cons_succ, List.getElem_toArray, List.getElem_cons_zero, List.getElem_cons_succ]
  refine wpAnyH_take (i := 4) (v := ?_) rfl (by kernel_rfl) (by kernel_rfl) (by kernel_rfl) (fun _ _ _ h => h) (Or.inl ⟨by rfl, ?_⟩) (by assumption) ?_
  rotate_left
  · (intro w hSw; (try dsimp only at hSw); go_simp; try with_reducible rfl)
  try simp only [Act.put, List.setIfInBounds_toArray, List.set_cons_zero, List.set_cons_succ, List.getElem_toArray, List.getElem_cons_zero, List.getElem_cons_succ]
  refine wpAnyH_take (i := 5) (v := ?_) rfl (by kernel_rfl) (by kernel_rfl) (by kernel_rfl) (fun _ _ _ h => h) (Or.inl ⟨by rfl, ?_⟩) (by assumption) ?_
  rotate_left
  · (intro w hSw; (try dsimp only at hSw); go_simp; try with_reducible rfl)
  try simp only [Act.put, List.setIfInBounds_toArray, List.set_cons_zero, List.set_cons_succ, List.getElem_toArray, List.getElem_cons_zero, List.getElem_cons_succ]
  refine wpAnyH_take (i := 6) (v := ?_) rfl (by kernel_rfl) (by kernel_rfl) (by kernel_rfl) (fun _ _ _ h => h) (Or.inl ⟨by rfl, ?_⟩) (by assumption) ?_
  rotate_left
  · (intro w hSw; (try dsimp only at hSw); go_simp; try with_reducible rfl)
  try simp only [Act.put, List.setIfInBounds_toArray, List.set_cons_zero, List.set_cons_succ, List.getElem_toArray, List.getElem_cons_zero, List.getElem_cons_succ]
  refine wpAnyH_take (i := 7) (v := ?_) rfl (by kernel_rfl) (by kernel_rfl) (by kernel_rfl) (fun _ _ _ h => h) (Or.inl ⟨by rfl, ?_⟩) (by assumption) ?_
  rotate_left
  · (intro w hSw; (try dsimp only at hSw); go_simp; try with_reducible rfl)
  try simp only [Act.put, List.setIfInBounds_toArray, List.set_cons_zero, List.set_cons_succ, List.getElem_toArray, List.getElem_cons_zero, List.getElem_cons_succ]
  refine wpAnyH_take (i := 8) (v := ?_) rfl (by kernel_rfl) (by kernel_rfl) (by kernel_rfl) (fun _ _ _ h => h) (Or.inl ⟨by rfl, ?_⟩) (by assumption) ?_
  rotate_left
  · (intro w hSw; (try dsimp only at hSw); go_simp; try with_reducible rfl)
  try simp only [Act.put, List.setIfInBounds_toArray, List.set_cons_zero, List.set_cons_succ, List.getElem_toArray, List.getElem_cons_zero, List.getElem_cons_succ]
  refine wpAnyH_ready (rs := [0]) (by kernel_rfl) (by simp) ?_
  refine AllReadyH.cons rfl (fun K hK => ?_) ?_
  rotate_left
  · exact AllReadyH.nil
  go_simp
  refine hK.out _ _ ?_ (fun hHeld => ?_)
  · (try dsimp only); exact ⟨(Gd.out.alloc (.cells #[] 53)).sb, HEV.out ▸ (Gd.out.alloc (.cells #[] 53)).pg.row_cell hL⟩
  clear hK K
  try simp only [Act.put, List.setIfInBounds_toArray, List.set_cons_zero, List.set_cons_succ, List.getElem_toArray, List.getElem_cons_zero, List.getElem_cons_succ]
  refine wpAnyH_ready (rs := [9]) (by kernel_rfl) (by simp) ?_
  refine AllReadyH.cons rfl (fun K hK => ?_) ?_
  rotate_left
  · exact AllReadyH.nil
  obtain ⟨vs, hrv, hvl, hvi⟩ := Ga.out.pg.rs L hL
  rw [HEV.out] at hrv
  have hvN : vs.length = N := hvl.trans HNN.out
  obtain ⟨cs, hz, hcs⟩ : ∃ cs, Blk (w1.alloc (.cells #[] 53)).drew rg 53 cs ∧ ∀ (j : Nat) (u : Value), vs[j]? = some u → cs[j]? = some u := by
    rcases hrv.shape with ⟨h0, _⟩ | ⟨g9, c9, cs, e9, _, hz, _, _, hcs⟩
    · cases h0
    · injection e9 with e1 e2 e3
      injection e1 with e1
      injection e1 with e1
      subst e1
      exact ⟨cs, hz, hcs⟩
  refine step_append_rsi (by rfl) _ _ (by rfl) rfl HEm.out vs hvl hvi ⟨rg, 0, none⟩ N rc HNN.out.symm rfl (fun j u hj => by rw [Addr.add_lit, Nat.zero_add]; exact (hz.cell j).trans (hcs j u hj)) (by have := HNL.out; rw [List.length_nil]; omega) (by simp) ?_
  intro v5 w5 hR5 hg5
  have HB5 : Hid (Below w1.heap.size w1 w5) := Lib.hid ((((Below.refl _ _).alloc (Nat.le_refl w1.heap.size) (.cells #[] 53)).drew.grown hg5 (by simp) (fun r hr => (HEm.out.lt r hr).1)))
  have G5 := Lib.hid (G2.out.below HB5.out)
  have hR5' : RsI w5 w1.heap.size v5 (rs L) := hR5
  have HR5 := Lib.hid hR5'
  have HL5 := Lib.hid (HLR.out.below HB5.out)
  have BASE := Lib.hid G2.out.size
  obtain ⟨rg5, rc5, _, _, ev5, rglt5, ci5, _⟩ := hR5'.at HI.out
  rw [HNN.out] at ev5
  subst ev5
  have hfz5 : w5.frozen? ⟨rg5, i, none⟩ = false := by
    obtain ⟨vs6, hr6, _⟩ := hR5'
    rcases hr6.shape with ⟨h0, _⟩ | ⟨g9, c9, cs9, e9, _, hz9, _⟩
    · cases h0
    · injection e9 with e1 e2 e3
      injection e1 with e1
      injection e1 with e1
      rw [e1]; exact hz9.frozen i
  have GE5 := Lib.hid (show w1.heap.size ≤ rg5 from ((hR5'.lt rg5 rfl).1))
  have hc5 : SB w5 ob lo q p rb lb n cr cl V S T 3 (L : Int) (s : Int) (u : Int) (v : Int) ∧ w5.cell? ⟨rb, L, none⟩ = some (.slice (some ⟨rg, 0, none⟩) N rc) := ⟨G5.out.sb, HEV.out ▸ G5.out.pg.row_cell hL⟩
  clear hrv hvl hvi hvN hz hcs hg5 hR5 hR5'
  refine hK.out _ _ ?_ (fun hHeld => ?_)
  · (try dsimp only); exact hc5
  clear hK K
  try simp only [Act.put, List.setIfInBounds_toArray, List.set_cons_zero, List.set_cons_succ, List.getElem_toArray, List.getElem_cons_zero, List.getElem_cons_succ]
  refine wpAnyH_take (i := 10) (v := ?_) rfl (by kernel_rfl) (by kernel_rfl) (by kernel_rfl) (fun _ _ _ h => h) (Or.inl ⟨by rfl, ?_⟩) (by assumption) ?_
  rotate_left
  · (intro w hSw; (try dsimp only at hSw); go_simp; try with_reducible rfl)
  try simp only [Act.put, List.setIfInBounds_toArray, List.set_cons_zero, List.set_cons_succ, List.getElem_toArray, List.getElem_cons_zero, List.getElem_cons_succ]
  refine wpAnyH_done (by kernel_rfl) ?_ _
  clear cL hrule x0 x1 x2 x3 x4 l0 l1 l2 c0 c1 c2 c3 c4 c5 c6 c7 c8 c9 c10 olt llt qlt rlt blt
  have hc5b := hc5
  clear hc5
  obtain ⟨x0, x1, x2, x3, x4, l0, l1, l2, c0, c1, c2, c3, c4, c5, c6, c7, c8, c9, c10⟩ := SB.rule _ _ _ _ _ _ _ _ _ _ _ _ _ _ _ _ _ _ G5.out.sb
  obtain ⟨olt, llt, qlt, rlt, blt⟩ := G5.out.lt
  go_wp2_with fail
  have HB6 := Lib.hid (HB5.out.setCell (p := ⟨rg5, i, none⟩) GE5.out (.slice ra n5 rca))
  have G6 := Lib.hid (G2.out.below HB6.out)
  have HR6 := Lib.hid ((HR5.out.set (i := i) HL5.out).mono BASE.out)
  have HL6 := Lib.hid (HLR.out.below HB6.out)
  generalize w5.setCell ⟨rg5, i, none⟩ (.slice ra n5 rca) = W6 at G6 HR6 HL6 ⊢
  clear G2 Gd HLd Ga HEm HLR G5 HR5 HL5 BASE hc5b hfz5 rglt5 ci5 HB5 HB6 GE5 x0 x1 x2 x3 x4 l0 l1 l2 c0 c1 c2 c3 c4 c5 c6 c7 c8 c9 c10 olt llt qlt rlt blt
  have rfz := G6.out.pg.row_frozen L
  have rcl := G6.out.pg.row_cell hL
  rw [HEV.out] at rcl
  obtain ⟨x0, x1, x2, x3, x4, l0, l1, l2, c0, c1, c2, c3, c4, c5, c6, c7, c8, c9, c10⟩ := SB.rule _ _ _ _ _ _ _ _ _ _ _ _ _ _ _ _ _ _ G6.out.sb
  obtain ⟨olt, llt, qlt, rlt, blt⟩ := G6.out.lt
  go_region
  have G7 := Lib.hid (G6.out.setr hL HR6.out).drew
  have HL7 : Hid (LI ((W6.setCell ⟨rb, L, none⟩ (.slice (some ⟨rg5, 0, none⟩) N rc5)).drew) (.slice ra n5 rca) (Xn V L u :: (a2 ++ a1))) := Lib.hid (by obtain ⟨z1, y1, _⟩ := G6.out.pg.rw; exact LI.drew (HL6.out.kp (Kp.set y1 (by decide) L _)))
  generalize (W6.setCell ⟨rb, L, none⟩ (.slice (some ⟨rg5, 0, none⟩) N rc5)).drew = W7 at G7 HL7 ⊢
  clear G6 HR6 HL6 rfz rcl x0 x1 x2 x3 x4 l0 l1 l2 c0 c1 c2 c3 c4 c5 c6 c7 c8 c9 c10 olt llt qlt rlt blt
  go_wp2_with fail
  obtain ⟨t, ht, rt⟩ := HLv.out.has _ (List.mem_of_getElem? HI.out)
  have HT := Lib.hid (And.intro ht rt)
  have HQ5 : Hid ((Xn V L u :: (a2 ++ a1)).length ≤ 100000) := Lib.hid (by have q1 := HQ1.out; simp only [List.length_append, List.length_cons] at *; omega)
  have Gd := Lib.hid G7.out.drew
  have HLd := Lib.hid HL7.out.drew
  have hrule := SB.rule ob lo q p rb lb n cr cl V S T 3 (L : Int) (s : Int) (u : Int) (v : Int)
  clear ht rt G7 HL7
  obtain ⟨x0, x1, x2, x3, x4, l0, l1, l2, c0, c1, c2, c3, c4, c5, c6, c7, c8, c9, c10⟩ := SB.rule _ _ _ _ _ _ _ _ _ _ _ _ _ _ _ _ _ _ Gd.out.sb
  obtain ⟨olt, llt, qlt, rlt, blt⟩ := Gd.out.lt
  go_region_held3 (fun W => SB W ob lo q p rb lb n cr cl V S T 3 (L : Int) (s : Int) (u : Int) (v : Int)) (first | (with_reducible assumption) | (with_reducible exact G11.out.sb) | (with_reducible exact G10.out.sb) | (with_reducible exact G9.out.sb) | (with_reducible exact Gd.out.sb))
    (first
      | (go_at_call 16; ((with_reducible refine (tbegin Gd.out.pg.fm lL hu HT.out.1 HT.out.2 (by omega)).mono ?_); rintro e w2 ⟨g1, ts1, tn, rfl, A1, M1, R1, K1, O1⟩; have G9 := Lib.hid (Gd.out.tree A1 O1); have HL9 := Lib.hid (HLd.out.onlyT Gd.out.pg.fm.tm O1); have HM := Lib.hid (And.intro M1 (And.intro (show tn.row = (Xn V L u :: (a2 ++ a1)) from R1) K1))))
      | (go_at_call 15; ((with_reducible refine (hlist G9.out.pg.fm HM.out.1 (by omega) rfl).mono ?_); rintro e w2 ⟨v9, rfl, L9, _, A1, O1⟩; have G10 := Lib.hid (G9.out.tree A1 O1); have HL10 := Lib.hid (HL9.out.onlyT G9.out.pg.fm.tm O1); have HV := Lib.hid (LI.cong L9 HM.out.2.1)))
      | (go_at_call 19; ((with_reducible refine (same_yes HV.out HL10.out HQ5.out).mono ?_); rintro e w2 ⟨rfl, B1⟩; have G11 := Lib.hid (G10.out.below B1))))
  clear x0 x1 x2 x3 x4 l0 l1 l2 c0 c1 c2 c3 c4 c5 c6 c7 c8 c9 c10 olt llt qlt rlt blt
  go_wp2_with fail
  go_ret
  exact ⟨rfl, G11.out.fin (Lv.all_begun HLA.out HR.out G11.out.pg.hn hL HF.out HI.out HT.out.2 HM.out.1 HM.out.2.1 HM.out.2.2) HV8.out.1 HV8.out.2 (by omega)⟩
end

end Go.Proofs.Ytahabfjngeicmaa
