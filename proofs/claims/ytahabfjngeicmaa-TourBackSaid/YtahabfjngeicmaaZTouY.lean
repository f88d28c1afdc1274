/- The law's step: a cut. Printed by wip/tools/tour2.py. -/
import Derived.Test.YtahabfjngeicmaaZTouT
import Derived.Test.YtahabfjngeicmaaZTouW
import Derived.Deep.DeepCutAuto
import Derived.StillTailTactics
namespace Go.Proofs.Ytahabfjngeicmaa
open Go.RowKit

set_option maxRecDepth 100000

section
variable {w : World} {V S T kd : Int} {n q p gb cap rb lb cr cl base m : Nat} {gB : Nat → Nat} {g : Mg9} {ts : List Tp} {vr : Nat → Value} {rs : Nat → List (List Nat)} {gr : Nat → List (Option (Nat × Nat))}
set_option maxHeartbeats 8000000 in
theorem step_cut (h : PL w V S T n q p gb cap rb lb cr cl base gB m g ts vr rs gr) (hb : base ≤ w.heap.size) (hm : m ≤ 700000) {L s u v : Nat} (hL : L < n) (hs : (s : Int) < S) (hu : (u : Int) < V) (hv : (v : Int) < V) {i k : Nat} {r1 r2 : List Nat} {e : Option (Nat × Nat)} (hi : (rs L)[i]? = some r1) (hx : Xn V L u ∈ r1) (hk : (rs L)[k]? = some r2) (hy : Xn V L v ∈ r2) (he : (gr L)[s]? = some e) :
    Calls Try.prog 11 #[.pointer (some ⟨q, 0, none⟩), .agg #[.int .i64 2, .int .i64 (L : Int), .int .i64 (s : Int), .int .i64 (u : Int), .int .i64 (v : Int)]] w (StD V S T n q p gb cap rb lb cr cl base gB m w) := by
  have HR := Lib.hid h.hR
  have lL := h.lL hL
  have H0 := Lib.hid (SI.new (kd := 2) (a := (L : Int)) (b := (s : Int)) (c := (u : Int)) (d := (v : Int)) h hb)
  have HLv := Lib.hid (h.lv L hL)
  have HF := Lib.hid h.fi
  have hn96 := h.n96
  have HRL := Lib.hid (h.rows_len hL)
  have HRR : Hid (∀ r ∈ rs L, r.length ≤ 96) := Lib.hid fun r hr => h.row_len hL hr
  have hn16 : (L : Int) < (n : Int) := by omega
  obtain ⟨c0, c1, c2, _, _, _, _, _, _, c9, c10⟩ := h.pg.cells
  have qlt := h.pg.lt
  have g0 : ¬ (L : Int) < 0 := by omega
  have gd0 : decide ((L : Int) < 0) = false := decide_eq_false g0
  have g1 : ¬ lv V ≤ (L : Int) := by omega
  have gd1 : decide (lv V ≤ (L : Int)) = false := decide_eq_false g1
  have g2 : ¬ (s : Int) < 0 := by omega
  have gd2 : decide ((s : Int) < 0) = false := decide_eq_false g2
  have g3 : ¬ S ≤ (s : Int) := by omega
  have gd3 : decide (S ≤ (s : Int)) = false := decide_eq_false g3
  have g4 : ¬ (u : Int) < 0 := by omega
  have gd4 : decide ((u : Int) < 0) = false := decide_eq_false g4
  have g5 : ¬ V ≤ (u : Int) := by omega
  have gd5 : decide (V ≤ (u : Int)) = false := decide_eq_false g5
  have g6 : ¬ (v : Int) < 0 := by omega
  have gd6 : decide ((v : Int) < 0) = false := decide_eq_false g6
  have g7 : ¬ V ≤ (v : Int) := by omega
  have gd7 : decide (V ≤ (v : Int)) = false := decide_eq_false g7
  have HI := Lib.hid hi
  have HXU := Lib.hid hx
  have HK := Lib.hid hk
  have HYV := Lib.hid hy
  have HE := Lib.hid he
  have HLA := Lib.hid h.lv
  have HV8 := Lib.hid (And.intro h.v8 h.s8)
  have HU1 : Hid (∀ (j : Nat) (r' : List Nat), (rs L)[j]? = some r' → Xn V L u ∈ r' → j = i) := Lib.hid fun j r' h1 h2 => idx_uniq (h.lv L hL).nd h1 hi h2 hx
  have HU2 : Hid (∀ (j : Nat) (r' : List Nat), (rs L)[j]? = some r' → Xn V L v ∈ r' → j = k) := Lib.hid fun j r' h1 h2 => idx_uniq (h.lv L hL).nd h1 hk h2 hy
  have HRL1 : Hid ((rs L).length ≤ 1000) := Lib.hid (Nat.le_trans (h.rows_len hL) (by omega))
  have HRR1 : Hid (∀ r' ∈ rs L, r'.length ≤ 1000) := Lib.hid fun r hr => Nat.le_trans (h.row_len hL hr) (by omega)
  clear hi hx hk hy he
  clear h
  go_enter Try.func11, Try.ntmps11
  go_wp2_with fail
  generalize w.heap.size + 1 = lo at H0 ⊢
  generalize w.heap.size = ob at H0 ⊢
  generalize (w.alloc (.cells #[.int .i64 2, .int .i64 (L : Int), .int .i64 (s : Int), .int .i64 (u : Int), .int .i64 (v : Int)] 29)).alloc (.cells #[.int .i64 V, .int .i64 S, .int .i64 T] 23) = W0 at H0 ⊢
  clear c0 c1 c2 c9 c10 qlt
  obtain ⟨x0, x1, x2, x3, x4, l0, l1, l2, c0, c1, c2, c3, c4, c5, c6, c7, c8, c9, c10⟩ := SB.rule _ _ _ _ _ _ _ _ _ _ _ _ _ _ _ _ _ _ H0.out.sb
  obtain ⟨olt, llt, qlt, rlt, blt⟩ := H0.out.lt
  have hrule := SB.rule ob lo q p rb lb n cr cl V S T 2 (L : Int) (s : Int) (u : Int) (v : Int)
  have Hd := Lib.hid H0.out.drew
  clear H0
  refine wp_region_held_drew (S := (fun W => SB W ob lo q p rb lb n cr cl V S T 2 (L : Int) (s : Int) (u : Int) (v : Int))) (by kernel_rfl) ?_ (fun hHeld => ?_)
  · exact Hd.out.sb
  refine wpAnyH_take (i := 0) (v := ?_) rfl (by kernel_rfl) (by kernel_rfl) (by kernel_rfl) (fun _ _ _ h => h) (Or.inl ⟨by rfl, ?_⟩) (by assumption) ?_
  rotate_left
  · (intro w hSw; (try dsimp only at hSw); go_simp; try with_reducible rfl)
  try simp only [Act.put, List.setIfInBounds_toArray, List.set_cons_zero, List.set_cons_succ, List.getElem_toArray, List.getElem_cons_zero]
  refine wpAnyH_take (i := 1) (v := ?_) rfl (by kernel_rfl) (by kernel_rfl) (by kernel_rfl) (fun _ _ _ h => h) (Or.inl ⟨by rfl, ?_⟩) (by assumption) ?_
  rotate_left
  · (intro w hSw; (try dsimp only at hSw); go_simp; try with_reducible rfl)
  try simp only [Act.put, List.setIfInBounds_toArray, List.set_cons_zero, List.set_cons_succ, List.getElem_toArray, List.getElem_cons_zero, List.getElem_cons_succ]
  refine wpAnyH_take (i := 2) (v := ?_) rfl (by kernel_rfl) (by kernel_rfl) (by kernel_rfl) (fun _ _ _ h => h) (Or.inl ⟨by rfl, ?_⟩) (by assumption) ?_
  rotate_left
  · (intro w hSw; (try dsimp only at hSw); go_simp; try with_reducible rfl)
  try simp only [Act.put, List.setIfInBounds_toArray, List.set_cons_zero, List.set_cons_succ, List.getElem_toArray, List.getElem_cons_zero, List.getElem_cons_succ]
  refine wpAnyH_take (i := 3) (v := ?_) rfl (by kernel_rfl) (by kernel_rfl) (by kernel_rfl) (fun _ _ _ h => h) (Or.inl ⟨by rfl, ?_⟩) (by assumption) ?_
  rotate_left
  · (intro w hSw; (try dsimp only at hSw); go_simp; try with_reducible rfl)
  try simp only [Act.put, List.setIfInBounds_toArray, List.set_cons_zero, List.set_cons_succ, List.getElem_toArray, List.getElem_cons_zero, List.getElem_cons_succ]
  refine wpAnyH_take (i := 4) (v := ?_) rfl (by kernel_rfl) (by kernel_rfl) (by kernel_rfl) (fun _ _ _ h => h) (Or.inl ⟨by rfl, ?_⟩) (by assumption) ?_
  rotate_left
  · (intro w hSw; (try dsimp only at hSw); go_simp; try with_reducible rfl)
  try simp only [Act.put, List.setIfInBounds_toArray, List.set_cons_zero, List.set_cons_succ, List.getElem_toArray, List.getElem_cons_zero, List.getElem_cons_succ]
  refine wpAnyH_take (i := 5) (v := ?_) rfl (by kernel_rfl) (by kernel_rfl) (by kernel_rfl) (fun _ _ _ h => h) (Or.inl ⟨by rfl, ?_⟩) (by assumption) ?_
  rotate_left
  · (intro w hSw; (try dsimp only at hSw); go_simp; try with_reducible rfl)
  try simp only [Act.put, List.setIfInBounds_toArray, List.set_cons_zero, List.set_cons_succ, List.getElem_toArray, List.getElem_cons_zero, List.getElem_cons_succ]
  refine wpAnyH_take (i := 6) (v := ?_) rfl (by kernel_rfl) (by kernel_rfl) (by kernel_rfl) (fun _ _ _ h => h) (Or.inl ⟨by rfl, ?_⟩) (by assumption) ?_
  rotate_left
  · (intro w hSw; (try dsimp only at hSw); go_simp; try with_reducible rfl)
  try simp only [Act.put, List.setIfInBounds_toArray, List.set_cons_zero, List.set_cons_succ, List.getElem_toArray, List.getElem_cons_zero, List.getElem_cons_succ]
  refine wpAnyH_ready (rs := [7]) (by kernel_rfl) (by simp) ?_
  refine AllReadyH.cons rfl (fun K hK => ?_) ?_
  rotate_left
  · exact AllReadyH.nil
  go_simp
  (refine (levels_yes _ _ _ HR.out _).mono ?_; rintro e w2 ⟨rfl, B1⟩; have H1 := Lib.hid (Hd.out.below B1))
  go_wp2_with fail
  refine hK.out _ _ ?_ (fun hHeld => ?_)
  · (try dsimp only); (first | (with_reducible assumption) | (with_reducible exact H1.out.sb) | (with_reducible exact Hd.out.sb))
  clear hK K
  try simp only [Act.put, List.setIfInBounds_toArray, List.set_cons_zero, List.set_cons_succ, List.getElem_toArray, List.getElem_cons_zero, List.getElem_cons_succ]
  refine wpAnyH_take (i := 8) (v := ?_) rfl (by kernel_rfl) (by kernel_rfl) (by kernel_rfl) (fun _ _ _ h => h) (Or.inl ⟨by rfl, ?_⟩) (by assumption) ?_
  rotate_left
  · (intro w hSw; (try dsimp only at hSw); go_simp; try with_reducible rfl)
  try simp only [Act.put, List.setIfInBounds_toArray, List.set_cons_zero, List.set_cons_succ, List.getElem_toArray, List.getElem_cons_zero, List.getElem_cons_succ]
  refine wpAnyH_take (i := 9) (v := ?_) rfl (by kernel_rfl) (by kernel_rfl) (by kernel_rfl) (fun _ _ _ h => h) (Or.inl ⟨by rfl, ?_⟩) (by assumption) ?_
  rotate_left
  · (intro w hSw; (try dsimp only at hSw); go_simp; try with_reducible rfl)
  try simp only [Act.put, List.setIfInBounds_toArray, List.set_cons_zero, List.set_cons_succ, List.getElem_toArray, List.getElem_cons_zero, List.getElem_cons_succ]
  refine wpAnyH_take (i := 10) (v := ?_) rfl (by kernel_rfl) (by kernel_rfl) (by kernel_rfl) (fun _ _ _ h => h) (Or.inl ⟨by rfl, ?_⟩) (by assumption) ?_
  rotate_left
  · (intro w hSw; (try dsimp only at hSw); go_simp; try with_reducible rfl)
  try simp only [Act.put, List.setIfInBounds_toArray, List.set_cons_zero, List.set_cons_succ, List.getElem_toArray, List.getElem_cons_zero, List.getElem_cons_succ]
  refine wpAnyH_take (i := 11) (v := ?_) rfl (by kernel_rfl) (by kernel_rfl) (by kernel_rfl) (fun _ _ _ h => h) (Or.inl ⟨by rfl, ?_⟩) (by assumption) ?_
  rotate_left
  · (intro w hSw; (try dsimp only at hSw); go_simp; try with_reducible rfl)
  try simp only [Act.put, List.setIfInBounds_toArray, List.set_cons_zero, List.set_cons_succ, List.getElem_toArray, List.getElem_cons_zero, List.getElem_cons_succ]
  refine wpAnyH_take (i := 12) (v := ?_) rfl (by kernel_rfl) (by kernel_rfl) (by kernel_rfl) (fun _ _ _ h => h) (Or.inl ⟨by rfl, ?_⟩) (by assumption) ?_
  rotate_left
  · (intro w hSw; (try dsimp only at hSw); go_simp; try with_reducible rfl)
  try simp only [Act.put, List.setIfInBounds_toArray, List.set_cons_zero, List.set_cons_succ, List.getElem_toArray, List.getElem_cons_zero, List.getElem_cons_succ]
  refine wpAnyH_take (i := 13) (v := ?_) rfl (by kernel_rfl) (by kernel_rfl) (by kernel_rfl) (fun _ _ _ h => h) (Or.inl ⟨by rfl, ?_⟩) (by assumption) ?_
  rotate_left
  · (intro w hSw; (try dsimp only at hSw); go_simp; try with_reducible rfl)
  try simp only [Act.put, List.setIfInBounds_toArray, List.set_cons_zero, List.set_cons_succ, List.getElem_toArray, List.getElem_cons_zero, List.getElem_cons_succ]
  refine wpAnyH_take (i := 14) (v := ?_) rfl (by kernel_rfl) (by kernel_rfl) (by kernel_rfl) (fun _ _ _ h => h) (Or.inl ⟨by rfl, ?_⟩) (by assumption) ?_
  rotate_left
  · (intro w hSw; (try dsimp only at hSw); go_simp; try with_reducible rfl)
  try simp only [Act.put, List.setIfInBounds_toArray, List.set_cons_zero, List.set_cons_succ, List.getElem_toArray, List.getElem_cons_zero, List.getElem_cons_succ]
  refine wpAnyH_take (i := 15) (v := ?_) rfl (by kernel_rfl) (by kernel_rfl) (by kernel_rfl) (fun _ _ _ h => h) (Or.inl ⟨by rfl, ?_⟩) (by assumption) ?_
  rotate_left
  · (intro w hSw; (try dsimp only at hSw); go_simp; try with_reducible rfl)
  try simp only [Act.put, List.setIfInBounds_toArray, List.set_cons_zero, List.set_cons_succ, List.getElem_toArray, List.getElem_cons_zero, List.getElem_cons_succ]
  refine wpAnyH_take (i := 16) (v := ?_) rfl (by kernel_rfl) (by kernel_rfl) (by kernel_rfl) (fun _ _ _ h => h) (Or.inl ⟨by rfl, ?_⟩) (by assumption) ?_
  rotate_left
  · (intro w hSw; (try dsimp only at hSw); go_simp; try with_reducible rfl)
  try simp only [Act.put, List.setIfInBounds_toArray, List.set_cons_zero, List.set_cons_succ, List.getElem_toArray, List.getElem_cons_zero, List.getElem_cons_succ]
  refine wpAnyH_take (i := 17) (v := ?_) rfl (by kernel_rfl) (by kernel_rfl) (by kernel_rfl) (fun _ _ _ h => h) (Or.inl ⟨by rfl, ?_⟩) (by assumption) ?_
  rotate_left
  · (intro w hSw; (try dsimp only at hSw); go_simp; try with_reducible rfl)
  try simp only [Act.put, List.setIfInBounds_toArray, List.set_cons_zero, List.set_cons_succ, List.getElem_toArray, List.getElem_cons_zero, List.getElem_cons_succ]
  refine wpAnyH_take (i := 18) (v := ?_) rfl (by kernel_rfl) (by kernel_rfl) (by kernel_rfl) (fun _ _ _ h => h) (Or.inl ⟨by rfl, ?_⟩) (by assumption) ?_
  rotate_left
  · (intro w hSw; (try dsimp only at hSw); go_simp; try with_reducible rfl)
  try simp only [Act.put, List.setIfInBounds_toArray, List.set_cons_zero, List.set_cons_succ, List.getElem_toArray, List.getElem_cons_zero, List.getElem_cons_succ]
  refine wpAnyH_take (i := 19) (v := ?_) rfl (by kernel_rfl) (by kernel_rfl) (by kernel_rfl) (fun _ _ _ h => h) (Or.inl ⟨by rfl, ?_⟩) (by assumption) ?_
  rotate_left
  · (intro w hSw; (try dsimp only at hSw); go_simp; try with_reducible rfl)
  try simp only [Act.put, List.setIfInBounds_toArray, List.set_cons_zero, List.set_cons_succ, List.getElem_toArray, List.getElem_cons_zero, List.getElem_cons_succ]
  refine wpAnyH_take (i := 20) (v := ?_) rfl (by kernel_rfl) (by kernel_rfl) (by kernel_rfl) (fun _ _ _ h => h) (Or.inl ⟨by rfl, ?_⟩) (by assumption) ?_
  rotate_left
  · (intro w hSw; (try dsimp only at hSw); go_simp; try with_reducible rfl)
  try simp only [Act.put, List.setIfInBounds_toArray, List.set_cons_zero, List.set_cons_succ, List.getElem_toArray, List.getElem_cons_zero, List.getElem_cons_succ]
  refine wpAnyH_take (i := 21) (v := ?_) rfl (by kernel_rfl) (by kernel_rfl) (by kernel_rfl) (fun _ _ _ h => h) (Or.inl ⟨by rfl, ?_⟩) (by assumption) ?_
  rotate_left
  · (intro w hSw; (try dsimp only at hSw); go_simp; try with_reducible rfl)
  try simp only [Act.put, List.setIfInBounds_toArray, List.set_cons_zero, List.set_cons_succ, List.getElem_toArray, List.getElem_cons_zero, List.getElem_cons_succ]
  refine wpAnyH_take (i := 22) (v := ?_) rfl (by kernel_rfl) (by kernel_rfl) (by kernel_rfl) (fun _ _ _ h => h) (Or.inl ⟨by rfl, ?_⟩) (by assumption) ?_
  rotate_left
  · (intro w hSw; (try dsimp only at hSw); go_simp; try with_reducible rfl)
  try simp only [Act.put, List.setIfInBounds_toArray, List.set_cons_zero, List.set_cons_succ, List.getElem_toArray, List.getElem_cons_zero, List.getElem_cons_succ]
  refine wpAnyH_take (i := 23) (v := ?_) rfl (by kernel_rfl) (by kernel_rfl) (by kernel_rfl) (fun _ _ _ h => h) (Or.inl ⟨by rfl, ?_⟩) (by assumption) ?_
  rotate_left
  · (intro w hSw; (try dsimp only at hSw); go_simp; try with_reducible rfl)
  try simp only [Act.put, List.setIfInBounds_toArray, List.set_cons_zero, List.set_cons_succ, List.getElem_toArray, List.getElem_cons_zero, List.getElem_cons_succ]
  refine wpAnyH_take (i := 24) (v := ?_) rfl (by kernel_rfl) (by kernel_rfl) (by kernel_rfl) (fun _ _ _ h => h) (Or.inl ⟨by rfl, ?_⟩) (by assumption) ?_
  rotate_left
  · (intro w hSw; (try dsimp only at hSw); go_simp; try with_reducible rfl)
  try simp only [Act.put, List.setIfInBounds_toArray, List.set_cons_zero, List.set_cons_succ, List.getElem_toArray, List.getElem_cons_zero, List.getElem_cons_succ]
  refine wpAnyH_take (i := 25) (v := ?_) rfl (by kernel_rfl) (by kernel_rfl) (by kernel_rfl) (fun _ _ _ h => h) (Or.inl ⟨by rfl, ?_⟩) (by assumption) ?_
  rotate_left
  · (intro w hSw; (try dsimp only at hSw); go_simp; try with_reducible rfl)
  try simp only [Act.put, List.setIfInBounds_toArray, List.set_cons_zero, List.set_cons_succ, List.getElem_toArray, List.getElem_cons_zero, List.getElem_cons_succ]
  refine wpAnyH_take (i := 26) (v := ?_) rfl (by kernel_rfl) (by kernel_rfl) (by kernel_rfl) (fun _ _ _ h => h) (Or.inl ⟨by rfl, ?_⟩) (by assumption) ?_
  rotate_left
  · (intro w hSw; (try dsimp only at hSw); go_simp; try with_reducible rfl)
  try simp only [Act.put, List.setIfInBounds_toArray, List.set_cons_zero, List.set_cons_succ, List.getElem_toArray, List.getElem_cons_zero, List.getElem_cons_succ]
  refine wpAnyH_take (i := 27) (v := ?_) rfl (by kernel_rfl) (by kernel_rfl) (by kernel_rfl) (fun _ _ _ h => h) (Or.inl ⟨by rfl, ?_⟩) (by assumption) ?_
  rotate_left
  · (intro w hSw; (try dsimp only at hSw); go_simp; try with_reducible rfl)
  try simp only [Act.put, List.setIfInBounds_toArray, List.set_cons_zero, List.set_cons_succ, List.getElem_toArray, List.getElem_cons_zero, List.getElem_cons_succ]
  refine wpAnyH_take (i := 28) (v := ?_) rfl (by kernel_rfl) (by kernel_rfl) (by kernel_rfl) (fun _ _ _ h => h) (Or.inl ⟨by rfl, ?_⟩) (by assumption) ?_
  rotate_left
  · (intro w hSw; (try dsimp only at hSw); go_simp; try with_reducible rfl)
  try simp only [Act.put, List.setIfInBounds_toArray, List.set_cons_zero, List.set_cons_succ, List.getElem_toArray, List.getElem_cons_zero, List.getElem_cons_succ]
  refine wpAnyH_take (i := 29) (v := ?_) rfl (by kernel_rfl) (by kernel_rfl) (by kernel_rfl) (fun _ _ _ h => h) (Or.inl ⟨by rfl, ?_⟩) (by assumption) ?_
  rotate_left
  · (intro w hSw; (try dsimp only at hSw); go_simp; try with_reducible rfl)
  try simp only [Act.put, List.setIfInBounds_toArray, List.set_cons_zero, List.set_cons_succ, List.getElem_toArray, List.getElem_cons_zero, List.getElem_cons_succ]
  refine wpAnyH_take (i := 30) (v := ?_) rfl (by kernel_rfl) (by kernel_rfl) (by kernel_rfl) (fun _ _ _ h => h) (Or.inl ⟨by rfl, ?_⟩) (by assumption) ?_
  rotate_left
  · (intro w hSw; (try dsimp only at hSw); go_simp; try with_reducible rfl)
  try simp only [Act.put, List.setIfInBounds_toArray, List.set_cons_zero, List.set_cons_succ, List.getElem_toArray, List.getElem_cons_zero, List.getElem_cons_succ]
  refine wpAnyH_take (i := 31) (v := ?_) rfl (by kernel_rfl) (by kernel_rfl) (by kernel_rfl) (fun _ _ _ h => h) (Or.inl ⟨by rfl, ?_⟩) (by assumption) ?_
  rotate_left
  · (intro w hSw; (try dsimp only at hSw); go_simp; try with_reducible rfl)
  try simp only [Act.put, List.setIfInBounds_toArray, List.set_cons_zero, List.set_cons_succ, List.getElem_toArray, List.getElem_cons_zero, List.getElem_cons_succ]
  refine wpAnyH_take (i := 32) (v := ?_) rfl (by kernel_rfl) (by kernel_rfl) (by kernel_rfl) (fun _ _ _ h => h) (Or.inl ⟨by rfl, ?_⟩) (by assumption) ?_
  rotate_left
  · (intro w hSw; (try dsimp only at hSw); go_simp; try with_reducible rfl)
  try simp only [Act.put, List.setIfInBounds_toArray, List.set_cons_zero, List.set_cons_succ, List.getElem_toArray, List.getElem_cons_zero, List.getElem_cons_succ]
  refine wpAnyH_take (i := 33) (v := ?_) rfl (by kernel_rfl) (by kernel_rfl) (by kernel_rfl) (fun _ _ _ h => h) (Or.inl ⟨by rfl, ?_⟩) (by assumption) ?_
  rotate_left
  · (intro w hSw; (try dsimp only at hSw); go_simp; try with_reducible rfl)
  try simp only [Act.put, List.setIfInBounds_toArray, List.set_cons_zero, List.set_cons_succ, List.getElem_toArray, List.getElem_cons_zero, List.getElem_cons_succ]
  refine wpAnyH_take (i := 34) (v := ?_) rfl (by kernel_rfl) (by kernel_rfl) (by kernel_rfl) (fun _ _ _ h => h) (Or.inl ⟨by rfl, ?_⟩) (by assumption) ?_
  rotate_left
  · (intro w hSw; (try dsimp only at hSw); go_simp; try with_reducible rfl)
  try simp only [Act.put, List.setIfInBounds_toArray, List.set_cons_zero, List.set_cons_succ, List.getElem_toArray, List.getElem_cons_zero, List.getElem_cons_succ]
  refine wpAnyH_take (i := 35) (v := ?_) rfl (by kernel_rfl) (by kernel_rfl) (by kernel_rfl) (fun _ _ _ h => h) (Or.inl ⟨by rfl, ?_⟩) (by assumption) ?_
  rotate_left
  · (intro w hSw; (try dsimp only at hSw); go_simp; try with_reducible rfl)
  try simp only [Act.put, List.setIfInBounds_toArray, List.set_cons_zero, List.set_cons_succ, List.getElem_toArray, List.getElem_cons_zero, List.getElem_cons_succ]
  refine wpAnyH_take (i := 36) (v := ?_) rfl (by kernel_rfl) (by kernel_rfl) (by kernel_rfl) (fun _ _ _ h => h) (Or.inl ⟨by rfl, ?_⟩) (by assumption) ?_
  rotate_left
  · (intro w hSw; (try dsimp only at hSw); go_simp; try with_reducible rfl)
  try simp only [Act.put, List.setIfInBounds_toArray, List.set_cons_zero, List.set_cons_succ, List.getElem_toArray, List.getElem_cons_zero, List.getElem_cons_succ]
  refine wpAnyH_take (i := 37) (v := ?_) rfl (by kernel_rfl) (by kernel_rfl) (by kernel_rfl) (fun _ _ _ h => h) (Or.inl ⟨by rfl, ?_⟩) (by assumption) ?_
  rotate_left
  · (intro w hSw; (try dsimp only at hSw); go_simp; try with_reducible rfl)
  try simp only [Act.put, List.setIfInBounds_toArray, List.set_cons_zero, List.set_cons_succ, List.getElem_toArray, List.getElem_cons_zero, List.getElem_cons_succ]
  refine wpAnyH_take (i := 38) (v := ?_) rfl (by kernel_rfl) (by kernel_rfl) (by kernel_rfl) (fun _ _ _ h => h) (Or.inl ⟨by rfl, ?_⟩) (by assumption) ?_
  rotate_left
  · (intro w hSw; (try dsimp only at hSw); go_simp; try with_reducible rfl)
  try simp only [Act.put, List.setIfInBounds_toArray, List.set_cons_zero, List.set_cons_succ, List.getElem_toArray, List.getElem_cons_zero, List.getElem_cons_succ]
  refine wpAnyH_take (i := 39) (v := ?_) rfl (by kernel_rfl) (by kernel_rfl) (by kernel_rfl) (fun _ _ _ h => h) (Or.inl ⟨by rfl, ?_⟩) (by assumption) ?_
  rotate_left
  · (intro w hSw; (try dsimp only at hSw); go_simp; try with_reducible rfl)
  try simp only [Act.put, List.setIfInBounds_toArray, List.set_cons_zero, List.set_cons_succ, List.getElem_toArray, List.getElem_cons_zero, List.getElem_cons_succ]
  refine wpAnyH_take (i := 40) (v := ?_) rfl (by kernel_rfl) (by kernel_rfl) (by kernel_rfl) (fun _ _ _ h => h) (Or.inl ⟨by rfl, ?_⟩) (by assumption) ?_
  rotate_left
  · (intro w hSw; (try dsimp only at hSw); go_simp; try with_reducible rfl)
  try simp only [Act.put, List.setIfInBounds_toArray, List.set_cons_zero, List.set_cons_succ, List.getElem_toArray, List.getElem_cons_zero, List.getElem_cons_succ]
  refine wpAnyH_take (i := 41) (v := ?_) rfl (by kernel_rfl) (by kernel_rfl) (by kernel_rfl) (fun _ _ _ h => h) (Or.inl ⟨by rfl, ?_⟩) (by assumption) ?_
  rotate_left
  · (intro w hSw; (try dsimp only at hSw); go_simp; try with_reducible rfl)
  try simp only [Act.put, List.setIfInBounds_toArray, List.set_cons_zero, List.set_cons_succ, List.getElem_toArray, List.getElem_cons_zero, List.getElem_cons_succ]
  refine wpAnyH_take (i := 42) (v := ?_) rfl (by kernel_rfl) (by kernel_rfl) (by kernel_rfl) (fun _ _ _ h => h) (Or.inl ⟨by rfl, ?_⟩) (by assumption) ?_
  rotate_left
  · (intro w hSw; (try dsimp only at hSw); go_simp; try with_reducible rfl)
  try simp only [Act.put, List.setIfInBounds_toArray, List.set_cons_zero, List.set_cons_succ, List.getElem_toArray, List.getElem_cons_zero, List.getElem_cons_succ]
  refine wpAnyH_take (i := 43) (v := ?_) rfl (by kernel_rfl) (by kernel_rfl) (by kernel_rfl) (fun _ _ _ h => h) (Or.inl ⟨by rfl, ?_⟩) (by assumption) ?_
  rotate_left
  · (intro w hSw; (try dsimp only at hSw); go_simp; try with_reducible rfl)
  try simp only [Act.put, List.setIfInBounds_toArray, List.set_cons_zero, List.set_cons_succ, List.getElem_toArray, List.getElem_cons_zero, List.getElem_cons_succ]
  refine wpAnyH_take (i := 44) (v := ?_) rfl (by kernel_rfl) (by kernel_rfl) (by kernel_rfl) (fun _ _ _ h => h) (Or.inl ⟨by rfl, ?_⟩) (by assumption) ?_
  rotate_left
  · (intro w hSw; (try dsimp only at hSw); go_simp; try with_reducible rfl)
  try simp only [Act.put, List.setIfInBounds_toArray, List.set_cons_zero, List.set_cons_succ, List.getElem_toArray, List.getElem_cons_zero, List.getElem_cons_succ]
  refine wpAnyH_take (i := 45) (v := ?_) rfl (by kernel_rfl) (by kernel_rfl) (by kernel_rfl) (fun _ _ _ h => h) (Or.inl ⟨by rfl, ?_⟩) (by assumption) ?_
  rotate_left
  · (intro w hSw; (try dsimp only at hSw); go_simp; try with_reducible rfl)
  try simp only [Act.put, List.setIfInBounds_toArray, List.set_cons_zero, List.set_cons_succ, List.getElem_toArray, List.getElem_cons_zero, List.getElem_cons_succ]
  refine wpAnyH_done (by kernel_rfl) ?_ _
  clear Hd x0 x1 x2 x3 x4 l0 l1 l2 c0 c1 c2 c3 c4 c5 c6 c7 c8 c9 c10 olt llt qlt rlt blt g0 gd0 g1 gd1 g2 gd2 g3 gd3 g4 gd4 g5 gd5 g6 gd6 g7 gd7
  obtain ⟨x0, x1, x2, x3, x4, l0, l1, l2, c0, c1, c2, c3, c4, c5, c6, c7, c8, c9, c10⟩ := SB.rule _ _ _ _ _ _ _ _ _ _ _ _ _ _ _ _ _ _ H1.out.sb
  obtain ⟨olt, llt, qlt, rlt, blt⟩ := H1.out.lt
  go_wp2_with fail
  have Hd := Lib.hid H1.out.drew
  clear H1
  go_region_held3 (fun W => SB W ob lo q p rb lb n cr cl V S T 2 (L : Int) (s : Int) (u : Int) (v : Int)) (first | (with_reducible assumption) | (with_reducible exact H3.out.sb) | (with_reducible exact H2.out.sb) | (with_reducible exact Hd.out.sb))
    (first
      | (go_at_call 14; ((with_reducible refine (vert_at HR.out lL hu _).mono ?_); rintro e w2 ⟨rfl, B1⟩; have H2 := Lib.hid (Hd.out.below B1)))
      | (go_at_call 14; ((with_reducible refine (vert_at HR.out lL hv _).mono ?_); rintro e w2 ⟨rfl, B1⟩; have H3 := Lib.hid (H2.out.below B1))))
  clear Hd H2 x0 x1 x2 x3 x4 l0 l1 l2 c0 c1 c2 c3 c4 c5 c6 c7 c8 c9 c10 olt llt qlt rlt blt
  obtain ⟨x0, x1, x2, x3, x4, l0, l1, l2, c0, c1, c2, c3, c4, c5, c6, c7, c8, c9, c10⟩ := SB.rule _ _ _ _ _ _ _ _ _ _ _ _ _ _ _ _ _ _ H3.out.sb
  obtain ⟨olt, llt, qlt, rlt, blt⟩ := H3.out.lt
  go_wp2_with fail
  have Hd := Lib.hid H3.out.drew
  clear H3
  go_region_held3 (fun W => SB W ob lo q p rb lb n cr cl V S T 2 (L : Int) (s : Int) (u : Int) (v : Int)) (first | (with_reducible assumption) | (with_reducible exact H5.out.sb) | (with_reducible exact H4.out.sb) | (with_reducible exact Hd.out.sb))
    (first
      | (go_at_call 42; ((with_reducible refine (arc0_at HR.out lL hs _).mono ?_); rintro e w2 ⟨rfl, B1⟩; have H4 := Lib.hid (Hd.out.below B1)))
      | (go_at_call 42; ((with_reducible refine (arc1_at HR.out lL hs _).mono ?_); rintro e w2 ⟨rfl, B1⟩; have H5 := Lib.hid (H4.out.below B1))))
  clear Hd H4 x0 x1 x2 x3 x4 l0 l1 l2 c0 c1 c2 c3 c4 c5 c6 c7 c8 c9 c10 olt llt qlt rlt blt
  obtain ⟨x0, x1, x2, x3, x4, l0, l1, l2, c0, c1, c2, c3, c4, c5, c6, c7, c8, c9, c10⟩ := SB.rule _ _ _ _ _ _ _ _ _ _ _ _ _ _ _ _ _ _ H5.out.sb
  obtain ⟨olt, llt, qlt, rlt, blt⟩ := H5.out.lt
  go_wp2_with fail
  have Hd := Lib.hid H5.out.drew
  clear H5
  go_region_held3 (fun W => SB W ob lo q p rb lb n cr cl V S T 2 (L : Int) (s : Int) (u : Int) (v : Int)) (first | (with_reducible assumption) | (with_reducible exact H7.out.sb) | (with_reducible exact H6.out.sb) | (with_reducible exact Hd.out.sb))
    (first
      | (go_at_call 43; ((with_reducible refine (row_of Hd.out.pl.pg hL HI.out HXU.out HU1.out HRL1.out HRR1.out).mono ?_); rintro e w2 ⟨rfl, B1⟩; have H6 := Lib.hid (Hd.out.below B1)))
      | (go_at_call 43; ((with_reducible refine (row_of H6.out.pl.pg hL HK.out HYV.out HU2.out HRL1.out HRR1.out).mono ?_); rintro e w2 ⟨rfl, B1⟩; have H7 := Lib.hid (H6.out.below B1))))
  clear Hd H6 x0 x1 x2 x3 x4 l0 l1 l2 c0 c1 c2 c3 c4 c5 c6 c7 c8 c9 c10 olt llt qlt rlt blt
  obtain ⟨x0, x1, x2, x3, x4, l0, l1, l2, c0, c1, c2, c3, c4, c5, c6, c7, c8, c9, c10⟩ := SB.rule _ _ _ _ _ _ _ _ _ _ _ _ _ _ _ _ _ _ H7.out.sb
  obtain ⟨olt, llt, qlt, rlt, blt⟩ := H7.out.lt
  go_wp2_with fail
  have hsN : (s : Int) < ((S.toNat : Nat) : Int) := by omega
  have s0 : (0 : Int) ≤ (s : Int) := by omega
  have L0 : (0 : Int) ≤ (L : Int) := by omega
  rcases e with _ | ⟨ea, eb⟩
  · as_aux_lemma =>
      have gl := H7.out.pl.pg.gr_cell hL
      obtain ⟨lc1, lc2, _, _, glt⟩ := PG.link_cell H7.out.pl.pg hL HE.out
      dsimp only [end1, end2] at lc1 lc2
      go_quiet (fail)
      have H8 := Lib.hid (H7.out.below (drewN_below _ nq))
      clear H7 x0 x1 x2 x3 x4 l0 l1 l2 c0 c1 c2 c3 c4 c5 c6 c7 c8 c9 c10 olt llt qlt rlt blt gl lc1 lc2 glt
      generalize w2.drewN nq = W3 at H8 ⊢
      obtain ⟨x0, x1, x2, x3, x4, l0, l1, l2, c0, c1, c2, c3, c4, c5, c6, c7, c8, c9, c10⟩ := SB.rule _ _ _ _ _ _ _ _ _ _ _ _ _ _ _ _ _ _ H8.out.sb
      obtain ⟨olt, llt, qlt, rlt, blt⟩ := H8.out.lt
      go_wp2_with fail
      go_ret
      exact ⟨rfl, H8.out.fin (by omega)⟩
  have gl := H7.out.pl.pg.gr_cell hL
  obtain ⟨lc1, lc2, _, _, glt⟩ := PG.link_cell H7.out.pl.pg hL HE.out
  dsimp only [end1, end2] at lc1 lc2
  go_quiet (fail)
  have H8 := Lib.hid (H7.out.below (drewN_below _ nq))
  clear H7 x0 x1 x2 x3 x4 l0 l1 l2 c0 c1 c2 c3 c4 c5 c6 c7 c8 c9 c10 olt llt qlt rlt blt gl lc1 lc2 glt
  generalize w2.drewN nq = W3 at H8 ⊢
  obtain ⟨x0, x1, x2, x3, x4, l0, l1, l2, c0, c1, c2, c3, c4, c5, c6, c7, c8, c9, c10⟩ := SB.rule _ _ _ _ _ _ _ _ _ _ _ _ _ _ _ _ _ _ H8.out.sb
  obtain ⟨olt, llt, qlt, rlt, blt⟩ := H8.out.lt
  go_wp2_with fail
  have G0 := Lib.hid H8.out.sg
  clear H8 x0 x1 x2 x3 x4 l0 l1 l2 c0 c1 c2 c3 c4 c5 c6 c7 c8 c9 c10 olt llt qlt rlt blt HI HXU HK HYV HU1 HU2
  obtain ⟨r0, hr0, c, d, pp, qq, rr, harc, er, hnd, hq0, ho0⟩ := HLv.out.parts HR.out lL HF.out HE.out
  subst er
  obtain ⟨j, hj⟩ := List.mem_iff_getElem?.1 hr0
  obtain ⟨t, ht, rt⟩ := HLv.out.has _ hr0
  have HT := Lib.hid (And.intro ht rt)
  have HPP : Hid (Parts t c d pp qq rr) := Lib.hid ⟨rt, by rw [rt]; exact hnd, hq0, ho0⟩
  have HI := Lib.hid hj
  have HARC := Lib.hid harc
  have HM0 : Hid (An V S L s 0 ∈ (pp ++ c :: (qq ++ d :: rr))) := Lib.hid (by rcases harc with ⟨e1, e2⟩ | ⟨e1, e2⟩ <;> rw [e1, e2] <;> simp)
  have HU0 : Hid (∀ (j' : Nat) (r' : List Nat), (rs L)[j']? = some r' → An V S L s 0 ∈ r' → j' = j) := Lib.hid fun j' r' h1 h2 => idx_uniq HLv.out.nd h1 hj h2 HM0.out
  have HN1 := Lib.hid hnd
  have HQ1 : Hid ((pp ++ c :: (qq ++ d :: rr)).length ≤ 96) := Lib.hid (HRR.out _ hr0)
  have iN := (List.getElem?_eq_some_iff.1 hj).1
  have i0 : (0 : Int) ≤ (j : Int) := by omega
  have cL := G0.out.pg.row_cell hL
  obtain ⟨rg, rc, ar, cr1, ev, rglt, ci, LI1⟩ := (G0.out.pg.rs L hL).at hj
  rw [ev] at cL
  clear harc hnd hq0 ho0 ht rt hr0
  obtain ⟨x0, x1, x2, x3, x4, l0, l1, l2, c0, c1, c2, c3, c4, c5, c6, c7, c8, c9, c10⟩ := SB.rule _ _ _ _ _ _ _ _ _ _ _ _ _ _ _ _ _ _ G0.out.sb
  obtain ⟨olt, llt, qlt, rlt, blt⟩ := G0.out.lt
  refine (row_of G0.out.pg hL HI.out HM0.out HU0.out HRL1.out HRR1.out).mono ?_; rintro e w2 ⟨rfl, B1⟩
  have G1 := Lib.hid (G0.out.below B1)
  have HL1 := Lib.hid (LI1.below B1)
  replace cL := cell_later B1 cL
  replace ci := cell_later B1 ci
  replace rglt := Nat.lt_of_lt_of_le rglt B1.size
  clear B1 G0 LI1 ev hj x0 x1 x2 x3 x4 l0 l1 l2 c0 c1 c2 c3 c4 c5 c6 c7 c8 c9 c10 olt llt qlt rlt blt
  obtain ⟨N, hN⟩ : ∃ N, (rs L).length = N := ⟨_, rfl⟩
  obtain ⟨n1, hn1⟩ : ∃ N, (pp ++ c :: (qq ++ d :: rr)).length = N := ⟨_, rfl⟩
  rw [hN] at cL iN
  rw [hn1] at ci HL1
  have iI : (j : Int) < (N : Int) := by omega
  clear hn1 hN
  obtain ⟨x0, x1, x2, x3, x4, l0, l1, l2, c0, c1, c2, c3, c4, c5, c6, c7, c8, c9, c10⟩ := SB.rule _ _ _ _ _ _ _ _ _ _ _ _ _ _ _ _ _ _ G1.out.sb
  obtain ⟨olt, llt, qlt, rlt, blt⟩ := G1.out.lt
  go_wp2_with fail
  have Gd := Lib.hid G1.out.drew
  have HLd := Lib.hid HL1.out.drew
  have cLd : w2.drew.cell? ⟨rb, L, none⟩ = some (.slice (some ⟨rg, 0, none⟩) N rc) := cL
  have cid : w2.drew.cell? ⟨rg, j, none⟩ = some (.slice ar n1 cr1) := ci
  have hrule : ∀ W : World, (SB W ob lo q p rb lb n cr cl V S T 2 (L : Int) (s : Int) (u : Int) (v : Int) ∧ W.cell? ⟨rb, L, none⟩ = some (.slice (some ⟨rg, 0, none⟩) N rc) ∧ W.cell? ⟨rg, j, none⟩ = some (.slice ar n1 cr1)) → _ := fun W h => SB.rule ob lo q p rb lb n cr cl V S T 2 (L : Int) (s : Int) (u : Int) (v : Int) W h.1
  refine wp_region_held_drew (S := (fun W => SB W ob lo q p rb lb n cr cl V S T 2 (L : Int) (s : Int) (u : Int) (v : Int) ∧ W.cell? ⟨rb, L, none⟩ = some (.slice (some ⟨rg, 0, none⟩) N rc) ∧ W.cell? ⟨rg, j, none⟩ = some (.slice ar n1 cr1))) (by kernel_rfl) ?_ (fun hHeld => ?_)
  · exact ⟨Gd.out.sb, cLd, cid⟩
  refine wpAnyH_take (i := 0) (v := ?_) rfl (by kernel_rfl) (by kernel_rfl) (by kernel_rfl) (fun _ _ _ h => h) (Or.inl ⟨by rfl, ?_⟩) (by assumption) ?_
  rotate_left
  · (intro w hSw; (try dsimp only at hSw); go_simp; try with_reducible rfl)
  try simp only [Act.put, List.setIfInBounds_toArray, List.set_cons_zero, List.set_cons_succ, List.getElem_toArray, List.getElem_cons_zero]
  refine wpAnyH_take (i := 1) (v := ?_) rfl (by kernel_rfl) (by kernel_rfl) (by kernel_rfl) (fun _ _ _ h => h) (Or.inl ⟨by rfl, ?_⟩) (by assumption) ?_
  rotate_left
  · (intro w hSw; (try dsimp only at hSw); go_simp; try with_reducible rfl)
  try simp only [Act.put, List.setIfInBounds_toArray, List.set_cons_zero, List.set_cons_succ, List.getElem_toArray, List.getElem_cons_zero, List.getElem_cons_succ]
  refine wpAnyH_take (i := 2) (v := ?_) rfl (by kernel_rfl) (by kernel_rfl) (by kernel_rfl) (fun _ _ _ h => h) (Or.inl ⟨by rfl, ?_⟩) (by assumption) ?_
  rotate_left
  · (intro w hSw; (try dsimp only at hSw); go_simp; try with_reducible rfl)
  try simp only [Act.put, List.setIfInBounds_toArray, List.set_cons_zero, List.set_cons_succ, List.getElem_toArray, List.getElem_cons_zero, List.getElem_cons_succ]
  refine wpAnyH_take (i := 3) (v := ?_) rfl (by kernel_rfl) (by kernel_rfl) (by kernel_rfl) (fun _ _ _ h => h) (Or.inl ⟨by rfl, ?_⟩) (by assumption) ?_
  rotate_left
  · (intro w hSw; (try dsimp only at hSw); go_simp; try with_reducible rfl)
  try simp only [Act.put, List.setIfInBounds_toArray, List.set_cons_zero, List.set_cons_succ, List.getElem_toArray, List.getElem_cons_zero, List.getElem_cons_succ]
  refine wpAnyH_take (i := 4) (v := ?_) rfl (by kernel_rfl) (by kernel_rfl) (by kernel_rfl) (fun _ _ _ h => h) (Or.inl ⟨by rfl, ?_⟩) (by assumption) ?_
  rotate_left
  · (intro w hSw; (try dsimp only at hSw); go_simp; try with_reducible rfl)
  try simp only [Act.put, List.setIfInBounds_toArray, List.set_cons_zero, List.set_cons_succ, List.getElem_toArray, List.getElem_cons_zero, List.getElem_cons_succ]
  refine wpAnyH_take (i := 5) (v := ?_) rfl (by kernel_rfl) (by kernel_rfl) (by kernel_rfl) (fun _ _ _ h => h) (Or.inl ⟨by rfl, ?_⟩) (by assumption) ?_
  rotate_left
  · (intro w hSw; (try dsimp only at hSw); go_simp; try with_reducible rfl)
  try simp only [Act.put, List.setIfInBounds_toArray, List.set_cons_zero, List.set_cons_succ, List.getElem_toArray, List.getElem_cons_zero, List.getElem_cons_succ]
  refine wpAnyH_take (i := 6) (v := ?_) rfl (by kernel_rfl) (by kernel_rfl) (by kernel_rfl) (fun _ _ _ h => h) (Or.inl ⟨by rfl, ?_⟩) (by assumption) ?_
  rotate_left
  · (intro w hSw; (try dsimp only at hSw); go_simp; try with_reducible rfl)
  try simp only [Act.put, List.setIfInBounds_toArray, List.set_cons_zero, List.set_cons_succ, List.getElem_toArray, List.getElem_cons_zero, List.getElem_cons_succ]
  refine wpAnyH_take (i := 7) (v := ?_) rfl (by kernel_rfl) (by kernel_rfl) (by kernel_rfl) (fun _ _ _ h => h) (Or.inl ⟨by rfl, ?_⟩) (by assumption) ?_
  rotate_left
  · (intro w hSw; (try dsimp only at hSw); go_simp; try with_reducible rfl)
  try simp only [Act.put, List.setIfInBounds_toArray, List.set_cons_zero, List.set_cons_succ, List.getElem_toArray, List.getElem_cons_zero, List.getElem_cons_succ]
  refine wpAnyH_take (i := 8) (v := ?_) rfl (by kernel_rfl) (by kernel_rfl) (by kernel_rfl) (fun _ _ _ h => h) (Or.inl ⟨by rfl, ?_⟩) (by assumption) ?_
  rotate_left
  · (intro w hSw; (try dsimp only at hSw); go_simp; try with_reducible rfl)
  try simp only [Act.put, List.setIfInBounds_toArray, List.set_cons_zero, List.set_cons_succ, List.getElem_toArray, List.getElem_cons_zero, List.getElem_cons_succ]
  refine wpAnyH_take (i := 9) (v := ?_) rfl (by kernel_rfl) (by kernel_rfl) (by kernel_rfl) (fun _ _ _ h => h) (Or.inl ⟨by rfl, ?_⟩) (by assumption) ?_
  rotate_left
  · (intro w hSw; (try dsimp only at hSw); go_simp; try with_reducible rfl)
  try simp only [Act.put, List.setIfInBounds_toArray, List.set_cons_zero, List.set_cons_succ, List.getElem_toArray, List.getElem_cons_zero, List.getElem_cons_succ]
  refine wpAnyH_take (i := 10) (v := ?_) rfl (by kernel_rfl) (by kernel_rfl) (by kernel_rfl) (fun _ _ _ h => h) (Or.inl ⟨by rfl, ?_⟩) (by assumption) ?_
  rotate_left
  · (intro w hSw; (try dsimp only at hSw); go_simp; try with_reducible rfl)
  try simp only [Act.put, List.setIfInBounds_toArray, List.set_cons_zero, List.set_cons_succ, List.getElem_toArray, List.getElem_cons_zero, List.getElem_cons_succ]
  refine wpAnyH_take (i := 11) (v := ?_) rfl (by kernel_rfl) (by kernel_rfl) (by kernel_rfl) (fun _ _ _ h => h) (Or.inl ⟨by rfl, ?_⟩) (by assumption) ?_
  rotate_left
  · (intro w hSw; (try dsimp only at hSw); go_simp; try with_reducible rfl)
  try simp only [Act.put, List.setIfInBounds_toArray, List.set_cons_zero, List.set_cons_succ, List.getElem_toArray, List.getElem_cons_zero, List.getElem_cons_succ]
  refine wpAnyH_take (i := 12) (v := ?_) rfl (by kernel_rfl) (by kernel_rfl) (by kernel_rfl) (fun _ _ _ h => h) (Or.inl ⟨by rfl, ?_⟩) (by assumption) ?_
  rotate_left
  · (intro w hSw; (try dsimp only at hSw); go_simp; try with_reducible rfl)
  try simp only [Act.put, List.setIfInBounds_toArray, List.set_cons_zero, List.set_cons_succ, List.getElem_toArray, List.getElem_cons_zero, List.getElem_cons_succ]
  refine wpAnyH_ready (rs := [13]) (by kernel_rfl) (by simp) ?_
  refine AllReadyH.cons rfl (fun K hK => ?_) ?_
  rotate_left
  · exact AllReadyH.nil
  go_simp
  (refine (cut_row HLd.out (by have := HQ1.out; omega)).mono ?_; rintro e w1 ⟨qv, ov, rfl, hr1, hr2, hb1⟩)
  go_wp2_with fail
  refine hK.out _ _ ?_ (fun hHeld => ?_)
  · (try dsimp only); exact ⟨(Gd.out.below hb1).sb, cell_later hb1 cLd, cell_later hb1 cid⟩
  clear hK K
  try simp only [Act.put, List.setIfInBounds_toArray, List.set_cons_zero, List.set_cons_succ, List.getElem_toArray, List.getElem_cons_zero, List.getElem_cons_succ]
  refine wpAnyH_take (i := 14) (v := ?_) rfl (by kernel_rfl) (by kernel_rfl) (by kernel_rfl) (fun _ _ _ h => h) (Or.inl ⟨by rfl, ?_⟩) (by assumption) ?_
  rotate_left
  · (intro w hSw; (try dsimp only at hSw); go_simp; try with_reducible rfl)
  try simp only [Act.put, List.setIfInBounds_toArray, List.set_cons_zero, List.set_cons_succ, List.getElem_toArray, List.getElem_cons_zero, List.getElem_cons_succ]
  refine wpAnyH_take (i := 15) (v := ?_) rfl (by kernel_rfl) (by kernel_rfl) (by kernel_rfl) (fun _ _ _ h => h) (Or.inl ⟨by rfl, ?_⟩) (by assumption) ?_
  rotate_left
  · (intro w hSw; (try dsimp only at hSw); go_simp; try with_reducible rfl)
  try simp only [Act.put, List.setIfInBounds_toArray, List.set_cons_zero, List.set_cons_succ, List.getElem_toArray, List.getElem_cons_zero, List.getElem_cons_succ]
  refine wpAnyH_take (i := 16) (v := ?_) rfl (by kernel_rfl) (by kernel_rfl) (by kernel_rfl) (fun _ _ _ h => h) (Or.inl ⟨by rfl, ?_⟩) (by assumption) ?_
  rotate_left
  · (intro w hSw; (try dsimp only at hSw); go_simp; try with_reducible rfl)
  try simp only [Act.put, List.setIfInBounds_toArray, List.set_cons_zero, List.set_cons_succ, List.getElem_toArray, List.getElem_cons_zero, List.getElem_cons_succ]
  refine wpAnyH_take (i := 17) (v := ?_) rfl (by kernel_rfl) (by kernel_rfl) (by kernel_rfl) (fun _ _ _ h => h) (Or.inl ⟨by rfl, ?_⟩) (by assumption) ?_
  rotate_left
  · (intro w hSw; (try dsimp only at hSw); go_simp; try with_reducible rfl)
  try simp only [Act.put, List.setIfInBounds_toArray, List.set_cons_zero, List.set_cons_succ, List.getElem_toArray, List.getElem_cons_zero, List.getElem_cons_succ]
  refine wpAnyH_take (i := 18) (v := ?_) rfl (by kernel_rfl) (by kernel_rfl) (by kernel_rfl) (fun _ _ _ h => h) (Or.inl ⟨by rfl, ?_⟩) (by assumption) ?_
  rotate_left
  · (intro w hSw; (try dsimp only at hSw); go_simp; try with_reducible rfl)
  try simp only [Act.put, List.setIfInBounds_toArray, List.set_cons_zero, List.set_cons_succ, List.getElem_toArray, List.getElem_cons_zero, List.getElem_cons_succ]
  refine wpAnyH_done (by kernel_rfl) ?_ _
  rw [cut_is HARC.out HN1.out] at hr1 hr2
  have G2 := Lib.hid (Gd.out.below hb1)
  have HLI : Hid (LI w1 qv qq) := Lib.hid hr1.li
  have HLO : Hid (LI w1 ov (pp ++ rr)) := Lib.hid hr2.li
  obtain ⟨qa, qc, rfl, _⟩ := HLI.out.shape
  obtain ⟨oa, oc, rfl, _⟩ := HLO.out.shape
  obtain ⟨nq1, hnq1⟩ : ∃ N, qq.length = N := ⟨_, rfl⟩
  obtain ⟨no1, hno1⟩ : ∃ N, (pp ++ rr).length = N := ⟨_, rfl⟩
  rw [hnq1] at HLI ⊢
  rw [hno1] at HLO ⊢
  clear hr1 hr2 hb1 G1 HL1 Gd HLd cLd cid cL ci hrule rglt hnq1 hno1 iI x0 x1 x2 x3 x4 l0 l1 l2 c0 c1 c2 c3 c4 c5 c6 c7 c8 c9 c10 olt llt qlt rlt blt
  obtain ⟨x0, x1, x2, x3, x4, l0, l1, l2, c0, c1, c2, c3, c4, c5, c6, c7, c8, c9, c10⟩ := SB.rule _ _ _ _ _ _ _ _ _ _ _ _ _ _ _ _ _ _ G2.out.sb
  obtain ⟨olt, llt, qlt, rlt, blt⟩ := G2.out.lt
  go_wp2_with fail
  go_cut [] from 234 to 250 (fun wx => ∃ v5, SG w wx ob lo 2 (L : Int) (s : Int) (u : Int) (v : Int) V S T n q p gb cap rb lb cr cl base gB m g ts (fun y => if y = L then v5 else vr y) (fun y => if y = L then (wo j j 0 (rs L) ++ [qq, pp ++ rr]) else rs y) gr ∧ LI wx (.slice qa nq1 qc) qq ∧ LI wx (.slice oa no1 oc) (pp ++ rr))
  case first =>
    have Gd := Lib.hid G2.out.drew
    have HId := Lib.hid HLI.out.drew
    have HOd := Lib.hid HLO.out.drew
    have hrule := SB.rule ob lo q p rb lb n cr cl V S T 2 (L : Int) (s : Int) (u : Int) (v : Int)
    have hll : (wo j j 0 (rs L)).length ≤ 96 := Nat.le_trans (wo_le j j 0 (rs L)) HRL.out
    have HLL := Lib.hid hll
    have BASE := Lib.hid Gd.out.size
    clear G2 HLI HLO hll
    refine wp_region_held_drew (S := (fun W => SB W ob lo q p rb lb n cr cl V S T 2 (L : Int) (s : Int) (u : Int) (v : Int))) (by kernel_rfl) ?_ (fun hHeld => ?_)
    · exact Gd.out.sb
    refine wpAnyH_take (i := 0) (v := ?_) rfl (by kernel_rfl) (by kernel_rfl) (by kernel_rfl) (fun _ _ _ h => h) (Or.inl ⟨by rfl, ?_⟩) (by assumption) ?_
    rotate_left
    · (intro w hSw; (try dsimp only at hSw); go_simp; try with_reducible rfl)
    try simp only [Act.put, List.setIfInBounds_toArray, List.set_cons_zero, List.set_cons_succ, List.getElem_toArray, List.getElem_cons_zero]
    refine wpAnyH_take (i := 1) (v := ?_) rfl (by kernel_rfl) (by kernel_rfl) (by kernel_rfl) (fun _ _ _ h => h) (Or.inl ⟨by rfl, ?_⟩) (by assumption) ?_
    rotate_left
    · (intro w hSw; (try dsimp only at hSw); go_simp; try with_reducible rfl)
    try simp only [Act.put, List.setIfInBounds_toArray, List.set_cons_zero, List.set_cons_succ, List.getElem_toArray, List.getElem_cons_zero, List.getElem_cons_succ]
    refine wpAnyH_take (i := 2) (v := ?_) rfl (by kernel_rfl) (by kernel_rfl) (by kernel_rfl) (fun _ _ _ h => h) (Or.inl ⟨by rfl, ?_⟩) (by assumption) ?_
    rotate_left
    · (intro w hSw; (try dsimp only at hSw); go_simp; try with_reducible rfl)
    try simp only [Act.put, List.setIfInBounds_toArray, List.set_cons_zero, List.set_cons_succ, List.getElem_toArray, List.getElem_cons_zero, List.getElem_cons_succ]
    refine wpAnyH_take (i := 3) (v := ?_) rfl (by kernel_rfl) (by kernel_rfl) (by kernel_rfl) (fun _ _ _ h => h) (Or.inl ⟨by rfl, ?_⟩) (by assumption) ?_
    rotate_left
    · (intro w hSw; (try dsimp only at hSw); go_simp; try with_reducible rfl)
    try simp only [Act.put, List.setIfInBounds_toArray, List.set_cons_zero, List.set_cons_succ, List.getElem_toArray, List.getElem_cons_zero, List.getElem_cons_succ]
    refine wpAnyH_take (i := 4) (v := ?_) rfl (by kernel_rfl) (by kernel_rfl) (by kernel_rfl) (fun _ _ _ h => h) (Or.inl ⟨by rfl, ?_⟩) (by assumption) ?_
    rotate_left
    · (intro w hSw; (try dsimp only at hSw); go_simp; try with_reducible rfl)
    try simp only [Act.put, List.setIfInBounds_toArray, List.set_cons_zero, List.set_cons_succ, List.getElem_toArray, List.getElem_cons_zero, List.getElem_cons_succ]
    refine wpAnyH_take (i := 5) (v := ?_) rfl (by kernel_rfl) (by kernel_rfl) (by kernel_rfl) (fun _ _ _ h => h) (Or.inl ⟨by rfl, ?_⟩) (by assumption) ?_
    rotate_left
    · (intro w hSw; (try dsimp only at hSw); go_simp; try with_reducible rfl)
    try simp only [Act.put, List.setIfInBounds_toArray, List.set_cons_zero, List.set_cons_succ, List.getElem_toArray, List.getElem_cons_zero, List.getElem_cons_succ]
    refine wpAnyH_take (i := 6) (v := ?_) rfl (by kernel_rfl) (by kernel_rfl) (by kernel_rfl) (fun _ _ _ h => h) (Or.inl ⟨by rfl, ?_⟩) (by assumption) ?_
    rotate_left
    · (intro w hSw; (try dsimp only at hSw); go_simp; try with_reducible rfl)
    try simp only [Act.put, List.setIfInBounds_toArray, List.set_cons_zero, List.set_cons_succ, List.getElem_toArray, List.getElem_cons_zero, List.getElem_cons_succ]
    refine wpAnyH_take (i := 7) (v := ?_) rfl (by kernel_rfl) (by kernel_rfl) (by kernel_rfl) (fun _ _ _ h => h) (Or.inl ⟨by rfl, ?_⟩) (by assumption) ?_
    rotate_left
    · (intro w hSw; (try dsimp only at hSw); go_simp; try with_reducible rfl)
    try simp only [Act.put, List.setIfInBounds_toArray, List.set_cons_zero, List.set_cons_succ, List.getElem_toArray, List.getElem_cons_zero, List.getElem_cons_succ]
    refine wpAnyH_take (i := 8) (v := ?_) rfl (by kernel_rfl) (by kernel_rfl) (by kernel_rfl) (fun _ _ _ h => h) (Or.inl ⟨by rfl, ?_⟩) (by assumption) ?_
    rotate_left
    · (intro w hSw; (try dsimp only at hSw); go_simp; try with_reducible rfl)
    try simp only [Act.put, List.setIfInBounds_toArray, List.set_cons_zero, List.set_cons_succ, List.getElem_toArray, List.getElem_cons_zero, List.getElem_cons_succ]
    refine wpAnyH_take (i := 9) (v := ?_) rfl (by kernel_rfl) (by kernel_rfl) (by kernel_rfl) (fun _ _ _ h => h) (Or.inl ⟨by rfl, ?_⟩) (by assumption) ?_
    rotate_left
    · (intro w hSw; (try dsimp only at hSw); go_simp; try with_reducible rfl)
    try simp only [Act.put, List.setIfInBounds_toArray, List.set_cons_zero, List.set_cons_succ, List.getElem_toArray, List.getElem_cons_zero, List.getElem_cons_succ]
    refine wpAnyH_take (i := 10) (v := ?_) rfl (by kernel_rfl) (by kernel_rfl) (by kernel_rfl) (fun _ _ _ h => h) (Or.inl ⟨by rfl, ?_⟩) (by assumption) ?_
    rotate_left
    · (intro w hSw; (try dsimp only at hSw); go_simp; try with_reducible rfl)
    try simp only [Act.put, List.setIfInBounds_toArray, List.set_cons_zero, List.set_cons_succ, List.getElem_toArray, List.getElem_cons_zero, List.getElem_cons_succ]
    refine wpAnyH_take (i := 12) (v := ?_) rfl (by kernel_rfl) (by kernel_rfl) (by kernel_rfl) (fun _ _ _ h => h) (Or.inl ⟨by rfl, ?_⟩) (by assumption) ?_
    rotate_left
    · (intro w hSw; (try dsimp only at hSw); go_simp; try with_reducible rfl)
    try simp only [Act.put, List.setIfInBounds_toArray, List.set_cons_zero, List.set_cons_succ, List.getElem_toArray, List.getElem_cons_zero, List.getElem_cons_succ]
    refine wpAnyH_take (i := 13) (v := ?_) rfl (by kernel_rfl) (by kernel_rfl) (by kernel_rfl) (fun _ _ _ h => h) (Or.inl ⟨by rfl, ?_⟩) (by assumption) ?_
    rotate_left
    · (intro w hSw; (try dsimp only at hSw); go_simp; try with_reducible rfl)
    try simp only [Act.put, List.setIfInBounds_toArray, List.set_cons_zero, List.set_cons_succ, List.getElem_toArray, List.getElem_cons_zero, List.getElem_cons_succ]
    refine wpAnyH_ready (rs := [11, 14]) (by kernel_rfl) (by simp) ?_
    refine AllReadyH.cons rfl (fun K hK => ?_) ?_
    rotate_left
    · refine AllReadyH.cons rfl (fun K hK => ?_) ?_
      rotate_left
      · exact AllReadyH.nil
      go_simp
      refine hK.out _ _ ?_ (fun hHeld => ?_)
      · (try dsimp only); exact (Gd.out.alloc (.cells #[.slice qa nq1 qc, .slice oa no1 oc] 53)).sb
      clear hK K
      try simp only [Act.put, List.setIfInBounds_toArray, List.set_cons_zero, List.set_cons_succ, List.getElem_toArray, List.getElem_cons_zero, List.getElem_cons_succ]
      refine wpAnyH_ready (rs := [11]) (by kernel_rfl) (by simp) ?_
      refine AllReadyH.cons rfl (fun K hK => ?_) ?_
      rotate_left
      · exact AllReadyH.nil
      go_simp
      (refine (without_of (Gd.out.alloc (.cells #[.slice qa nq1 qc, .slice oa no1 oc] 53)).pg hL (Nat.le_trans HRL.out (by omega))).mono ?_; rintro e w3 ⟨v3, rfl, hR3, hb3⟩; have HR3 := Lib.hid hR3; have HB3 := Lib.hid hb3; have G3 := Lib.hid ((Gd.out.alloc (.cells #[.slice qa nq1 qc, .slice oa no1 oc] 53)).below hb3); have HI3 := Lib.hid ((HId.out.alloc (.cells #[.slice qa nq1 qc, .slice oa no1 oc] 53)).below hb3); have HO3 := Lib.hid ((HOd.out.alloc (.cells #[.slice qa nq1 qc, .slice oa no1 oc] 53)).below hb3); have HC3 := Lib.hid ((Blk.new w1.drew 53 #[.slice qa nq1 qc, .slice oa no1 oc]).below hb3 (by simp)); clear hR3 hb3; obtain ⟨av, cv, hv3⟩ := HR3.out.slice; subst hv3)
      go_wp2_with fail
      refine hK.out _ _ ?_ (fun hHeld => ?_)
      · (try dsimp only); exact G3.out.sb
      clear hK K
      try simp only [Act.put, List.setIfInBounds_toArray, List.set_cons_zero, List.set_cons_succ, List.getElem_toArray, List.getElem_cons_zero, List.getElem_cons_succ]
      refine wpAnyH_ready (rs := [15]) (by kernel_rfl) (by simp) ?_
      refine AllReadyH.cons rfl (fun K hK => ?_) ?_
      rotate_left
      · exact AllReadyH.nil
      have tn := two_news (ad := ⟨w1.drew.heap.size, 0, none⟩) HI3.out HO3.out (by rw [Addr.add_lit]; exact Blk.cell HC3.out 0) (by rw [Addr.add_lit]; exact Blk.cell HC3.out 1)
      refine step_append_rsi (by rfl) _ _ (by rfl) rfl HR3.out [_, _] rfl tn.1 ⟨w1.drew.heap.size, 0, none⟩ 2 2 rfl rfl tn.2 (by have := HLL.out; simp; omega) HB3.out.size ?_
      intro v5 w5 hR5 hg5
      have HB5 := Lib.hid ((((Below.refl _ _).alloc (Nat.le_refl _) (.cells #[.slice qa nq1 qc, .slice oa no1 oc] 53)).trans (HB3.out.mono (by simp))).grown hg5 (Nat.le_trans (by simp) HB3.out.size) (fun r hr => Nat.le_trans (by simp) (HR3.out.lt r hr).1))
      have G5 := Lib.hid (Gd.out.below HB5.out)
      have HR5 := Lib.hid (hR5.mono (Nat.le_trans BASE.out (by simp)))
      have G6 := Lib.hid (G5.out.setr hL HR5.out)
      have HI6 : Hid (LI (w5.setCell ⟨rb, L, none⟩ v5) (.slice qa nq1 qc) qq) := Lib.hid (by obtain ⟨z1, y1, _⟩ := G5.out.pg.rw; exact (HId.out.below HB5.out).kp (Kp.set y1 (by decide) L v5))
      have HO6 : Hid (LI (w5.setCell ⟨rb, L, none⟩ v5) (.slice oa no1 oc) (pp ++ rr)) := Lib.hid (by obtain ⟨z1, y1, _⟩ := G5.out.pg.rw; exact (HOd.out.below HB5.out).kp (Kp.set y1 (by decide) L v5))
      have fz5 := G5.out.pg.row_frozen L
      have rl5 := G5.out.pg.rb_lt
      have cc5 := G5.out.pg.row_cell hL
      obtain ⟨av5, cv5, hv5⟩ := hR5.slice
      obtain ⟨n6, hn6⟩ : ∃ N, (wo j j 0 (rs L) ++ [qq, pp ++ rr]).length = N := ⟨_, rfl⟩
      rw [hn6] at hv5
      subst hv5
      clear tn hg5 hR5 hn6
      refine hK.out _ _ ?_ (fun hHeld => ?_)
      · (try dsimp only); exact G5.out.sb
      clear hK K
      try simp only [Act.put, List.setIfInBounds_toArray, List.set_cons_zero, List.set_cons_succ, List.getElem_toArray, List.getElem_cons_zero, List.getElem_cons_succ]
      refine wpAnyH_take (i := 16) (v := ?_) rfl (by kernel_rfl) (by kernel_rfl) (by kernel_rfl) (fun _ _ _ h => h) (Or.inl ⟨by rfl, ?_⟩) (by assumption) ?_
      rotate_left
      · (intro w hSw; (try dsimp only at hSw); go_simp; try with_reducible rfl)
      try simp only [Act.put, List.setIfInBounds_toArray, List.set_cons_zero, List.set_cons_succ, List.getElem_toArray, List.getElem_cons_zero, List.getElem_cons_succ]
      refine wpAnyH_ready (rs := [17]) (by kernel_rfl) (by simp) ?_
      refine AllReadyH.cons rfl (fun K hK => ?_) ?_
      rotate_left
      · exact AllReadyH.nil
      go_simp
      refine hK.out _ _ ?_ (fun hHeld => ?_)
      · (try dsimp only); exact G6.out.sb
      clear hK K
      try simp only [Act.put, List.setIfInBounds_toArray, List.set_cons_zero, List.set_cons_succ, List.getElem_toArray, List.getElem_cons_zero, List.getElem_cons_succ]
      refine wpAnyH_done (by kernel_rfl) ?_ _
      go_wp2_with fail
      go_meet
      exact ⟨_, G6.out, HI6.out, HO6.out⟩
    go_simp
    (refine (without_of Gd.out.pg hL (Nat.le_trans HRL.out (by omega))).mono ?_; rintro e w3 ⟨v3, rfl, hR3, hb3⟩; have HR3 := Lib.hid hR3; have HB3 := Lib.hid hb3; have G3 := Lib.hid (Gd.out.below hb3); have HI3 := Lib.hid (HId.out.below hb3); have HO3 := Lib.hid (HOd.out.below hb3); clear hR3 hb3; obtain ⟨av, cv, hv3⟩ := HR3.out.slice; subst hv3)
    go_wp2_with fail
    refine hK.out _ _ ?_ (fun hHeld => ?_)
    · (try dsimp only); exact G3.out.sb
    clear hK K
    try simp only [Act.put, List.setIfInBounds_toArray, List.set_cons_zero, List.set_cons_succ, List.getElem_toArray, List.getElem_cons_zero, List.getElem_cons_succ]
    refine wpAnyH_ready (rs := [14]) (by kernel_rfl) (by simp) ?_
    refine AllReadyH.cons rfl (fun K hK => ?_) ?_
    rotate_left
    · exact AllReadyH.nil
    go_simp
    refine hK.out _ _ ?_ (fun hHeld => ?_)
    · (try dsimp only); exact (G3.out.alloc (.cells #[.slice qa nq1 qc, .slice oa no1 oc] 53)).sb
    clear hK K
    try simp only [Act.put, List.setIfInBounds_toArray, List.set_cons_zero, List.set_cons_succ, List.getElem_toArray, List.getElem_cons_zero, List.getElem_cons_succ]
    refine wpAnyH_ready (rs := [15]) (by kernel_rfl) (by simp) ?_
    refine AllReadyH.cons rfl (fun K hK => ?_) ?_
    rotate_left
    · exact AllReadyH.nil
    have tn := two_news (ad := ⟨w3.heap.size, 0, none⟩) (HI3.out.alloc (.cells #[.slice qa nq1 qc, .slice oa no1 oc] 53)) (HO3.out.alloc (.cells #[.slice qa nq1 qc, .slice oa no1 oc] 53)) (by rw [Addr.add_lit]; exact Blk.cell (Blk.new w3 53 #[.slice qa nq1 qc, .slice oa no1 oc]) 0) (by rw [Addr.add_lit]; exact Blk.cell (Blk.new w3 53 #[.slice qa nq1 qc, .slice oa no1 oc]) 1)
    refine step_append_rsi (by rfl) _ _ (by rfl) rfl (HR3.out.alloc (.cells #[.slice qa nq1 qc, .slice oa no1 oc] 53)) [_, _] rfl tn.1 ⟨w3.heap.size, 0, none⟩ 2 2 rfl rfl tn.2 (by have := HLL.out; simp; omega) (Nat.le_trans HB3.out.size (by simp)) ?_
    intro v5 w5 hR5 hg5
    have HB5 := Lib.hid ((HB3.out.alloc HB3.out.size (.cells #[.slice qa nq1 qc, .slice oa no1 oc] 53)).grown hg5 (Nat.le_trans HB3.out.size (by simp)) (fun r hr => ((HR3.out.alloc (.cells #[.slice qa nq1 qc, .slice oa no1 oc] 53)).lt r hr).1))
    have G5 := Lib.hid (Gd.out.below HB5.out)
    have HR5 := Lib.hid (hR5.mono BASE.out)
    have G6 := Lib.hid (G5.out.setr hL HR5.out)
    have HI6 : Hid (LI (w5.setCell ⟨rb, L, none⟩ v5) (.slice qa nq1 qc) qq) := Lib.hid (by obtain ⟨z1, y1, _⟩ := G5.out.pg.rw; exact (HId.out.below HB5.out).kp (Kp.set y1 (by decide) L v5))
    have HO6 : Hid (LI (w5.setCell ⟨rb, L, none⟩ v5) (.slice oa no1 oc) (pp ++ rr)) := Lib.hid (by obtain ⟨z1, y1, _⟩ := G5.out.pg.rw; exact (HOd.out.below HB5.out).kp (Kp.set y1 (by decide) L v5))
    have fz5 := G5.out.pg.row_frozen L
    have rl5 := G5.out.pg.rb_lt
    have cc5 := G5.out.pg.row_cell hL
    obtain ⟨av5, cv5, hv5⟩ := hR5.slice
    obtain ⟨n6, hn6⟩ : ∃ N, (wo j j 0 (rs L) ++ [qq, pp ++ rr]).length = N := ⟨_, rfl⟩
    rw [hn6] at hv5
    subst hv5
    clear tn hg5 hR5 hn6
    refine hK.out _ _ ?_ (fun hHeld => ?_)
    · (try dsimp only); exact G5.out.sb
    clear hK K
    try simp only [Act.put, List.setIfInBounds_toArray, List.set_cons_zero, List.set_cons_succ, List.getElem_toArray, List.getElem_cons_zero, List.getElem_cons_succ]
    refine wpAnyH_take (i := 16) (v := ?_) rfl (by kernel_rfl) (by kernel_rfl) (by kernel_rfl) (fun _ _ _ h => h) (Or.inl ⟨by rfl, ?_⟩) (by assumption) ?_
    rotate_left
    · (intro w hSw; (try dsimp only at hSw); go_simp; try with_reducible rfl)
    try simp only [Act.put, List.setIfInBounds_toArray, List.set_cons_zero, List.set_cons_succ, List.getElem_toArray, List.getElem_cons_zero, List.getElem_cons_succ]
    refine wpAnyH_ready (rs := [17]) (by kernel_rfl) (by simp) ?_
    refine AllReadyH.cons rfl (fun K hK => ?_) ?_
    rotate_left
    · exact AllReadyH.nil
    go_simp
    refine hK.out _ _ ?_ (fun hHeld => ?_)
    · (try dsimp only); exact G6.out.sb
    clear hK K
    try simp only [Act.put, List.setIfInBounds_toArray, List.set_cons_zero, List.set_cons_succ, List.getElem_toArray, List.getElem_cons_zero, List.getElem_cons_succ]
    refine wpAnyH_done (by kernel_rfl) ?_ _
    go_wp2_with fail
    go_meet
    exact ⟨_, G6.out, HI6.out, HO6.out⟩
  case rest =>
    obtain ⟨v5, hG, hL5, hL6⟩ := hcut
    have G7 := Lib.hid hG
    have HI7 := Lib.hid hL5
    have HO7 := Lib.hid hL6
    clear hG hL5 hL6 G2 HLI HLO x0 x1 x2 x3 x4 l0 l1 l2 c0 c1 c2 c3 c4 c5 c6 c7 c8 c9 c10 olt llt qlt rlt blt
    have gl := G7.out.pg.gr_cell hL
    obtain ⟨lc1, lc2, lf1, lf2, glt⟩ := PG.link_cell G7.out.pg hL HE.out
    dsimp only [end1, end2] at lc1 lc2
    have hsl : s < (gr L).length := (List.getElem?_eq_some_iff.1 HE.out).1
    obtain ⟨x0, x1, x2, x3, x4, l0, l1, l2, c0, c1, c2, c3, c4, c5, c6, c7, c8, c9, c10⟩ := SB.rule _ _ _ _ _ _ _ _ _ _ _ _ _ _ _ _ _ _ G7.out.sb
    obtain ⟨olt, llt, qlt, rlt, blt⟩ := G7.out.lt
    go_wp2_with fail
    go_region
    have G8 : Hid (SG w (((wc.setCell ⟨gB L, s * 2, none⟩ (.int .i64 (-1))).setCell ⟨gB L, s * 2 + 1, none⟩ (.int .i64 (-1))).drew) ob lo 2 (L : Int) (s : Int) (u : Int) (v : Int) V S T n q p gb cap rb lb cr cl base gB m g ts (fun y => if y = L then v5 else vr y) (fun y => if y = L then (wo j j 0 (rs L) ++ [qq, pp ++ rr]) else rs y) (fun y => if y = L then (gr L).set s none else gr y)) := Lib.hid (G7.out.link hL hsl none).drew
    have kp8 : Kp 3 wc (((wc.setCell ⟨gB L, s * 2, none⟩ (.int .i64 (-1))).setCell ⟨gB L, s * 2 + 1, none⟩ (.int .i64 (-1))).drew) := by
      obtain ⟨_, z3, y3, _⟩ := G7.out.pg.gs L hL
      exact (fun i cs hb => Kp.set (y3.set_ (s * 2) _) (by decide) _ _ i cs (Kp.set y3 (by decide) _ _ i cs hb))
    have HI8 := Lib.hid (HI7.out.kp kp8)
    have HO8 := Lib.hid (HO7.out.kp kp8)
    clear kp8
    generalize ((wc.setCell ⟨gB L, s * 2, none⟩ (.int .i64 (-1))).setCell ⟨gB L, s * 2 + 1, none⟩ (.int .i64 (-1))).drew = W8 at G8 HI8 HO8 ⊢
    clear G7 HI7 HO7 x0 x1 x2 x3 x4 l0 l1 l2 c0 c1 c2 c3 c4 c5 c6 c7 c8 c9 c10 olt llt qlt rlt blt gl lc1 lc2 lf1 lf2 glt
    go_wp2_with fail
    have HQ5 : Hid (qq.length ≤ 100000 ∧ (pp ++ rr).length ≤ 100000) := Lib.hid (by have q1 := HQ1.out; simp only [List.length_append, List.length_cons] at q1 ⊢; omega)
    obtain ⟨x0, x1, x2, x3, x4, l0, l1, l2, c0, c1, c2, c3, c4, c5, c6, c7, c8, c9, c10⟩ := SB.rule _ _ _ _ _ _ _ _ _ _ _ _ _ _ _ _ _ _ G8.out.sb
    obtain ⟨olt, llt, qlt, rlt, blt⟩ := G8.out.lt
    have G9 := Lib.hid G8.out.drew
    have HI9 := Lib.hid HI8.out.drew
    have HO9 := Lib.hid HO8.out.drew
    have hrule := SB.rule ob lo q p rb lb n cr cl V S T 2 (L : Int) (s : Int) (u : Int) (v : Int)
    refine wp_region_held_drew (S := (fun W => SB W ob lo q p rb lb n cr cl V S T 2 (L : Int) (s : Int) (u : Int) (v : Int))) (by kernel_rfl) ?_ (fun hHeld => ?_)
    · exact G9.out.sb
    refine wpAnyH_take (i := 0) (v := ?_) rfl (by kernel_rfl) (by kernel_rfl) (by kernel_rfl) (fun _ _ _ h => h) (Or.inl ⟨by rfl, ?_⟩) (by assumption) ?_
    rotate_left
    · (intro w hSw; (try dsimp only at hSw); go_simp; try with_reducible rfl)
    try simp only [Act.put, List.setIfInBounds_toArray, List.set_cons_zero, List.set_cons_succ, List.getElem_toArray, List.getElem_cons_zero]
    refine wpAnyH_take (i := 1) (v := ?_) rfl (by kernel_rfl) (by kernel_rfl) (by kernel_rfl) (fun _ _ _ h => h) (Or.inl ⟨by rfl, ?_⟩) (by assumption) ?_
    rotate_left
    · (intro w hSw; (try dsimp only at hSw); go_simp; try with_reducible rfl)
    try simp only [Act.put, List.setIfInBounds_toArray, List.set_cons_zero, List.set_cons_succ, List.getElem_toArray, List.getElem_cons_zero, List.getElem_cons_succ]
    refine wpAnyH_take (i := 2) (v := ?_) rfl (by kernel_rfl) (by kernel_rfl) (by kernel_rfl) (fun _ _ _ h => h) (Or.inl ⟨by rfl, ?_⟩) (by assumption) ?_
    rotate_left
    · (intro w hSw; (try dsimp only at hSw); go_simp; try with_reducible rfl)
    try simp only [Act.put, List.setIfInBounds_toArray, List.set_cons_zero, List.set_cons_succ, List.getElem_toArray, List.getElem_cons_zero, List.getElem_cons_succ]
    refine wpAnyH_take (i := 3) (v := ?_) rfl (by kernel_rfl) (by kernel_rfl) (by kernel_rfl) (fun _ _ _ h => h) (Or.inl ⟨by rfl, ?_⟩) (by assumption) ?_
    rotate_left
    · (intro w hSw; (try dsimp only at hSw); go_simp; try with_reducible rfl)
    try simp only [Act.put, List.setIfInBounds_toArray, List.set_cons_zero, List.set_cons_succ, List.getElem_toArray, List.getElem_cons_zero, List.getElem_cons_succ]
    refine wpAnyH_take (i := 4) (v := ?_) rfl (by kernel_rfl) (by kernel_rfl) (by kernel_rfl) (fun _ _ _ h => h) (Or.inl ⟨by rfl, ?_⟩) (by assumption) ?_
    rotate_left
    · (intro w hSw; (try dsimp only at hSw); go_simp; try with_reducible rfl)
    try simp only [Act.put, List.setIfInBounds_toArray, List.set_cons_zero, List.set_cons_succ, List.getElem_toArray, List.getElem_cons_zero, List.getElem_cons_succ]
    refine wpAnyH_take (i := 5) (v := ?_) rfl (by kernel_rfl) (by kernel_rfl) (by kernel_rfl) (fun _ _ _ h => h) (Or.inl ⟨by rfl, ?_⟩) (by assumption) ?_
    rotate_left
    · (intro w hSw; (try dsimp only at hSw); go_simp; try with_reducible rfl)
    try simp only [Act.put, List.setIfInBounds_toArray, List.set_cons_zero, List.set_cons_succ, List.getElem_toArray, List.getElem_cons_zero, List.getElem_cons_succ]
    refine wpAnyH_take (i := 6) (v := ?_) rfl (by kernel_rfl) (by kernel_rfl) (by kernel_rfl) (fun _ _ _ h => h) (Or.inl ⟨by rfl, ?_⟩) (by assumption) ?_
    rotate_left
    · (intro w hSw; (try dsimp only at hSw); go_simp; try with_reducible rfl)
    try simp only [Act.put, List.setIfInBounds_toArray, List.set_cons_zero, List.set_cons_succ, List.getElem_toArray, List.getElem_cons_zero, List.getElem_cons_succ]
    refine wpAnyH_take (i := 7) (v := ?_) rfl (by kernel_rfl) (by kernel_rfl) (by kernel_rfl) (fun _ _ _ h => h) (Or.inl ⟨by rfl, ?_⟩) (by assumption) ?_
    rotate_left
    · (intro w hSw; (try dsimp only at hSw); go_simp; try with_reducible rfl)
    try simp only [Act.put, List.setIfInBounds_toArray, List.set_cons_zero, List.set_cons_succ, List.getElem_toArray, List.getElem_cons_zero, List.getElem_cons_succ]
    refine wpAnyH_ready (rs := [8]) (by kernel_rfl) (by simp) ?_
    refine AllReadyH.cons rfl (fun K hK => ?_) ?_
    rotate_left
    · exact AllReadyH.nil
    go_simp
    (refine (tcut G9.out.pg.fm lL hs HT.out.1 HARC.out HPP.out (by omega)).mono ?_; rintro e w2 ⟨g1, ts1, ti, tu, ct, dt, rfl, A1, M1, M2, R1, R2, M3, R3, M4, R4, K1, O1⟩)
    go_wp2_with fail
    refine hK.out _ _ ?_ (fun hHeld => ?_)
    · (try dsimp only); exact (G9.out.tree A1 O1).sb
    clear hK K
    try simp only [Act.put, List.setIfInBounds_toArray, List.set_cons_zero, List.set_cons_succ, List.getElem_toArray, List.getElem_cons_zero, List.getElem_cons_succ]
    refine wpAnyH_take (i := 9) (v := ?_) rfl (by kernel_rfl) (by kernel_rfl) (by kernel_rfl) (fun _ _ _ h => h) (Or.inl ⟨by rfl, ?_⟩) (by assumption) ?_
    rotate_left
    · (intro w hSw; (try dsimp only at hSw); go_simp; try with_reducible rfl)
    try simp only [Act.put, List.setIfInBounds_toArray, List.set_cons_zero, List.set_cons_succ, List.getElem_toArray, List.getElem_cons_zero, List.getElem_cons_succ]
    refine wpAnyH_take (i := 10) (v := ?_) rfl (by kernel_rfl) (by kernel_rfl) (by kernel_rfl) (fun _ _ _ h => h) (Or.inl ⟨by rfl, ?_⟩) (by assumption) ?_
    rotate_left
    · (intro w hSw; (try dsimp only at hSw); go_simp; try with_reducible rfl)
    try simp only [Act.put, List.setIfInBounds_toArray, List.set_cons_zero, List.set_cons_succ, List.getElem_toArray, List.getElem_cons_zero, List.getElem_cons_succ]
    refine wpAnyH_take (i := 11) (v := ?_) rfl (by kernel_rfl) (by kernel_rfl) (by kernel_rfl) (fun _ _ _ h => h) (Or.inl ⟨by rfl, ?_⟩) (by assumption) ?_
    rotate_left
    · (intro w hSw; (try dsimp only at hSw); go_simp; try with_reducible rfl)
    try simp only [Act.put, List.setIfInBounds_toArray, List.set_cons_zero, List.set_cons_succ, List.getElem_toArray, List.getElem_cons_zero, List.getElem_cons_succ]
    refine wpAnyH_take (i := 12) (v := ?_) rfl (by kernel_rfl) (by kernel_rfl) (by kernel_rfl) (fun _ _ _ h => h) (Or.inl ⟨by rfl, ?_⟩) (by assumption) ?_
    rotate_left
    · (intro w hSw; (try dsimp only at hSw); go_simp; try with_reducible rfl)
    try simp only [Act.put, List.setIfInBounds_toArray, List.set_cons_zero, List.set_cons_succ, List.getElem_toArray, List.getElem_cons_zero, List.getElem_cons_succ]
    refine wpAnyH_take (i := 13) (v := ?_) rfl (by kernel_rfl) (by kernel_rfl) (by kernel_rfl) (fun _ _ _ h => h) (Or.inl ⟨by rfl, ?_⟩) (by assumption) ?_
    rotate_left
    · (intro w hSw; (try dsimp only at hSw); go_simp; try with_reducible rfl)
    try simp only [Act.put, List.setIfInBounds_toArray, List.set_cons_zero, List.set_cons_succ, List.getElem_toArray, List.getElem_cons_zero, List.getElem_cons_succ]
    refine wpAnyH_done (by kernel_rfl) ?_ _
    have G10 := Lib.hid (G9.out.tree A1 O1)
    have HI10 := Lib.hid (HI9.out.onlyT G9.out.pg.fm.tm O1)
    have HO10 := Lib.hid (HO9.out.onlyT G9.out.pg.fm.tm O1)
    have HLV := Lib.hid (Lv.all_cut HLA.out HR.out G10.out.pg.hn hL HF.out HI.out HE.out HARC.out HT.out.2 M1 M2 R1 R2 M3 R3 M4 R4 K1)
    have HTI := Lib.hid (And.intro M1 R1)
    have HTU := Lib.hid (And.intro M2 R2)
    clear A1 M1 M2 R1 R2 M3 R3 M4 R4 K1 O1 G8 G9 HI8 HO8 HI9 HO9 hrule x0 x1 x2 x3 x4 l0 l1 l2 c0 c1 c2 c3 c4 c5 c6 c7 c8 c9 c10 olt llt qlt rlt blt
    obtain ⟨x0, x1, x2, x3, x4, l0, l1, l2, c0, c1, c2, c3, c4, c5, c6, c7, c8, c9, c10⟩ := SB.rule _ _ _ _ _ _ _ _ _ _ _ _ _ _ _ _ _ _ G10.out.sb
    obtain ⟨olt, llt, qlt, rlt, blt⟩ := G10.out.lt
    go_wp2_with fail
    refine (hlist G10.out.pg.fm HTI.out.1 (by omega) rfl).mono ?_
    rintro e w2 ⟨v9, rfl, L9, _, A1, O1⟩
    have G11 := Lib.hid (G10.out.tree A1 O1)
    have HI11 := Lib.hid (HI10.out.onlyT G10.out.pg.fm.tm O1)
    have HO11 := Lib.hid (HO10.out.onlyT G10.out.pg.fm.tm O1)
    have HV := Lib.hid (LI.cong L9 HTI.out.2)
    clear A1 O1 L9 G10 HI10 HO10 x0 x1 x2 x3 x4 l0 l1 l2 c0 c1 c2 c3 c4 c5 c6 c7 c8 c9 c10 olt llt qlt rlt blt
    go_wp2_with fail
    refine (same_yes HV.out HI11.out HQ5.out.1).mono ?_; rintro e w3 ⟨rfl, B1⟩
    have G12 := Lib.hid (G11.out.below B1)
    have HO12 := Lib.hid (HO11.out.below B1)
    clear G11 HI11 HO11 HV B1
    obtain ⟨x0, x1, x2, x3, x4, l0, l1, l2, c0, c1, c2, c3, c4, c5, c6, c7, c8, c9, c10⟩ := SB.rule _ _ _ _ _ _ _ _ _ _ _ _ _ _ _ _ _ _ G12.out.sb
    obtain ⟨olt, llt, qlt, rlt, blt⟩ := G12.out.lt
    go_wp2_with fail
    refine (hlist G12.out.pg.fm HTU.out.1 (by omega) rfl).mono ?_
    rintro e w4 ⟨v9, rfl, L9, _, A1, O1⟩
    have G13 := Lib.hid (G12.out.tree A1 O1)
    have HO13 := Lib.hid (HO12.out.onlyT G12.out.pg.fm.tm O1)
    have HV := Lib.hid (LI.cong L9 HTU.out.2)
    clear A1 O1 L9 G12 HO12 x0 x1 x2 x3 x4 l0 l1 l2 c0 c1 c2 c3 c4 c5 c6 c7 c8 c9 c10 olt llt qlt rlt blt
    go_wp2_with fail
    refine (same_yes HV.out HO13.out HQ5.out.2).mono ?_; rintro e w5 ⟨rfl, B1⟩
    have G14 := Lib.hid (G13.out.below B1)
    clear G13 HO13 HV B1
    go_wp2_with fail
    go_ret
    exact ⟨rfl, G14.out.fin HLV.out HV8.out.1 HV8.out.2 (by omega)⟩
end

end Go.Proofs.Ytahabfjngeicmaa
