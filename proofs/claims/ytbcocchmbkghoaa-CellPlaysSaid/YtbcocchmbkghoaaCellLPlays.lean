/- Walk of CellPlays. -/
import Derived.Test.YtbcocchmbkghoaaCellG
namespace Go.Proofs.Ytbcocchmbkghoaa
open Go.RowKit

theorem Ar.far {w : World} {p g n cap : Nat} {c f : Nat → Int} (A : Ar w p g n cap c f) {b o : Nat} (h1 : p ≠ b) (h2 : g ≠ b) (u : Value) : Ar (w.setCell ⟨b, o, none⟩ u) p g n cap c f := by
  obtain ⟨zs, hz, he⟩ := A.cells
  exact ⟨A.own.far h1 _, ⟨zs, hz.far h2 _, he⟩, A.le, A.few, A.fit⟩

/-- A plain list in memory. -/
def Rw (w : World) (g n : Nat) (f : Nat → Int) : Prop := ∃ zs : Array Value, Blk w g 32 zs ∧ ∀ k, k < n → zs[k]? = some (.int .u64 (f k))

section
variable {w w' : World} {g n : Nat} {f : Nat → Int}
theorem Rw.cell (h : Rw w g n f) {k : Nat} (hk : k < n) : w.cell? ⟨g, k, none⟩ = some (.int .u64 (f k)) := by
  obtain ⟨zs, hz, he⟩ := h
  exact (hz.cell k).trans (he k hk)
theorem Rw.fz (h : Rw w g n f) (i : Nat) : w.frozen? ⟨g, i, none⟩ = false := by
  obtain ⟨zs, hz, _⟩ := h
  exact hz.frozen i
theorem Rw.lt (h : Rw w g n f) : g < w.heap.size := by
  obtain ⟨zs, hz, _⟩ := h
  exact hz.lt
theorem Rw.alloc (h : Rw w g n f) (o : Obj) : Rw (w.alloc o) g n f := by
  obtain ⟨zs, hz, he⟩ := h
  exact ⟨zs, hz.alloc o, he⟩
theorem Rw.drew (h : Rw w g n f) : Rw w.drew g n f := h
theorem Rw.drewN (h : Rw w g n f) (q : Nat) : Rw (w.drewN q) g n f := h
theorem Rw.below (h : Rw w g n f) (hb : Below w.heap.size w w') : Rw w' g n f := by
  obtain ⟨zs, hz, he⟩ := h
  exact ⟨zs, hz.below hb hz.lt, he⟩
theorem Rw.only {p' g' : Nat} (h : Rw w g n f) (ho : Only p' g' w w') (h1 : g ≠ p') (h2 : g ≠ g') : Rw w' g n f := by
  obtain ⟨zs, hz, he⟩ := h
  exact ⟨zs, hz.only ho h1 h2, he⟩
theorem Rw.far (h : Rw w g n f) {b o : Nat} (hb : g ≠ b) (u : Value) : Rw (w.setCell ⟨b, o, none⟩ u) g n f := by
  obtain ⟨zs, hz, he⟩ := h
  exact ⟨zs, hz.far hb _, he⟩
theorem Rw.set_ (h : Rw w g n f) {k : Nat} (hk : k < n) (v : Int) : Rw (w.setCell ⟨g, k, none⟩ (.int .u64 v)) g n (upd f k v) := by
  obtain ⟨zs, hz, he⟩ := h
  refine ⟨_, hz.set_ k _, fun i hi => ?_⟩
  by_cases e : i = k
  · subst e
    have hs : i < zs.size := by
      have := he i hi
      rcases Nat.lt_or_ge i zs.size with hlt | hge
      · exact hlt
      · rw [Array.getElem?_eq_none hge] at this; cases this
    simp [upd, hs]
  · rw [Array.getElem?_setIfInBounds_ne (fun h => e h.symm), he i hi, upd_other _ _ e]
end

/-- The law's own counts in memory. -/
def Cn (w : World) (g : Nat) (c : Nat → Int) : Prop := Blk w g 31 #[.int .i64 (c 0), .int .i64 (c 1), .int .i64 (c 2), .int .i64 (c 3), .int .i64 (c 4)]

section
variable {w w' : World} {g : Nat} {c : Nat → Int}
theorem Cn.lt (h : Cn w g c) : g < w.heap.size := Blk.lt h
theorem Cn.alloc (h : Cn w g c) (o : Obj) : Cn (w.alloc o) g c := Blk.alloc h o
theorem Cn.drew (h : Cn w g c) : Cn w.drew g c := h
theorem Cn.drewN (h : Cn w g c) (q : Nat) : Cn (w.drewN q) g c := h
theorem Cn.below (h : Cn w g c) (hb : Below w.heap.size w w') : Cn w' g c := Blk.below h hb h.lt
theorem Cn.only {p' g' : Nat} (h : Cn w g c) (ho : Only p' g' w w') (h1 : g ≠ p') (h2 : g ≠ g') : Cn w' g c := Blk.only h ho h1 h2
theorem Cn.far (h : Cn w g c) {b o : Nat} (hb : g ≠ b) (u : Value) : Cn (w.setCell ⟨b, o, none⟩ u) g c := Blk.far h hb u
theorem Cn.fz (h : Cn w g c) (i : Nat) : w.frozen? ⟨g, i, none⟩ = false := Blk.frozen h i
theorem Cn.c0 (h : Cn w g c) : w.cell? ⟨g, 0, none⟩ = some (.int .i64 (c 0)) := Blk.cell h 0
theorem Cn.c1 (h : Cn w g c) : w.cell? ⟨g, 1, none⟩ = some (.int .i64 (c 1)) := Blk.cell h 1
theorem Cn.c2 (h : Cn w g c) : w.cell? ⟨g, 2, none⟩ = some (.int .i64 (c 2)) := Blk.cell h 2
theorem Cn.c3 (h : Cn w g c) : w.cell? ⟨g, 3, none⟩ = some (.int .i64 (c 3)) := Blk.cell h 3
theorem Cn.c4 (h : Cn w g c) : w.cell? ⟨g, 4, none⟩ = some (.int .i64 (c 4)) := Blk.cell h 4
theorem Cn.count {j : Nat} (h : Cn w g c) (hj : j < 5) (v : Int) : Cn (w.setCell ⟨g, j, none⟩ (.int .i64 v)) g (upd c j v) := by
  have h' := Blk.set_ h j (.int .i64 v)
  match j, hj with
  | 0, _ => exact h'
  | 1, _ => exact h'
  | 2, _ => exact h'
  | 3, _ => exact h'
  | 4, _ => exact h'
end

theorem Below.drewd {B : Nat} {a w : World} (h : Below B a w) : Below B a w.drew := ⟨h.os, h.tape, h.output, h.size, h.block⟩
theorem Below.far {B : Nat} {a w : World} (h : Below B a w) {b o : Nat} (hb : B ≤ b) (u : Value) : Below B a (w.setCell ⟨b, o, none⟩ u) := h.setCell hb u

set_option maxRecDepth 100000 in
set_option maxHeartbeats 4000000 in
theorem cellPlays_long (cells : Int) (a : Option Addr) (len cap : Nat) (w : World) (h : (80 : Int) < (len : Int)) :
    Calls Try.prog 3 #[.int .i64 cells, .slice a len cap] w fun e w' => e = .returned (.bool true) ∧ Below w.heap.size w w' := by
  go_enter Try.func3, Try.ntmps3
  go_wp2_with fail
  refine (awake_any _).mono ?_; rintro e w3 ⟨rfl, hb3⟩
  go_wp2_with fail
  go_ret
  exact ⟨rfl, hb3⟩

set_option maxRecDepth 100000 in
set_option maxHeartbeats 4000000 in
theorem cellPlays_out (cells : Int) (a : Option Addr) (len cap : Nat) (w : World) (h1 : (len : Int) ≤ 80) (h : cells < 0 ∨ 16384 < cells) :
    Calls Try.prog 3 #[.int .i64 cells, .slice a len cap] w fun e w' => e = .returned (.bool true) ∧ Below w.heap.size w w' := by
  have HH := Lib.hid h
  by_cases h3 : cells < 0
  · clear h
    go_enter Try.func3, Try.ntmps3
    go_wp2_with fail
    refine (new_no _ _ HH.out).mono ?_; rintro e w3 ⟨rfl, rfl⟩
    go_wp2_with fail
    refine (awake_any _).mono ?_; rintro e w3 ⟨rfl, hb3⟩
    go_wp2_with fail
    go_ret
    exact ⟨rfl, hb3⟩
  · have h4 : 16384 < cells := by omega
    clear h
    go_enter Try.func3, Try.ntmps3
    go_wp2_with fail
    refine (new_no _ _ HH.out).mono ?_; rintro e w3 ⟨rfl, rfl⟩
    go_wp2_with fail
    refine (awake_any _).mono ?_; rintro e w3 ⟨rfl, hb3⟩
    go_wp2_with fail
    go_ret
    exact ⟨rfl, hb3⟩

/-- What holds at each round's head: gl is the plain list's block, gl + 1 the counts'. -/
def PlaysRel (n len gl : Nat) (w : World) (ap i : Value) (wr : World) : Prop :=
  ∃ (k p g cap : Nat) (c f : Nat → Int), k ≤ len ∧ i = .int .i64 k ∧ ap = .pointer (some ⟨p, 0, none⟩) ∧ Ar wr p g n cap c f ∧ Rw wr gl n f ∧ Cn wr (gl + 1) c ∧ CB c k ∧
    w.heap.size ≤ p ∧ w.heap.size ≤ g ∧ p ≠ gl ∧ p ≠ gl + 1 ∧ g ≠ gl ∧ g ≠ gl + 1 ∧ Below w.heap.size w wr

/-- What holds at each head of the last loop. -/
def LastRel (n p g cap gl : Nat) (f : Nat → Int) (w : World) (i : Value) (wr : World) : Prop :=
  ∃ (j : Nat) (c : Nat → Int), j ≤ n ∧ i = .int .i64 j ∧ Ar wr p g n cap c f ∧ Rw wr gl n f ∧ CB c (80 + j) ∧ Below w.heap.size w wr

set_option maxRecDepth 100000 in
set_option maxHeartbeats 32000000 in
theorem cellPlays_main (n : Nat) (a : Option Addr) (len cap : Nat) (q : Nat → OpV) (w : World) (h1 : (len : Int) ≤ 80) (hn : n ≤ 16384) (hq : IsOps w a len q) :
    Calls Try.prog 3 #[.int .i64 (n : Int), .slice a len cap] w fun e w' => e = .returned (.bool true) ∧ Below w.heap.size w w' := by
  have HQ := Lib.hid hq; clear hq
  have F0 := Lib.hid few0
  have hmk := run_make_row' (P := Try.prog) 29 32 (.int .u64 0) 8 Try.underlying29 info_u64 rfl .i64 .i64 n (by omega) (by omega)
  go_enter Try.func3, Try.ntmps3
  go_wp2_with fail
  refine (new_yes n _ (by omega)).mono ?_; rintro e w1 ⟨rfl, A1, B1⟩
  go_wp2_with fail
  refine (len_any A1).mono ?_; rintro e w2 ⟨rfl, rfl⟩
  go_wp2_with fail
  have hpl := A1.p_lt
  have hob := B1.size
  have A2 := (A1.alloc (.cells (madeCells #[Value.int .u64 0] n) 32)).alloc (.cells #[.int .i64 0, .int .i64 0, .int .i64 0, .int .i64 0, .int .i64 0] 31)
  have L2 : Rw ((w1.alloc (.cells (madeCells #[Value.int .u64 0] n) 32)).alloc (.cells #[.int .i64 0, .int .i64 0, .int .i64 0, .int .i64 0, .int .i64 0] 31)) w1.heap.size n zeroF :=
    Rw.alloc ⟨_, Blk.new w1 _ _, fun k hk => zeros_at n k hk⟩ _
  have N2 : Cn ((w1.alloc (.cells (madeCells #[Value.int .u64 0] n) 32)).alloc (.cells #[.int .i64 0, .int .i64 0, .int .i64 0, .int .i64 0, .int .i64 0] 31)) (w1.heap.size + 1) zeroF := by
    have := Blk.new (w1.alloc (.cells (madeCells #[Value.int .u64 0] n) 32)) 31 #[.int .i64 0, .int .i64 0, .int .i64 0, .int .i64 0, .int .i64 0]
    simpa [Cn, zeroF] using this
  have B2 := (B1.alloc B1.size (.cells (madeCells #[Value.int .u64 0] n) 32)).alloc (Nat.le_trans B1.size (by simp)) (.cells #[.int .i64 0, .int .i64 0, .int .i64 0, .int .i64 0, .int .i64 0] 31)
  clear hmk A1 B1
  go_loopw [5, 63] (fun ap i wr => PlaysRel n len w1.heap.size w ap i wr) (fun _ i _ => len - (intOf i).toNat)
  case atStart => exact ⟨0, _, _, _, zeroF, zeroF, Nat.zero_le _, rfl, rfl, A2, L2, N2, F0.out, by omega, by omega, by omega, by omega, by omega, by omega, B2⟩
  case round =>
    clear A2 L2 N2 B2
    obtain ⟨wo, rfl⟩ : ∃ wo : World, wo = wr := ⟨_, rfl⟩
    obtain ⟨gl, hgl⟩ : ∃ gl, gl = w1.heap.size := ⟨_, rfl⟩
    obtain ⟨k, p, g, cp, c, f, hk, rfl, rfl, A, L, N, hm, hp1, hg1, d1, d2, d3, d4, B⟩ := hrel
    rw [← hgl] at L N d1 d2 d3 d4 hpl ⊢
    have hob' : w.heap.size ≤ gl := by omega
    clear hgl
    have hll := N.lt
    have hll' : gl < wo.heap.size := by omega
    have hpl' := A.p_lt
    have hgl' := A.g_lt
    by_cases hlt : k < len
    · obtain ⟨b, off, rfl, hcells⟩ := HQ.out (by omega)
      obtain ⟨x0, x1, x2, x3, f0, f1, f2, f3⟩ := hcells k hlt
      clear hcells
      generalize q k = o at x0 x1 x2 x3 f0 f1 f2 f3
      obtain ⟨ok, oi, oa, ov⟩ := o
      simp only at x0 x1 x2 x3 f0 f1 f2 f3
      by_cases hrange : 0 ≤ oi ∧ oi < (n : Int)
      · obtain ⟨j, rfl⟩ := Int.eq_ofNat_of_zero_le hrange.1
        have hj : j < n := by omega
        clear hrange f1
        have y0 := cell_later B x0
        have y1 := cell_later B x1
        have y2 := cell_later B x2
        have y3 := cell_later B x3
        clear x0 x1 x2 x3
        have A0 := A.alloc (.cells #[.int .i64 ok, .int .i64 (j : Int), .int .u64 oa, .int .u64 ov] 34)
        have L0 := L.alloc (.cells #[.int .i64 ok, .int .i64 (j : Int), .int .u64 oa, .int .u64 ov] 34)
        have N0 := N.alloc (.cells #[.int .i64 ok, .int .i64 (j : Int), .int .u64 oa, .int .u64 ov] 34)
        have B0 := B.alloc B.size (.cells #[.int .i64 ok, .int .i64 (j : Int), .int .u64 oa, .int .u64 ov] 34)
        have X0 := Blk.new wo 34 #[.int .i64 ok, .int .i64 (j : Int), .int .u64 oa, .int .u64 ov]
        have lj := L.cell hj
        have hne := A.ne_
        by_cases t5 : ok = 5
        · have e5 : (ok == 5) = true := beq_iff_eq.2 t5
          clear t5
          go_wp2_with fail
          refine (copy_any A0).mono ?_; rintro e w2 ⟨pb, gb, cb, rfl, hpb, hgb, C2, K2⟩
          have A2 := A0.below K2 (Nat.le_refl _)
          have L2 := L0.below K2
          have N2 := N0.below K2
          have B2 := keepB B0 K2
          have z3 := (X0.below K2 X0.lt).cell 3
          simp only [List.getElem?_toArray, List.getElem?_cons_zero, List.getElem?_cons_succ] at z3
          have hpb' : wo.heap.size + 1 ≤ pb := by simpa using hpb
          have hgb' : wo.heap.size + 1 ≤ gb := by simpa using hgb
          clear A0 L0 N0 B0 A L N B X0 K2 hpb hgb y0 y1 y2 y3
          go_wp2_with fail
          refine (aequal_is C2 A2 (same_self n f)).mono ?_; rintro e w3 ⟨rfl, d8, rfl⟩
          go_wp2_with fail
          refine (store_st (s := (c, f)) (A2.drewN d8) 0 (sumU ov 1) (sumU_fit _ _) hm (by omega)).mono ?_; rintro e w4 ⟨r, rfl, A4, m4, O4⟩
          have C4 := (C2.drewN d8).only O4 (by omega) (by omega) (by omega) (by omega)
          have L4 := (L2.drewN d8).only O4 (by omega) (by omega)
          have N4 := (N2.drewN d8).only O4 (by omega) (by omega)
          have B4 : Below w.heap.size w w4 := O4.below (⟨B2.os, B2.tape, B2.output, B2.size, B2.block⟩ : Below w.heap.size w (w2.drewN d8)) B2.size (by omega) (by omega)
          clear C2 A2 L2 N2 B2 O4 A4 m4 z3
          go_wp2_with fail
          exact ⟨⟨k + 1, pb, gb, cb, c, f, by omega, by go_num, rfl, C4, L4, N4, hm.more (by omega), by omega, by omega, by omega, by omega, by omega, by omega, B4⟩, by simp [intOf]; omega⟩
        · have e5 : (ok == 5) = false := beq_eq_false_iff_ne.2 t5
          clear t5
          have lf := L.fz j
          by_cases t1 : ok = 1
          · have e1 : (ok == 1) = true := beq_iff_eq.2 t1
            clear t1

            have hx := hm 0
            have hx1 : 0 ≤ c 0 := hx.1
            have hx2 : c 0 ≤ 1000000 := by omega
            clear hx
            go_wp2_with fail
            refine (load_yes A0 hj hm (by omega)).mono ?_; rintro e w2 ⟨rfl, A2, O2⟩
            have L2 := L0.only O2 (by omega) (by omega)
            have N2 := N0.only O2 (by omega) (by omega)
            have B2 := O2.below B0 B0.size (by omega) (by omega)
            clear A0 L0 N0 B0 A L N B X0 y0 y1 y2 y3 lj
            have nc := N2.c0
            have nf := N2.fz 0
            go_wp2_with fail
            have A3 := A2.far (o := 0) d2 d4 (.int .i64 (c 0 + 1))
            have L3 := L2.far (b := gl + 1) (o := 0) (by omega) (.int .i64 (c 0 + 1))
            have N3 := N2.count (j := 0) (by omega) (c 0 + 1)
            have B3 := Below.far B2 (b := gl + 1) (o := 0) (by omega) (.int .i64 (c 0 + 1))
            have m3 := hm.upd 0
            clear A2 L2 N2 B2 nc nf O2 hx1 hx2
            generalize upd c 0 (c 0 + 1) = c' at A3 N3 m3
            generalize f = f' at A3 L3

            have z0 := N3.c0
            have z1 := N3.c1
            have z2 := N3.c2
            have z3 := N3.c3
            have z4 := N3.c4
            go_region_held3 (fun w' => w'.cell? ⟨gl + 1, 0, none⟩ = some (.int .i64 (c' 0)) ∧ w'.cell? ⟨gl + 1, 1, none⟩ = some (.int .i64 (c' 1)) ∧ w'.cell? ⟨gl + 1, 2, none⟩ = some (.int .i64 (c' 2)) ∧ w'.cell? ⟨gl + 1, 3, none⟩ = some (.int .i64 (c' 3)) ∧ w'.cell? ⟨gl + 1, 4, none⟩ = some (.int .i64 (c' 4)))
              (first | assumption | exact ⟨z0, z1, z2, z3, z4⟩ | exact (And.imp (cell_later hb9) (And.imp (cell_later hb9) (And.imp (cell_later hb9) (And.imp (cell_later hb9) (cell_later hb9))))) (by assumption))
              (first | ((with_reducible refine (counts_any A3.drew).mono ?_); rintro e w9 ⟨rfl, hb9⟩))
            have A9 := A3.drew.below hb9 (Nat.le_refl _)
            have L9 := L3.drew.below hb9
            have N9 := N3.drew.below hb9
            have B9 : Below w.heap.size w w9 := keepB (Below.drewd B3) hb9
            clear A3 L3 N3 B3 z0 z1 z2 z3 z4 hb9
            all_goals go_wp2_with fail
            exact ⟨⟨k + 1, p, g, cp, c', f', by omega, by go_num, rfl, A9, L9, N9, m3, by omega, by omega, by omega, by omega, by omega, by omega, B9⟩, by simp [intOf]; omega⟩
          · have e1 : (ok == 1) = false := beq_eq_false_iff_ne.2 t1
            clear t1
            by_cases t2 : ok = 2
            · have e2 : (ok == 2) = true := beq_iff_eq.2 t2
              clear t2

              have hx := hm 1
              have hx1 : 0 ≤ c 1 := hx.1
              have hx2 : c 1 ≤ 1000000 := by omega
              clear hx
              have nc := N.c1
              have nf := N.fz 1
              have A2 := ((A.far (o := j) d1 d3 (.int .u64 ov)).far (o := 1) d2 d4 (.int .i64 (c 1 + 1))).alloc (.cells #[.int .i64 ok, .int .i64 (j : Int), .int .u64 oa, .int .u64 ov] 34)
              have L2 := ((L.set_ hj ov).far (b := gl + 1) (o := 1) (by omega) (.int .i64 (c 1 + 1))).alloc (.cells #[.int .i64 ok, .int .i64 (j : Int), .int .u64 oa, .int .u64 ov] 34)
              have N2 := ((N.far (b := gl) (o := j) (by omega) (.int .u64 ov)).count (j := 1) (by omega) (c 1 + 1)).alloc (.cells #[.int .i64 ok, .int .i64 (j : Int), .int .u64 oa, .int .u64 ov] 34)
              have B2' := Below.far (Below.far B (b := gl) (o := j) (by omega) (.int .u64 ov)) (b := gl + 1) (o := 1) (by omega) (.int .i64 (c 1 + 1))
              have B2 := B2'.alloc B2'.size (.cells #[.int .i64 ok, .int .i64 (j : Int), .int .u64 oa, .int .u64 ov] 34)
              clear B2'
              go_wp2_with fail
              refine (store_yes A2 hj f3.1 f3.2 hm (by omega)).mono ?_; rintro e w2 ⟨rfl, A3, O2⟩
              have L3 := L2.only O2 (by omega) (by omega)
              have N3 := N2.only O2 (by omega) (by omega)
              have B3 := O2.below B2 B2.size (by omega) (by omega)
              have m3 := hm.upd 1
              clear A0 L0 N0 B0 A L N B X0 y0 y1 y2 y3 lj
              clear A2 L2 N2 B2 nc nf O2 hx1 hx2
              generalize upd c 1 (c 1 + 1) = c' at A3 N3 m3
              generalize upd f j ov = f' at A3 L3
              go_wp2_with fail

              have z0 := N3.c0
              have z1 := N3.c1
              have z2 := N3.c2
              have z3 := N3.c3
              have z4 := N3.c4
              go_region_held3 (fun w' => w'.cell? ⟨gl + 1, 0, none⟩ = some (.int .i64 (c' 0)) ∧ w'.cell? ⟨gl + 1, 1, none⟩ = some (.int .i64 (c' 1)) ∧ w'.cell? ⟨gl + 1, 2, none⟩ = some (.int .i64 (c' 2)) ∧ w'.cell? ⟨gl + 1, 3, none⟩ = some (.int .i64 (c' 3)) ∧ w'.cell? ⟨gl + 1, 4, none⟩ = some (.int .i64 (c' 4)))
                (first | assumption | exact ⟨z0, z1, z2, z3, z4⟩ | exact (And.imp (cell_later hb9) (And.imp (cell_later hb9) (And.imp (cell_later hb9) (And.imp (cell_later hb9) (cell_later hb9))))) (by assumption))
                (first | ((with_reducible refine (counts_any A3.drew).mono ?_); rintro e w9 ⟨rfl, hb9⟩))
              have A9 := A3.drew.below hb9 (Nat.le_refl _)
              have L9 := L3.drew.below hb9
              have N9 := N3.drew.below hb9
              have B9 : Below w.heap.size w w9 := keepB (Below.drewd B3) hb9
              clear A3 L3 N3 B3 z0 z1 z2 z3 z4 hb9
              all_goals go_wp2_with fail
              exact ⟨⟨k + 1, p, g, cp, c', f', by omega, by go_num, rfl, A9, L9, N9, m3, by omega, by omega, by omega, by omega, by omega, by omega, B9⟩, by simp [intOf]; omega⟩
            · have e2 : (ok == 2) = false := beq_eq_false_iff_ne.2 t2
              clear t2
              by_cases t3 : ok = 3
              · have e3 : (ok == 3) = true := beq_iff_eq.2 t3
                clear t3
                by_cases hx : f j = oa
                · have eo : (f j == oa) = true := beq_iff_eq.2 hx
                  clear hx

                  have hx := hm 2
                  have hx1 : 0 ≤ c 2 := hx.1
                  have hx2 : c 2 ≤ 1000000 := by omega
                  clear hx
                  go_wp2_with fail
                  refine (swap_hit A0 hj eo f3.1 f3.2 hm (by omega)).mono ?_; rintro e w2 ⟨rfl, A2, O2⟩
                  have L2 := L0.only O2 (by omega) (by omega)
                  have N2 := N0.only O2 (by omega) (by omega)
                  have B2 := O2.below B0 B0.size (by omega) (by omega)
                  have X2 := X0.only O2 (by omega) (by omega)
                  have z1 := X2.cell 1
                  have z2 := X2.cell 2
                  have z3 := X2.cell 3
                  simp only [List.getElem?_toArray, List.getElem?_cons_zero, List.getElem?_cons_succ] at z1 z2 z3
                  clear X2 O2
                  clear A0 L0 N0 B0 A L N B X0 y0 y1 y2 y3 lj
                  have nc := N2.c2
                  have nf := N2.fz 2
                  have lc := L2.cell hj
                  have lg := L2.fz j
                  go_wp2_with fail
                  have A3 := (A2.far (o := 2) d2 d4 (.int .i64 (c 2 + 1))).far (o := j) d1 d3 (.int .u64 ov)
                  have L3 := (L2.far (b := gl + 1) (o := 2) (by omega) (.int .i64 (c 2 + 1))).set_ hj ov
                  have N3 := (N2.count (j := 2) (by omega) (c 2 + 1)).far (b := gl) (o := j) (by omega) (.int .u64 ov)
                  have B3 := Below.far (Below.far B2 (b := gl + 1) (o := 2) (by omega) (.int .i64 (c 2 + 1))) (b := gl) (o := j) (by omega) (.int .u64 ov)
                  have m3 := hm.upd 2
                  clear A2 L2 N2 B2 nc nf lc lg z1 z2 z3 hx1 hx2
                  generalize upd c 2 (c 2 + 1) = c' at A3 N3 m3
                  generalize upd f j ov = f' at A3 L3

                  have z0 := N3.c0
                  have z1 := N3.c1
                  have z2 := N3.c2
                  have z3 := N3.c3
                  have z4 := N3.c4
                  go_region_held3 (fun w' => w'.cell? ⟨gl + 1, 0, none⟩ = some (.int .i64 (c' 0)) ∧ w'.cell? ⟨gl + 1, 1, none⟩ = some (.int .i64 (c' 1)) ∧ w'.cell? ⟨gl + 1, 2, none⟩ = some (.int .i64 (c' 2)) ∧ w'.cell? ⟨gl + 1, 3, none⟩ = some (.int .i64 (c' 3)) ∧ w'.cell? ⟨gl + 1, 4, none⟩ = some (.int .i64 (c' 4)))
                    (first | assumption | exact ⟨z0, z1, z2, z3, z4⟩ | exact (And.imp (cell_later hb9) (And.imp (cell_later hb9) (And.imp (cell_later hb9) (And.imp (cell_later hb9) (cell_later hb9))))) (by assumption))
                    (first | ((with_reducible refine (counts_any A3.drew).mono ?_); rintro e w9 ⟨rfl, hb9⟩))
                  have A9 := A3.drew.below hb9 (Nat.le_refl _)
                  have L9 := L3.drew.below hb9
                  have N9 := N3.drew.below hb9
                  have B9 : Below w.heap.size w w9 := keepB (Below.drewd B3) hb9
                  clear A3 L3 N3 B3 z0 z1 z2 z3 z4 hb9
                  all_goals go_wp2_with fail
                  exact ⟨⟨k + 1, p, g, cp, c', f', by omega, by go_num, rfl, A9, L9, N9, m3, by omega, by omega, by omega, by omega, by omega, by omega, B9⟩, by simp [intOf]; omega⟩
                · have eo : (f j == oa) = false := beq_eq_false_iff_ne.2 hx
                  clear hx

                  have hx := hm 3
                  have hx1 : 0 ≤ c 3 := hx.1
                  have hx2 : c 3 ≤ 1000000 := by omega
                  clear hx
                  go_wp2_with fail
                  refine (swap_miss A0 hj eo hm (by omega)).mono ?_; rintro e w2 ⟨rfl, A2, O2⟩
                  have L2 := L0.only O2 (by omega) (by omega)
                  have N2 := N0.only O2 (by omega) (by omega)
                  have B2 := O2.below B0 B0.size (by omega) (by omega)
                  have X2 := X0.only O2 (by omega) (by omega)
                  have z1 := X2.cell 1
                  have z2 := X2.cell 2
                  have z3 := X2.cell 3
                  simp only [List.getElem?_toArray, List.getElem?_cons_zero, List.getElem?_cons_succ] at z1 z2 z3
                  clear X2 O2
                  clear A0 L0 N0 B0 A L N B X0 y0 y1 y2 y3 lj
                  have nc := N2.c3
                  have nf := N2.fz 3
                  go_wp2_with fail
                  have A3 := A2.far (o := 3) d2 d4 (.int .i64 (c 3 + 1))
                  have L3 := L2.far (b := gl + 1) (o := 3) (by omega) (.int .i64 (c 3 + 1))
                  have N3 := N2.count (j := 3) (by omega) (c 3 + 1)
                  have B3 := Below.far B2 (b := gl + 1) (o := 3) (by omega) (.int .i64 (c 3 + 1))
                  have m3 := hm.upd 3
                  clear A2 L2 N2 B2 nc nf z1 z2 z3 hx1 hx2
                  generalize upd c 3 (c 3 + 1) = c' at A3 N3 m3
                  generalize f = f' at A3 L3

                  have z0 := N3.c0
                  have z1 := N3.c1
                  have z2 := N3.c2
                  have z3 := N3.c3
                  have z4 := N3.c4
                  go_region_held3 (fun w' => w'.cell? ⟨gl + 1, 0, none⟩ = some (.int .i64 (c' 0)) ∧ w'.cell? ⟨gl + 1, 1, none⟩ = some (.int .i64 (c' 1)) ∧ w'.cell? ⟨gl + 1, 2, none⟩ = some (.int .i64 (c' 2)) ∧ w'.cell? ⟨gl + 1, 3, none⟩ = some (.int .i64 (c' 3)) ∧ w'.cell? ⟨gl + 1, 4, none⟩ = some (.int .i64 (c' 4)))
                    (first | assumption | exact ⟨z0, z1, z2, z3, z4⟩ | exact (And.imp (cell_later hb9) (And.imp (cell_later hb9) (And.imp (cell_later hb9) (And.imp (cell_later hb9) (cell_later hb9))))) (by assumption))
                    (first | ((with_reducible refine (counts_any A3.drew).mono ?_); rintro e w9 ⟨rfl, hb9⟩))
                  have A9 := A3.drew.below hb9 (Nat.le_refl _)
                  have L9 := L3.drew.below hb9
                  have N9 := N3.drew.below hb9
                  have B9 : Below w.heap.size w w9 := keepB (Below.drewd B3) hb9
                  clear A3 L3 N3 B3 z0 z1 z2 z3 z4 hb9
                  all_goals go_wp2_with fail
                  exact ⟨⟨k + 1, p, g, cp, c', f', by omega, by go_num, rfl, A9, L9, N9, m3, by omega, by omega, by omega, by omega, by omega, by omega, B9⟩, by simp [intOf]; omega⟩
              · have e3 : (ok == 3) = false := beq_eq_false_iff_ne.2 t3
                clear t3
                by_cases t4 : ok = 4
                · have e4 : (ok == 4) = true := beq_iff_eq.2 t4
                  clear t4

                  have hx := hm 4
                  have hx1 : 0 ≤ c 4 := hx.1
                  have hx2 : c 4 ≤ 1000000 := by omega
                  clear hx
                  go_wp2_with fail
                  refine (add_yes A0 hj hm (by omega)).mono ?_; rintro e w2 ⟨rfl, A2, O2⟩
                  have L2 := L0.only O2 (by omega) (by omega)
                  have N2 := N0.only O2 (by omega) (by omega)
                  have B2 := O2.below B0 B0.size (by omega) (by omega)
                  have X2 := X0.only O2 (by omega) (by omega)
                  have z1 := X2.cell 1
                  have z2 := X2.cell 2
                  have z3 := X2.cell 3
                  simp only [List.getElem?_toArray, List.getElem?_cons_zero, List.getElem?_cons_succ] at z1 z2 z3
                  clear X2 O2
                  clear A0 L0 N0 B0 A L N B X0 y0 y1 y2 y3 lj
                  have nc := N2.c4
                  have nf := N2.fz 4
                  have lc := L2.cell hj
                  have lg := L2.fz j
                  go_wp2_with fail
                  have A3 := (A2.far (o := j) d1 d3 (.int .u64 (sumU (f j) ov))).far (o := 4) d2 d4 (.int .i64 (c 4 + 1))
                  have L3 := (L2.set_ hj (sumU (f j) ov)).far (b := gl + 1) (o := 4) (by omega) (.int .i64 (c 4 + 1))
                  have N3 := (N2.far (b := gl) (o := j) (by omega) (.int .u64 (sumU (f j) ov))).count (j := 4) (by omega) (c 4 + 1)
                  have B3 := Below.far (Below.far B2 (b := gl) (o := j) (by omega) (.int .u64 (sumU (f j) ov))) (b := gl + 1) (o := 4) (by omega) (.int .i64 (c 4 + 1))
                  have m3 := hm.upd 4
                  clear A2 L2 N2 B2 nc nf lc lg z1 z2 z3 hx1 hx2
                  generalize upd c 4 (c 4 + 1) = c' at A3 N3 m3
                  generalize upd f j (sumU (f j) ov) = f' at A3 L3
                  simp only [sumU] at A3 L3 N3 B3

                  have z0 := N3.c0
                  have z1 := N3.c1
                  have z2 := N3.c2
                  have z3 := N3.c3
                  have z4 := N3.c4
                  go_region_held3 (fun w' => w'.cell? ⟨gl + 1, 0, none⟩ = some (.int .i64 (c' 0)) ∧ w'.cell? ⟨gl + 1, 1, none⟩ = some (.int .i64 (c' 1)) ∧ w'.cell? ⟨gl + 1, 2, none⟩ = some (.int .i64 (c' 2)) ∧ w'.cell? ⟨gl + 1, 3, none⟩ = some (.int .i64 (c' 3)) ∧ w'.cell? ⟨gl + 1, 4, none⟩ = some (.int .i64 (c' 4)))
                    (first | assumption | exact ⟨z0, z1, z2, z3, z4⟩ | exact (And.imp (cell_later hb9) (And.imp (cell_later hb9) (And.imp (cell_later hb9) (And.imp (cell_later hb9) (cell_later hb9))))) (by assumption))
                    (first | ((with_reducible refine (counts_any A3.drew).mono ?_); rintro e w9 ⟨rfl, hb9⟩))
                  have A9 := A3.drew.below hb9 (Nat.le_refl _)
                  have L9 := L3.drew.below hb9
                  have N9 := N3.drew.below hb9
                  have B9 : Below w.heap.size w w9 := keepB (Below.drewd B3) hb9
                  clear A3 L3 N3 B3 z0 z1 z2 z3 z4 hb9
                  all_goals go_wp2_with fail
                  exact ⟨⟨k + 1, p, g, cp, c', f', by omega, by go_num, rfl, A9, L9, N9, m3, by omega, by omega, by omega, by omega, by omega, by omega, B9⟩, by simp [intOf]; omega⟩
                · have e4 : (ok == 4) = false := beq_eq_false_iff_ne.2 t4
                  clear t4
                  go_wp2_with fail
                  obtain ⟨c', hc'⟩ : ∃ c', c' = c := ⟨_, rfl⟩
                  obtain ⟨f', hf'⟩ : ∃ f', f' = f := ⟨_, rfl⟩
                  have A3 := A0
                  have L3 := L0
                  have N3 := N0
                  have B3 := B0
                  have m3 := hm.more (Nat.le_succ k)
                  rw [← hc', ← hf'] at A3
                  rw [← hf'] at L3
                  rw [← hc'] at N3 m3
                  clear hc' hf'
                  clear A0 L0 N0 B0 A L N B X0 y0 y1 y2 y3 lj

                  have z0 := N3.c0
                  have z1 := N3.c1
                  have z2 := N3.c2
                  have z3 := N3.c3
                  have z4 := N3.c4
                  go_region_held3 (fun w' => w'.cell? ⟨gl + 1, 0, none⟩ = some (.int .i64 (c' 0)) ∧ w'.cell? ⟨gl + 1, 1, none⟩ = some (.int .i64 (c' 1)) ∧ w'.cell? ⟨gl + 1, 2, none⟩ = some (.int .i64 (c' 2)) ∧ w'.cell? ⟨gl + 1, 3, none⟩ = some (.int .i64 (c' 3)) ∧ w'.cell? ⟨gl + 1, 4, none⟩ = some (.int .i64 (c' 4)))
                    (first | assumption | exact ⟨z0, z1, z2, z3, z4⟩ | exact (And.imp (cell_later hb9) (And.imp (cell_later hb9) (And.imp (cell_later hb9) (And.imp (cell_later hb9) (cell_later hb9))))) (by assumption))
                    (first | ((with_reducible refine (counts_any A3.drew).mono ?_); rintro e w9 ⟨rfl, hb9⟩))
                  have A9 := A3.drew.below hb9 (Nat.le_refl _)
                  have L9 := L3.drew.below hb9
                  have N9 := N3.drew.below hb9
                  have B9 : Below w.heap.size w w9 := keepB (Below.drewd B3) hb9
                  clear A3 L3 N3 B3 z0 z1 z2 z3 z4 hb9
                  all_goals go_wp2_with fail
                  exact ⟨⟨k + 1, p, g, cp, c', f', by omega, by go_num, rfl, A9, L9, N9, m3, by omega, by omega, by omega, by omega, by omega, by omega, B9⟩, by simp [intOf]; omega⟩
      · have hout : oi < 0 ∨ (n : Int) ≤ oi := by omega
        have y0 := cell_later B x0
        have y1 := cell_later B x1
        have y2 := cell_later B x2
        have y3 := cell_later B x3
        clear x0 x1 x2 x3
        have A0 := A.alloc (.cells #[.int .i64 ok, .int .i64 oi, .int .u64 oa, .int .u64 ov] 34)
        have L0 := L.alloc (.cells #[.int .i64 ok, .int .i64 oi, .int .u64 oa, .int .u64 ov] 34)
        have N0 := N.alloc (.cells #[.int .i64 ok, .int .i64 oi, .int .u64 oa, .int .u64 ov] 34)
        have B0 := B.alloc B.size (.cells #[.int .i64 ok, .int .i64 oi, .int .u64 oa, .int .u64 ov] 34)
        have X0 := Blk.new wo 34 #[.int .i64 ok, .int .i64 oi, .int .u64 oa, .int .u64 ov]
        by_cases t5 : ok = 5
        · clear hout

          have e5 : (ok == 5) = true := beq_iff_eq.2 t5
          clear t5
          go_wp2_with fail
          refine (copy_any A0).mono ?_; rintro e w2 ⟨pb, gb, cb, rfl, hpb, hgb, C2, K2⟩
          have A2 := A0.below K2 (Nat.le_refl _)
          have L2 := L0.below K2
          have N2 := N0.below K2
          have B2 := keepB B0 K2
          have z3 := (X0.below K2 X0.lt).cell 3
          simp only [List.getElem?_toArray, List.getElem?_cons_zero, List.getElem?_cons_succ] at z3
          have hpb' : wo.heap.size + 1 ≤ pb := by simpa using hpb
          have hgb' : wo.heap.size + 1 ≤ gb := by simpa using hgb
          clear A0 L0 N0 B0 A L N B X0 K2 hpb hgb y0 y1 y2 y3
          go_wp2_with fail
          refine (aequal_is C2 A2 (same_self n f)).mono ?_; rintro e w3 ⟨rfl, d8, rfl⟩
          go_wp2_with fail
          refine (store_st (s := (c, f)) (A2.drewN d8) 0 (sumU ov 1) (sumU_fit _ _) hm (by omega)).mono ?_; rintro e w4 ⟨r, rfl, A4, m4, O4⟩
          have C4 := (C2.drewN d8).only O4 (by omega) (by omega) (by omega) (by omega)
          have L4 := (L2.drewN d8).only O4 (by omega) (by omega)
          have N4 := (N2.drewN d8).only O4 (by omega) (by omega)
          have B4 : Below w.heap.size w w4 := O4.below (⟨B2.os, B2.tape, B2.output, B2.size, B2.block⟩ : Below w.heap.size w (w2.drewN d8)) B2.size (by omega) (by omega)
          clear C2 A2 L2 N2 B2 O4 A4 m4 z3
          go_wp2_with fail
          exact ⟨⟨k + 1, pb, gb, cb, c, f, by omega, by go_num, rfl, C4, L4, N4, hm.more (by omega), by omega, by omega, by omega, by omega, by omega, by omega, B4⟩, by simp [intOf]; omega⟩
        · have HO := Lib.hid hout; clear hout
          by_cases hneg : oi < 0
          · have e5 : (ok == 5) = false := beq_eq_false_iff_ne.2 t5
            clear t5
            go_wp2_with fail
            refine (refuses_any A0 ⟨ok, oi, oa, ov⟩ HO.out).mono ?_; rintro e w2 ⟨rfl, K2⟩
            have A2 := A0.below K2 (Nat.le_refl _)
            have L2 := L0.below K2
            have N2 := N0.below K2
            have B2 := keepB B0 K2
            clear A0 L0 N0 B0 A L N B X0 K2
            go_wp2_with fail
            exact ⟨⟨k + 1, p, g, cp, c, f, by omega, by go_num, rfl, A2, L2, N2, hm.more (by omega), by omega, by omega, by omega, by omega, by omega, by omega, B2⟩, by simp [intOf]; omega⟩
          · have e5 : (ok == 5) = false := beq_eq_false_iff_ne.2 t5
            clear t5
            have hge : (n : Int) ≤ oi := by have := HO.out; omega
            go_wp2_with fail
            refine (refuses_any A0 ⟨ok, oi, oa, ov⟩ HO.out).mono ?_; rintro e w2 ⟨rfl, K2⟩
            have A2 := A0.below K2 (Nat.le_refl _)
            have L2 := L0.below K2
            have N2 := N0.below K2
            have B2 := keepB B0 K2
            clear A0 L0 N0 B0 A L N B X0 K2
            go_wp2_with fail
            exact ⟨⟨k + 1, p, g, cp, c, f, by omega, by go_num, rfl, A2, L2, N2, hm.more (by omega), by omega, by omega, by omega, by omega, by omega, by omega, B2⟩, by simp [intOf]; omega⟩
    · clear N hll hll' hpl' hgl'
      go_wp2_with fail
      go_loopw [220] (fun i wr => LastRel n p g cp gl f w i wr) (fun i _ => n - (intOf i).toNat)
      case atStart => exact ⟨0, c, Nat.zero_le _, rfl, A, L, hm.more (by omega), B⟩
      case round =>
        clear A L hm B
        obtain ⟨j, c', hj, rfl, A, L, hm, B⟩ := hrel
        by_cases hjn : j < n
        · have lj := L.cell hjn
          by_cases h200 : 200 < (j : Int)
          · go_wp2_with (refine (awake_any _).mono ?_; rintro e w9 ⟨rfl, hb9⟩)
            go_ret
            exact ⟨rfl, keepB B hb9⟩
          · go_wp2_with (refine (load_yes A hjn hm (by omega)).mono ?_; rintro e w2 ⟨rfl, A2, O2⟩)
            exact ⟨⟨j + 1, _, by omega, by go_num, A2, L.only O2 (by omega) (by omega), hm.upd 0, O2.below B B.size (by omega) (by omega)⟩, by simp [intOf]; omega⟩
        · go_wp2_with (refine (awake_any _).mono ?_; rintro e w9 ⟨rfl, hb9⟩)
          go_ret
          exact ⟨rfl, keepB B hb9⟩

theorem cellPlays_walk (cells : Int) (_c0 : -9223372036854775808 ≤ cells) (_c1 : cells ≤ 9223372036854775807) (a : Option Addr) (len cap : Nat) (q : Nat → OpV) (w : World) (hq : IsOps w a len q) :
    Calls Try.prog 3 #[.int .i64 cells, .slice a len cap] w fun e w' => e = .returned (.bool true) ∧ Below w.heap.size w w' := by
  by_cases h1 : (80 : Int) < (len : Int)
  · exact cellPlays_long cells a len cap w h1
  · by_cases h : cells < 0 ∨ 16384 < cells
    · exact cellPlays_out cells a len cap w (by omega) h
    · obtain ⟨n, rfl⟩ := Int.eq_ofNat_of_zero_le (show 0 ≤ cells by omega)
      exact cellPlays_main n a len cap q w (by omega) (by omega) hq
end Go.Proofs.Ytbcocchmbkghoaa
