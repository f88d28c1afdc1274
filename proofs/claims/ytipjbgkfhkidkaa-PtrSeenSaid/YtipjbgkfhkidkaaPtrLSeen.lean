/- PtrSeen: the walk. Printed by wip/tools/ptrls.py. -/
import Derived.Test.YtipjbgkfhkidkaaPtrP
namespace Go.Proofs.Ytipjbgkfhkidkaa
open Go.RowKit

set_option maxRecDepth 100000

theorem seen_outa (a0 : Option Addr) (n0 c0 : Nat) (a1 : Option Addr) (n1 c1 : Nat) (a2 : Option Addr) (n2 c2 : Nat) (i : Int) (w : World) (h : (4 : Int) < (n0 : Int)) :
    Calls Try.prog 6 #[.slice a0 n0 c0, .agg #[.slice a1 n1 c1, .slice a2 n2 c2], .int .i64 i] w fun e w' => e = .returned (.bool true) ∧ Below w.heap.size w w' := by
  go_enter Try.func6, Try.ntmps6
  have HZS : Hid ((w.alloc (.cells #[.slice a1 n1 c1, .slice a2 n2 c2] 75)).drew.cell? ⟨w.heap.size, 0, none⟩ = some (.slice a1 n1 c1) ∧ (w.alloc (.cells #[.slice a1 n1 c1, .slice a2 n2 c2] 75)).drew.cell? ⟨w.heap.size, 1, none⟩ = some (.slice a2 n2 c2)) := Lib.hid ⟨(Blk.new w _ _).cell 0, (Blk.new w _ _).cell 1⟩
  have HB0 : Hid (Below w.heap.size w (w.alloc (.cells #[.slice a1 n1 c1, .slice a2 n2 c2] 75)).drew) := Lib.hid ((Below.refl _ _).alloc (Nat.le_refl _) _).drew
  go_wp2_with fail
  go_region_held3 (fun W => W.cell? ⟨w.heap.size, 0, none⟩ = some (.slice a1 n1 c1) ∧ W.cell? ⟨w.heap.size, 1, none⟩ = some (.slice a2 n2 c2)) (first | (with_reducible assumption) | (with_reducible exact HZS.out))
    (first
      | fail)
  generalize hw0 : (w.alloc (.cells #[.slice a1 n1 c1, .slice a2 n2 c2] 75)).drew = w0 at HB0 ⊢
  clear HZS hw0
  go_wp2_with fail
  refine (awake_any _).mono ?_; rintro e w1 ⟨rfl, hb1⟩
  go_wp2_with fail
  go_ret
  exact ⟨rfl, HB0.out.trans (hb1.mono HB0.out.size)⟩

theorem seen_outb (a0 : Option Addr) (n0 c0 : Nat) (a1 : Option Addr) (n1 c1 : Nat) (a2 : Option Addr) (n2 c2 : Nat) (i : Int) (w : World) (g0 : (n0 : Int) ≤ 4) (h : (40 : Int) < (n1 : Int)) :
    Calls Try.prog 6 #[.slice a0 n0 c0, .agg #[.slice a1 n1 c1, .slice a2 n2 c2], .int .i64 i] w fun e w' => e = .returned (.bool true) ∧ Below w.heap.size w w' := by
  go_enter Try.func6, Try.ntmps6
  have HZS : Hid ((w.alloc (.cells #[.slice a1 n1 c1, .slice a2 n2 c2] 75)).drew.cell? ⟨w.heap.size, 0, none⟩ = some (.slice a1 n1 c1) ∧ (w.alloc (.cells #[.slice a1 n1 c1, .slice a2 n2 c2] 75)).drew.cell? ⟨w.heap.size, 1, none⟩ = some (.slice a2 n2 c2)) := Lib.hid ⟨(Blk.new w _ _).cell 0, (Blk.new w _ _).cell 1⟩
  have HB0 : Hid (Below w.heap.size w (w.alloc (.cells #[.slice a1 n1 c1, .slice a2 n2 c2] 75)).drew) := Lib.hid ((Below.refl _ _).alloc (Nat.le_refl _) _).drew
  go_wp2_with fail
  go_region_held3 (fun W => W.cell? ⟨w.heap.size, 0, none⟩ = some (.slice a1 n1 c1) ∧ W.cell? ⟨w.heap.size, 1, none⟩ = some (.slice a2 n2 c2)) (first | (with_reducible assumption) | (with_reducible exact HZS.out))
    (first
      | fail)
  generalize hw0 : (w.alloc (.cells #[.slice a1 n1 c1, .slice a2 n2 c2] 75)).drew = w0 at HB0 ⊢
  clear HZS hw0
  go_wp2_with fail
  refine (awake_any _).mono ?_; rintro e w1 ⟨rfl, hb1⟩
  go_wp2_with fail
  go_ret
  exact ⟨rfl, HB0.out.trans (hb1.mono HB0.out.size)⟩

theorem seen_outc (a0 : Option Addr) (n0 c0 : Nat) (a1 : Option Addr) (n1 c1 : Nat) (a2 : Option Addr) (n2 c2 : Nat) (i : Int) (w : World) (g0 : (n0 : Int) ≤ 4) (g1 : (n1 : Int) ≤ 40) (h : (40 : Int) < (n2 : Int)) :
    Calls Try.prog 6 #[.slice a0 n0 c0, .agg #[.slice a1 n1 c1, .slice a2 n2 c2], .int .i64 i] w fun e w' => e = .returned (.bool true) ∧ Below w.heap.size w w' := by
  go_enter Try.func6, Try.ntmps6
  have HZS : Hid ((w.alloc (.cells #[.slice a1 n1 c1, .slice a2 n2 c2] 75)).drew.cell? ⟨w.heap.size, 0, none⟩ = some (.slice a1 n1 c1) ∧ (w.alloc (.cells #[.slice a1 n1 c1, .slice a2 n2 c2] 75)).drew.cell? ⟨w.heap.size, 1, none⟩ = some (.slice a2 n2 c2)) := Lib.hid ⟨(Blk.new w _ _).cell 0, (Blk.new w _ _).cell 1⟩
  have HB0 : Hid (Below w.heap.size w (w.alloc (.cells #[.slice a1 n1 c1, .slice a2 n2 c2] 75)).drew) := Lib.hid ((Below.refl _ _).alloc (Nat.le_refl _) _).drew
  go_wp2_with fail
  go_region_held3 (fun W => W.cell? ⟨w.heap.size, 0, none⟩ = some (.slice a1 n1 c1) ∧ W.cell? ⟨w.heap.size, 1, none⟩ = some (.slice a2 n2 c2)) (first | (with_reducible assumption) | (with_reducible exact HZS.out))
    (first
      | fail)
  generalize hw0 : (w.alloc (.cells #[.slice a1 n1 c1, .slice a2 n2 c2] 75)).drew = w0 at HB0 ⊢
  clear HZS hw0
  go_wp2_with fail
  refine (awake_any _).mono ?_; rintro e w1 ⟨rfl, hb1⟩
  go_wp2_with fail
  go_ret
  exact ⟨rfl, HB0.out.trans (hb1.mono HB0.out.size)⟩

theorem seen_outd (a0 : Option Addr) (n0 c0 : Nat) (a1 : Option Addr) (n1 c1 : Nat) (a2 : Option Addr) (n2 c2 : Nat) (i : Int) (w : World) (g0 : (n0 : Int) ≤ 4) (g1 : (n1 : Int) ≤ 40) (g2 : (n2 : Int) ≤ 40) (h : i < 0) :
    Calls Try.prog 6 #[.slice a0 n0 c0, .agg #[.slice a1 n1 c1, .slice a2 n2 c2], .int .i64 i] w fun e w' => e = .returned (.bool true) ∧ Below w.heap.size w w' := by
  go_enter Try.func6, Try.ntmps6
  have HZS : Hid ((w.alloc (.cells #[.slice a1 n1 c1, .slice a2 n2 c2] 75)).drew.cell? ⟨w.heap.size, 0, none⟩ = some (.slice a1 n1 c1) ∧ (w.alloc (.cells #[.slice a1 n1 c1, .slice a2 n2 c2] 75)).drew.cell? ⟨w.heap.size, 1, none⟩ = some (.slice a2 n2 c2)) := Lib.hid ⟨(Blk.new w _ _).cell 0, (Blk.new w _ _).cell 1⟩
  have HB0 : Hid (Below w.heap.size w (w.alloc (.cells #[.slice a1 n1 c1, .slice a2 n2 c2] 75)).drew) := Lib.hid ((Below.refl _ _).alloc (Nat.le_refl _) _).drew
  go_wp2_with fail
  go_region_held3 (fun W => W.cell? ⟨w.heap.size, 0, none⟩ = some (.slice a1 n1 c1) ∧ W.cell? ⟨w.heap.size, 1, none⟩ = some (.slice a2 n2 c2)) (first | (with_reducible assumption) | (with_reducible exact HZS.out))
    (first
      | fail)
  generalize hw0 : (w.alloc (.cells #[.slice a1 n1 c1, .slice a2 n2 c2] 75)).drew = w0 at HB0 ⊢
  clear HZS hw0
  go_wp2_with fail
  refine (awake_any _).mono ?_; rintro e w1 ⟨rfl, hb1⟩
  go_wp2_with fail
  go_ret
  exact ⟨rfl, HB0.out.trans (hb1.mono HB0.out.size)⟩

theorem seen_oute (a0 : Option Addr) (n0 c0 : Nat) (a1 : Option Addr) (n1 c1 : Nat) (a2 : Option Addr) (n2 c2 : Nat) (i : Int) (w : World) (g0 : (n0 : Int) ≤ 4) (g1 : (n1 : Int) ≤ 40) (g2 : (n2 : Int) ≤ 40) (g3 : 0 ≤ i) (h : 3 < i) :
    Calls Try.prog 6 #[.slice a0 n0 c0, .agg #[.slice a1 n1 c1, .slice a2 n2 c2], .int .i64 i] w fun e w' => e = .returned (.bool true) ∧ Below w.heap.size w w' := by
  go_enter Try.func6, Try.ntmps6
  have HZS : Hid ((w.alloc (.cells #[.slice a1 n1 c1, .slice a2 n2 c2] 75)).drew.cell? ⟨w.heap.size, 0, none⟩ = some (.slice a1 n1 c1) ∧ (w.alloc (.cells #[.slice a1 n1 c1, .slice a2 n2 c2] 75)).drew.cell? ⟨w.heap.size, 1, none⟩ = some (.slice a2 n2 c2)) := Lib.hid ⟨(Blk.new w _ _).cell 0, (Blk.new w _ _).cell 1⟩
  have HB0 : Hid (Below w.heap.size w (w.alloc (.cells #[.slice a1 n1 c1, .slice a2 n2 c2] 75)).drew) := Lib.hid ((Below.refl _ _).alloc (Nat.le_refl _) _).drew
  go_wp2_with fail
  go_region_held3 (fun W => W.cell? ⟨w.heap.size, 0, none⟩ = some (.slice a1 n1 c1) ∧ W.cell? ⟨w.heap.size, 1, none⟩ = some (.slice a2 n2 c2)) (first | (with_reducible assumption) | (with_reducible exact HZS.out))
    (first
      | fail)
  generalize hw0 : (w.alloc (.cells #[.slice a1 n1 c1, .slice a2 n2 c2] 75)).drew = w0 at HB0 ⊢
  clear HZS hw0
  go_wp2_with fail
  refine (awake_any _).mono ?_; rintro e w1 ⟨rfl, hb1⟩
  go_wp2_with fail
  go_ret
  exact ⟨rfl, HB0.out.trans (hb1.mono HB0.out.size)⟩

set_option maxHeartbeats 4000000 in
theorem seen_in (a0 : Option Addr) (n0 c0 : Nat) (zs : List Int) (a1 : Option Addr) (n1 c1 : Nat) (q1 : Nat → Op4) (a2 : Option Addr) (n2 c2 : Nat) (q2 : Nat → Op4) (ix : Nat) (w : World) (hr : IsRow .i64 w a0 n0 c0 zs) (h1 : IsOp4 w a1 n1 q1) (h2 : IsOp4 w a2 n2 q2) (g0 : (n0 : Int) ≤ 4) (g1 : (n1 : Int) ≤ 40) (g2 : (n2 : Int) ≤ 40) (g3 : (ix : Int) ≤ 3) :
    Calls Try.prog 6 #[.slice a0 n0 c0, .agg #[.slice a1 n1 c1, .slice a2 n2 c2], .int .i64 (ix : Int)] w fun e w' => e = .returned (.bool true) ∧ Below w.heap.size w w' := by
  have HR := Lib.hid hr
  have HO1 := Lib.hid h1
  have HO2 := Lib.hid h2
  have i0 : (0 : Int) ≤ (ix : Int) := Int.natCast_nonneg _
  have ix4 : ix < 4 := by omega
  clear hr h1 h2
  go_enter Try.func6, Try.ntmps6
  have HZS : Hid ((w.alloc (.cells #[.slice a1 n1 c1, .slice a2 n2 c2] 75)).drew.cell? ⟨w.heap.size, 0, none⟩ = some (.slice a1 n1 c1) ∧ (w.alloc (.cells #[.slice a1 n1 c1, .slice a2 n2 c2] 75)).drew.cell? ⟨w.heap.size, 1, none⟩ = some (.slice a2 n2 c2)) := Lib.hid ⟨(Blk.new w _ _).cell 0, (Blk.new w _ _).cell 1⟩
  have HB0 : Hid (Below w.heap.size w (w.alloc (.cells #[.slice a1 n1 c1, .slice a2 n2 c2] 75)).drew) := Lib.hid ((Below.refl _ _).alloc (Nat.le_refl _) _).drew
  go_wp2_with fail
  go_region_held3 (fun W => W.cell? ⟨w.heap.size, 0, none⟩ = some (.slice a1 n1 c1) ∧ W.cell? ⟨w.heap.size, 1, none⟩ = some (.slice a2 n2 c2)) (first | (with_reducible assumption) | (with_reducible exact HZS.out))
    (first
      | fail)
  generalize hw0 : (w.alloc (.cells #[.slice a1 n1 c1, .slice a2 n2 c2] 75)).drew = w0 at HB0 ⊢
  clear HZS hw0
  go_wp2_with fail
  refine begun_any.mono ?_; rintro e w1 ⟨p, g, rfl, np, ng, A1, hb⟩
  have HP0 := Lib.hid (P0.first A1 hb np ng)
  clear A1 np ng hb
  go_wp2_with fail
  refine (pm_of p _).mono ?_; rintro e w2 ⟨rfl, hb⟩
  have HP1 := Lib.hid (HP0.out.below hb)
  clear hb HP0
  go_wp2_with fail
  refine small_any.mono ?_; rintro e w3 ⟨rfl, hb⟩
  have HP2 := Lib.hid (HP1.out.below hb).vars2
  clear hb HP1
  go_wp2_with fail
  generalize (w3.alloc (.cells #[.pointer (some ⟨p, 0, none⟩)] 28)).alloc (.cells #[.int .i64 2, .int .i64 0, .int .i64 8] 31) = w4 at HP2 ⊢
  generalize w3.heap.size = mb at HP2 ⊢
  go_loopw [58] (fun v wr => ∃ k : Nat, k ≤ n0 ∧ v = .int .i64 (k : Int) ∧ ∃ n, P0 w0 p g k (LM p mb (mb + 1)) (Sx0 n) wr) (fun v _ => n0 - (intOf v).toNat)
  case atStart => exact ⟨0, Nat.zero_le _, rfl, zeroF, HP2.out⟩
  case round =>
    clear HP2
    obtain ⟨k, hk, rfl, n, P⟩ := hrel
    have HP3 := Lib.hid P
    clear P
    by_cases hlt : k < n0
    · have hk4 : k < 4 := by omega
      obtain ⟨b, off, z, ha, hc, hz0, hz1⟩ := isRow_ati HR.out hlt
      subst ha
      have hcw := cell_later (HB0.out.trans (HP3.out.ks.be.mono HB0.out.size)) hc
      clear hc
      have k0 : (0 : Int) ≤ (k : Int) := Int.natCast_nonneg _
      have k1 : (k : Int) < (n0 : Int) := by omega
      by_cases z0 : z < 0
      · skip
        go_wp2_with fail
        refine (at_any hk4).mono ?_; rintro e w5 ⟨rfl, hb⟩
        have HP4 := Lib.hid (HP3.out.below hb)
        clear hb hcw
        go_wp2_with fail
        refine (rplain_any 0 _ (by omega) (by omega)).mono ?_; rintro e w6 ⟨rfl, rfl⟩
        go_wp2_with fail
        refine (p0_plain (z := 0) HP4.out hk4 (by omega) (by omega) (by omega)).mono ?_; rintro e w7 ⟨rfl, P5, _⟩
        have HP5 := Lib.hid P5
        clear P5 HP4 HP3
        go_wp2_with fail
        go_roundw
        case rel => exact ⟨k + 1, by omega, by go_num, _, HP5.out⟩
        case measure => simp [intOf]; omega
      · by_cases z1 : z ≤ 65535
        · have z2 : 0 ≤ z := by omega
          go_wp2_with fail
          refine (at_any hk4).mono ?_; rintro e w5 ⟨rfl, hb⟩
          have HP4 := Lib.hid (HP3.out.below hb)
          clear hb hcw
          go_wp2_with fail
          refine (rplain_any z _ z2 z1).mono ?_; rintro e w6 ⟨rfl, rfl⟩
          go_wp2_with fail
          refine (p0_plain (z := z) HP4.out hk4 z2 z1 (by omega)).mono ?_; rintro e w7 ⟨rfl, P5, _⟩
          have HP5 := Lib.hid P5
          clear P5 HP4 HP3
          go_wp2_with fail
          go_roundw
          case rel => exact ⟨k + 1, by omega, by go_num, _, HP5.out⟩
          case measure => simp [intOf]; omega
        · skip
          go_wp2_with fail
          refine (at_any hk4).mono ?_; rintro e w5 ⟨rfl, hb⟩
          have HP4 := Lib.hid (HP3.out.below hb)
          clear hb hcw
          go_wp2_with fail
          refine (rplain_any 65535 _ (by omega) (by omega)).mono ?_; rintro e w6 ⟨rfl, rfl⟩
          go_wp2_with fail
          refine (p0_plain (z := 65535) HP4.out hk4 (by omega) (by omega) (by omega)).mono ?_; rintro e w7 ⟨rfl, P5, _⟩
          have HP5 := Lib.hid P5
          clear P5 HP4 HP3
          go_wp2_with fail
          go_roundw
          case rel => exact ⟨k + 1, by omega, by go_num, _, HP5.out⟩
          case measure => simp [intOf]; omega
    · have : k = n0 := by omega
      subst this
      go_wp2_with fail
      have HS0 := Lib.hid ((HP3.out.sm ⟨rfl, rfl, rfl, rfl, rfl, rfl, rfl, rfl⟩ lm_types).more (m' := 10) (by omega))
      have hsz := HP3.out.ks.be.size
      clear HP3
      generalize (((wr.alloc (.cells #[.int .i64 0, .int .i64 0] 76)).alloc (.cells #[.bool false, .bool false] 77)).alloc (.cells #[.bool false, .bool false, .bool false, .bool false] 78)) = w8 at HS0 ⊢
      generalize wr.heap.size = tb at HS0 hsz ⊢
      have HX0 : Hid (∀ r, (Sx0 n).g r = 0) := Lib.hid (fun _ => rfl)
      generalize Sx0 n = x0 at HS0 HX0
      go_loopw [77] (fun v wr => ∃ j : Nat, j ≤ n1 ∧ v = .int .i64 (j : Int) ∧ SM w0 p g (10 + 10 * j) (LM p mb (mb + 1)) tb (tb + 1) (tb + 2) (runS x0 q1 j) (runS x0 q1 j) wr) (fun v _ => n1 - (intOf v).toNat)
      case atStart => exact ⟨0, Nat.zero_le _, rfl, HS0.out⟩
      case round =>
        clear HS0
        obtain ⟨j, hj, rfl, S⟩ := hrel
        rename_i wr2
        have HS1 := Lib.hid S
        clear S
        have hg1 : ∀ r, (runS x0 q1 j).g r ≤ 40 := fun r => by have := runS_g x0 q1 j r; rw [HX0.out r] at this; omega
        have HG1 := Lib.hid hg1
        clear hg1
        by_cases hlt2 : j < n1
        · obtain ⟨b, off, ha, hc⟩ := HO1.out (by omega)
          subst ha
          obtain ⟨d0, d1, d2, d3, hfit⟩ := hc j hlt2
          have hB := HB0.out.trans (HS1.out.ks.be.mono HB0.out.size)
          have f0 := cell_later hB d0
          have f1 := cell_later hB d1
          have f2 := cell_later hB d2
          have f3 := cell_later hB d3
          have HFIT := Lib.hid hfit
          clear d0 d1 d2 d3 hc hB hfit
          have j0 : (0 : Int) ≤ (j : Int) := Int.natCast_nonneg _
          have j1 : (j : Int) < (n1 : Int) := by omega
          go_wp2_with fail
          refine (do_any (o := q1 j) (HS1.out.alloc _) HFIT.out (fun r _ => Nat.le_trans (HG1.out r) (by omega)) (by omega)).mono ?_; rintro e w9 ⟨rfl, S9, _⟩
          have HS9 := Lib.hid S9
          clear S9 HS1 f0 f1 f2 f3
          go_wp2_with fail
          go_roundw
          case rel => exact ⟨j + 1, by omega, by go_num, HS9.out.more (by omega)⟩
          case measure => simp [intOf]; omega
        · have : j = n1 := by omega
          subst this
          have HS2 := Lib.hid (HS1.out.more (m' := 500) (by omega))
          clear HS1
          have HX1 : Hid (∀ r, (runS x0 q1 j).g r ≤ 40) := HG1
          clear HG1 HX0 HO1 HR
          generalize runS x0 q1 j = x1 at HS2 HX1
          go_wp2_with fail
          have hvs : ∀ W, KS w0 (LM p mb (mb + 1)) W → W.cell? ⟨mb, 0, none⟩ = some (.pointer (some ⟨p, 0, none⟩)) ∧ W.cell? ⟨mb + 1, 0, none⟩ = some (.int .i64 2) ∧ W.cell? ⟨mb + 1, 1, none⟩ = some (.int .i64 0) ∧ W.cell? ⟨mb + 1, 2, none⟩ = some (.int .i64 8) := fun W h => ⟨h.k.2.1.b.cell 0, h.k.1.b.cell 0, h.k.1.b.cell 1, h.k.1.b.cell 2⟩
          have HSd := Lib.hid HS2.out.drew
          go_region_held3 (KS w0 (LM p mb (mb + 1))) (first | (with_reducible assumption) | (with_reducible exact HSd.out.ks) | (with_reducible exact HSt.out.ks) | (with_reducible exact HS3.out.ks))
            (first
              | (go_at_call 12; ((with_reducible refine (at_any ix4).mono ?_); rintro e wt ⟨rfl, hb⟩; have HSt := Lib.hid (HSd.out.below hb); clear hb))
              | (go_at_call 26; ((with_reducible refine look_8.mono ?_); rintro e w10 ⟨q, rfl, hq, L5, hb⟩; have HS3 := Lib.hid (HSt.out.below hb); have HL3 := Lib.hid L5; have HQ := Lib.hid (Nat.le_trans HSt.out.ks.be.size hq); clear L5 hq hb)))
          clear HSd HSt HS2
          have hmm := @run_makeMap Try.prog
          obtain ⟨c5, f5, A5, C5, R5⟩ := HS3.out.ma
          have hmb : 0 ≤ x1.mean ix ∧ x1.mean ix ≤ 65535 := by
            have k1 := R5.bo ix ix4
            have k2 := R5.bn ix ix4
            unfold Sx.mean
            split
            · exact k1
            · exact k2
          have HBO := Lib.hid (And.intro (R5.bo ix ix4) (R5.bn ix ix4))
          have HMB := Lib.hid hmb
          clear c5 f5 A5 C5 R5 hmb
          go_wp2_with fail
          have HSd := Lib.hid HS3.out.drew
          have HLd := Lib.hid HL3.out.drew
          have hz0 := HS3.out.ks.be.size
          go_region_held3 (KS w0 (LM p mb (mb + 1))) (first | (with_reducible assumption) | (with_reducible exact HSd.out.ks) | (with_reducible exact (SM.alloc HS3.out _).drew.ks) | (with_reducible exact HSt.out.ks) | (with_reducible exact (SM.alloc HSt.out _).ks) | (with_reducible exact HSm.out.ks) | (with_reducible exact (SM.alloc HSm.out _).ks) | (with_reducible exact HSf.out.ks) | fail)
            (first
              | (go_at_call 12; ((with_reducible refine (at_any ix4).mono ?_); rintro e wt ⟨rfl, hb⟩; (first
                  | (have HSt := Lib.hid (HSd.out.below hb); have HLt := Lib.hid (HLd.out.later hb); clear hb)
                  | (have HSt := Lib.hid ((HS3.out.alloc _).drew.below hb); have HLt := Lib.hid ((HL3.out.alloc _).drew.later hb); have HMt := Lib.hid ((SetI.made w10).drew.below hb); have HCt : Hid (w0.heap.size ≤ w10.heap.size) := Lib.hid hz0; clear hb))))
              | (go_at_call 19; (first
                  | ((with_reducible refine (ma_means HSt.out.ma ix4 (by omega)).mono ?_); rintro e wm ⟨rfl, M5, O5⟩; have HMm := Lib.hid (HMt.out.arena HSt.out.ma O5); have HSm := Lib.hid (HSt.out.arena M5 O5); have HLm := Lib.hid (HLt.out.ma HSt.out.ma O5); obtain ⟨wf, hrun, SF5, GF5⟩ := HMm.out.store (z := x1.mean ix) (by omega) (by have := HMB.out; omega) (by have := HMB.out; omega); have HSf := Lib.hid (HSm.out.map HMm.out GF5 HCt.out); have HLf := Lib.hid (HLm.out.map HMm.out GF5); have HMf := Lib.hid SF5; have HCf := HCt; clear M5 O5 SF5 GF5)
                  | ((with_reducible refine (ma_means (HSt.out.alloc _).ma ix4 (by omega)).mono ?_); rintro e wm ⟨rfl, M5, O5⟩; have HMm := Lib.hid ((SetI.made wt).arena (HSt.out.alloc _).ma O5); have HSm := Lib.hid ((HSt.out.alloc _).arena M5 O5); have HLm := Lib.hid ((HLt.out.alloc _).ma (HSt.out.alloc _).ma O5); obtain ⟨wf, hrun, SF5, GF5⟩ := HMm.out.store (z := x1.mean ix) (by omega) (by have := HMB.out; omega) (by have := HMB.out; omega); have HSf := Lib.hid (HSm.out.map HMm.out GF5 HSt.out.ks.be.size); have HLf := Lib.hid (HLm.out.map HMm.out GF5); have HMf := Lib.hid SF5; have HCf := Lib.hid HSt.out.ks.be.size; clear M5 O5 SF5 GF5)
                  | ((with_reducible refine (ma_means HSt.out.ma ix4 (by omega)).mono ?_); rintro e wm ⟨rfl, M5, O5⟩; have HSm := Lib.hid (HSt.out.arena M5 O5); have HLm := Lib.hid (HLt.out.ma HSt.out.ma O5); obtain ⟨wf, hrun, SF5, GF5⟩ := (SetI.made wm).store (z := x1.mean ix) (by omega) (by have := HMB.out; omega) (by have := HMB.out; omega); have HSf := Lib.hid ((HSm.out.alloc _).map (SetI.made wm) GF5 HSm.out.ks.be.size); have HLf := Lib.hid ((HLm.out.alloc _).map (SetI.made wm) GF5); have HMf := Lib.hid SF5; have HCf := Lib.hid HSm.out.ks.be.size; clear M5 O5 SF5 GF5))))
          · generalize w10.heap.size = cb at HMf HCf ⊢
            have HS4 : Hid (SM w0 p g 510 (LM p mb (mb + 1)) tb (tb + 1) (tb + 2) x1 x1 wf) := Lib.hid (HSf.out.more (by omega))
            have HM4 : Hid (SetI wf cb 1 (couldT x1 ix q2 0)) := Lib.hid HMf.out
            have HL4 := HLf
            have HC4 := HCf
            clear hrun HSf HMf HLf HCf HSd HLd HSt HLt HSm HLm
            cases hw : x1.wr ix
            · go_wp2_with fail
              refine (ma_look0 HS4.out.ma ix4 hw HL4.out (by omega)).mono ?_; rintro e w11 ⟨rfl, M5, L5, O5⟩
              have HS5 := Lib.hid (HS4.out.look HL4.out HQ.out M5 O5)
              have HL5 := Lib.hid L5
              have HM5 := Lib.hid (HM4.out.look_ HL4.out HS4.out.ma O5)
              have hin : decide (x1.n ix ∈ couldT x1 ix q2 0) = true := by
                have e1 : x1.mean ix = x1.n ix := by unfold Sx.mean; rw [hw]; rfl
                simp only [couldT, e1]
                exact decide_eq_true (List.mem_singleton.2 rfl)
              have hlk := HM5.out.look (i := x1.n ix) (by have := HBO.out.2; omega) (by have := HBO.out.2; omega) hin
              clear M5 L5 O5 hin hw
              go_wp2_with fail
              refine (look_value HL5.out).mono ?_; rintro e w12 ⟨rfl, rfl⟩
              go_wp2_with fail
              refine (awake_any _).mono ?_; rintro e w13 ⟨rfl, hb⟩
              have HS6 := Lib.hid (HS5.out.below hb)
              clear hb
              go_wp2_with fail
              go_ret
              exact ⟨rfl, HB0.out.trans (HS6.out.ks.be.mono HB0.out.size)⟩
            · go_wp2_with fail
              refine (ma_look1 HS4.out.ma ix4 hw HL4.out (by omega)).mono ?_; rintro e w11 ⟨rfl, M5, L5, O5⟩
              have HS5 := Lib.hid (HS4.out.look HL4.out HQ.out M5 O5)
              have HL5 := Lib.hid L5
              have HM5 := Lib.hid (HM4.out.look_ HL4.out HS4.out.ma O5)
              have HWR := Lib.hid hw
              clear M5 L5 O5 hw HS4 HL4 HM4
              go_wp2_with fail
              go_loopw [105] (fun v wr => ∃ j3 : Nat, j3 ≤ n2 ∧ v = .int .i64 (j3 : Int) ∧ SM w0 p g (520 + 20 * j3) (LM p mb (mb + 1)) tb (tb + 1) (tb + 2) (runT x1 ix q2 j3) (runT x1 ix q2 j3) wr ∧ Lk wr q 2 0 8 (atK ix) 1 (x1.o ix) (x1.n ix) (((ix / 2 : Nat) : Int) + 1) (x1.g (ix / 2) : Int) 0 ∧ SetI wr cb (j3 + 1) (couldT x1 ix q2 j3)) (fun v _ => n2 - (intOf v).toNat)
              case atStart => exact ⟨0, Nat.zero_le _, rfl, HS5.out.more (by omega), HL5.out, HM5.out⟩
              case round =>
                clear HS5 HL5 HM5
                obtain ⟨j3, hj3, rfl, S, Lq, M⟩ := hrel
                rename_i wr3
                have HS6 := Lib.hid S
                have HL6 := Lib.hid Lq
                have HM6 := Lib.hid M
                have HG3 : Hid (∀ r, (runT x1 ix q2 j3).g r ≤ 100) := Lib.hid (fun r => by have k1 := runT_g x1 ix q2 j3 r; have k2 := HX1.out r; omega)
                clear S Lq M
                by_cases hlt3 : j3 < n2
                · obtain ⟨b, off, ha, hc⟩ := HO2.out (by omega)
                  subst ha
                  obtain ⟨d0, d1, d2, d3, hfit⟩ := hc j3 hlt3
                  have hB := HB0.out.trans (HS6.out.ks.be.mono HB0.out.size)
                  have f0 := cell_later hB d0
                  have f1 := cell_later hB d1
                  have f2 := cell_later hB d2
                  have f3 := cell_later hB d3
                  have HFIT := Lib.hid hfit
                  clear d0 d1 d2 d3 hc hB hfit
                  have j0 : (0 : Int) ≤ (j3 : Int) := Int.natCast_nonneg _
                  have j1 : (j3 : Int) < (n2 : Int) := by omega
                  by_cases hk1 : (q2 j3).k = 1
                  · have e1 : ((q2 j3).k == 1) = true := beq_iff_eq.2 hk1
                    have hand := lowB_and (q2 j3).p
                    have hiand := lowB_and (q2 j3).i
                    have hq2 := lowB_lt (q2 j3).p
                    have hb2 := lowB_lt (q2 j3).i
                    obtain ⟨sq, hsq⟩ : ∃ s, lowB (q2 j3).p = s := ⟨_, rfl⟩
                    obtain ⟨sb, hsb⟩ : ∃ s, lowB (q2 j3).i = s := ⟨_, rfl⟩
                    rw [hsq] at hand hq2
                    rw [hsb] at hiand hb2
                    have wr1 : IntKind.i64.wrap (2 * (sq : Int)) = 2 * (sq : Int) := IntWalk.i64_in _ (by omega)
                    obtain ⟨jj, hjj⟩ : ∃ s : Nat, s = 2 * sq + sb := ⟨_, rfl⟩
                    have wr2 : IntKind.i64.wrap (2 * (sq : Int) + (sb : Int)) = (jj : Int) := (IntWalk.i64_in _ (by omega)).trans (by omega)
                    by_cases hji : jj = ix
                    · have HSK : Hid (skipB ix (q2 j3) = true) := Lib.hid (decide_eq_true ⟨hk1, by rw [hsq, hsb, ← hjj]; exact hji⟩)
                      have ET : Hid (runT x1 ix q2 (j3 + 1) = runT x1 ix q2 j3) := Lib.hid (by simp only [runT, HSK.out]; rfl)
                      have EC : Hid (couldT x1 ix q2 (j3 + 1) = couldT x1 ix q2 j3) := Lib.hid (by simp only [couldT, HSK.out]; rfl)
                      have e2 : ((jj : Int) == (ix : Int)) = true := by rw [beq_iff_eq]; omega
                      clear hk1 hsq hsb hjj hji
                      go_wp2_with fail
                      go_roundw
                      case rel => exact ⟨j3 + 1, by omega, by go_num, by rw [ET.out]; exact (HS6.out.alloc _).more (by omega), HL6.out.alloc _, by rw [EC.out]; exact (HM6.out.below ((Below.refl _ _).alloc (Nat.le_refl _) _)).more (by omega)⟩
                      case measure => simp [intOf]; omega
                    · have HSK : Hid (skipB ix (q2 j3) = false) := Lib.hid (decide_eq_false (fun h => hji (by have := h.2; rw [hsq, hsb, ← hjj] at this; exact this)))
                      have e2 : ((jj : Int) == (ix : Int)) = false := by rw [beq_eq_false_iff_ne]; omega
                      clear hk1 hsq hsb hjj hji
                      go_wp2_with fail
                      refine (do_any (o := q2 j3) (HS6.out.alloc _) HFIT.out (fun r _ => Nat.le_trans (HG3.out r) (by omega)) (by omega)).mono ?_; rintro e w14 ⟨rfl, S9, F9⟩
                      have HS7 := Lib.hid S9
                      have HL7 := Lib.hid ((HL6.out.alloc (.cells #[.int .i64 (q2 j3).k, .int .i64 (q2 j3).p, .int .i64 (q2 j3).i, .int .i64 (q2 j3).x] 48)).sf (HS6.out.alloc _) F9)
                      have HM7 := Lib.hid ((HM6.out.below ((Below.refl _ _).alloc (Nat.le_refl _) (.cells #[.int .i64 (q2 j3).k, .int .i64 (q2 j3).p, .int .i64 (q2 j3).i, .int .i64 (q2 j3).x] 48))).sf (HS6.out.alloc _) F9)
                      clear S9 F9
                      have ET : Hid (runT x1 ix q2 (j3 + 1) = doS (runT x1 ix q2 j3) (q2 j3)) := Lib.hid (by simp only [runT, HSK.out]; rfl)
                      have EC : Hid (couldT x1 ix q2 (j3 + 1) = couldT x1 ix q2 j3 ++ [(doS (runT x1 ix q2 j3) (q2 j3)).mean ix]) := Lib.hid (by simp only [couldT, HSK.out]; rfl)
                      generalize doS (runT x1 ix q2 j3) (q2 j3) = x5 at HS7 ET EC
                      have HMB5 : Hid (0 ≤ x5.mean ix ∧ x5.mean ix ≤ 65535) := by
                        obtain ⟨c5, f5, A5, C5, R5⟩ := HS7.out.ma
                        have k1 := R5.bo ix ix4
                        have k2 := R5.bn ix ix4
                        refine Lib.hid ?_
                        unfold Sx.mean
                        split
                        · exact k1
                        · exact k2
                      clear f0 f1 f2 f3
                      go_wp2_with fail
                      have HSd := Lib.hid HS7.out.drew
                      have HLd := Lib.hid HL7.out.drew
                      have HMd := Lib.hid HM7.out.drew
                      go_region_held3 (KS w0 (LM p mb (mb + 1))) (first | (with_reducible assumption) | (with_reducible exact HSd.out.ks) | (with_reducible exact HSt.out.ks) | (with_reducible exact HSm.out.ks) | (with_reducible exact HSg.out.ks) | fail)
                        (first
                          | (go_at_call 12; ((with_reducible refine (at_any ix4).mono ?_); rintro e wt ⟨rfl, hb⟩; have HSt := Lib.hid (HSd.out.below hb); have HLt := Lib.hid (HLd.out.later hb); have HMt := Lib.hid (HMd.out.below hb); clear hb))
                          | (go_at_call 19; ((with_reducible refine (ma_means HSt.out.ma ix4 (by omega)).mono ?_); rintro e wm ⟨rfl, M5, O5⟩; have HMm := Lib.hid (HMt.out.arena HSt.out.ma O5); have HSm := Lib.hid (HSt.out.arena M5 O5); have HLm := Lib.hid (HLt.out.ma HSt.out.ma O5); obtain ⟨wg, hrun5, SF5, GF5⟩ := HMm.out.store (z := x5.mean ix) (by omega) (by have := HMB5.out; omega) (by have := HMB5.out; omega); have HSg := Lib.hid (HSm.out.map HMm.out GF5 HC4.out); have HLg := Lib.hid (HLm.out.map HMm.out GF5); have HMg := Lib.hid SF5; clear M5 O5 SF5 GF5)))
                      go_wp2_with fail
                      go_roundw
                      case rel => exact ⟨j3 + 1, by omega, by go_num, by rw [ET.out]; exact HSg.out.more (by omega), HLg.out, by rw [EC.out]; exact HMg.out⟩
                      case measure => simp [intOf]; omega
                  · have e1 : ((q2 j3).k == 1) = false := beq_eq_false_iff_ne.2 hk1
                    have HSK : Hid (skipB ix (q2 j3) = false) := Lib.hid (decide_eq_false (fun h => hk1 h.1))
                    clear hk1
                    go_wp2_with fail
                    refine (do_any (o := q2 j3) (HS6.out.alloc _) HFIT.out (fun r _ => Nat.le_trans (HG3.out r) (by omega)) (by omega)).mono ?_; rintro e w14 ⟨rfl, S9, F9⟩
                    have HS7 := Lib.hid S9
                    have HL7 := Lib.hid ((HL6.out.alloc (.cells #[.int .i64 (q2 j3).k, .int .i64 (q2 j3).p, .int .i64 (q2 j3).i, .int .i64 (q2 j3).x] 48)).sf (HS6.out.alloc _) F9)
                    have HM7 := Lib.hid ((HM6.out.below ((Below.refl _ _).alloc (Nat.le_refl _) (.cells #[.int .i64 (q2 j3).k, .int .i64 (q2 j3).p, .int .i64 (q2 j3).i, .int .i64 (q2 j3).x] 48))).sf (HS6.out.alloc _) F9)
                    clear S9 F9
                    have ET : Hid (runT x1 ix q2 (j3 + 1) = doS (runT x1 ix q2 j3) (q2 j3)) := Lib.hid (by simp only [runT, HSK.out]; rfl)
                    have EC : Hid (couldT x1 ix q2 (j3 + 1) = couldT x1 ix q2 j3 ++ [(doS (runT x1 ix q2 j3) (q2 j3)).mean ix]) := Lib.hid (by simp only [couldT, HSK.out]; rfl)
                    generalize doS (runT x1 ix q2 j3) (q2 j3) = x5 at HS7 ET EC
                    have HMB5 : Hid (0 ≤ x5.mean ix ∧ x5.mean ix ≤ 65535) := by
                      obtain ⟨c5, f5, A5, C5, R5⟩ := HS7.out.ma
                      have k1 := R5.bo ix ix4
                      have k2 := R5.bn ix ix4
                      refine Lib.hid ?_
                      unfold Sx.mean
                      split
                      · exact k1
                      · exact k2
                    clear f0 f1 f2 f3
                    go_wp2_with fail
                    have HSd := Lib.hid HS7.out.drew
                    have HLd := Lib.hid HL7.out.drew
                    have HMd := Lib.hid HM7.out.drew
                    go_region_held3 (KS w0 (LM p mb (mb + 1))) (first | (with_reducible assumption) | (with_reducible exact HSd.out.ks) | (with_reducible exact HSt.out.ks) | (with_reducible exact HSm.out.ks) | (with_reducible exact HSg.out.ks) | fail)
                      (first
                        | (go_at_call 12; ((with_reducible refine (at_any ix4).mono ?_); rintro e wt ⟨rfl, hb⟩; have HSt := Lib.hid (HSd.out.below hb); have HLt := Lib.hid (HLd.out.later hb); have HMt := Lib.hid (HMd.out.below hb); clear hb))
                        | (go_at_call 19; ((with_reducible refine (ma_means HSt.out.ma ix4 (by omega)).mono ?_); rintro e wm ⟨rfl, M5, O5⟩; have HMm := Lib.hid (HMt.out.arena HSt.out.ma O5); have HSm := Lib.hid (HSt.out.arena M5 O5); have HLm := Lib.hid (HLt.out.ma HSt.out.ma O5); obtain ⟨wg, hrun5, SF5, GF5⟩ := HMm.out.store (z := x5.mean ix) (by omega) (by have := HMB5.out; omega) (by have := HMB5.out; omega); have HSg := Lib.hid (HSm.out.map HMm.out GF5 HC4.out); have HLg := Lib.hid (HLm.out.map HMm.out GF5); have HMg := Lib.hid SF5; clear M5 O5 SF5 GF5)))
                    go_wp2_with fail
                    go_roundw
                    case rel => exact ⟨j3 + 1, by omega, by go_num, by rw [ET.out]; exact HSg.out.more (by omega), HLg.out, by rw [EC.out]; exact HMg.out⟩
                    case measure => simp [intOf]; omega
                · have : j3 = n2 := by omega
                  subst this
                  go_wp2_with fail
                  refine (ma_look2 (S := 0) (g0 := x1.g (ix / 2)) HS6.out.ma ix4 HBO.out.1 HBO.out.2 (by have := HX1.out (ix / 2); omega) HL6.out (by omega) (by omega)).mono ?_; rintro e w15 ⟨rfl, M5, L5, O5⟩
                  have HS7 := Lib.hid (HS6.out.look HL6.out HQ.out M5 O5)
                  have HL7 := Lib.hid L5
                  have HM7 := Lib.hid (HM6.out.look_ HL6.out HS6.out.ma O5)
                  have hin := decide_eq_true (LkI.run ix4 HWR.out q2 j3).end_
                  have hvb : 0 ≤ lookV (x1.o ix) (x1.n ix) (x1.g (ix / 2)) (ix / 2) (runT x1 ix q2 j3) ∧ lookV (x1.o ix) (x1.n ix) (x1.g (ix / 2)) (ix / 2) (runT x1 ix q2 j3) ≤ 65535 := by
                    unfold lookV
                    split
                    · exact HBO.out.2
                    · exact HBO.out.1
                  generalize lookV (x1.o ix) (x1.n ix) (x1.g (ix / 2)) (ix / 2) (runT x1 ix q2 j3) = vv at HL7 hin hvb
                  have hv0 := hvb.1
                  have hv1 := hvb.2
                  have hlk := HM7.out.look (i := vv) (by omega) (by omega) hin
                  clear M5 L5 O5 hin hvb
                  go_wp2_with fail
                  refine (look_value HL7.out).mono ?_; rintro e w12 ⟨rfl, rfl⟩
                  go_wp2_with fail
                  refine (awake_any _).mono ?_; rintro e w13 ⟨rfl, hb⟩
                  have HS6 := Lib.hid (HS7.out.below hb)
                  clear hb
                  go_wp2_with fail
                  go_ret
                  exact ⟨rfl, HB0.out.trans (HS6.out.ks.be.mono HB0.out.size)⟩
          · generalize wt.heap.size = cb at HMf HCf ⊢
            have HS4 : Hid (SM w0 p g 510 (LM p mb (mb + 1)) tb (tb + 1) (tb + 2) x1 x1 wf) := Lib.hid (HSf.out.more (by omega))
            have HM4 : Hid (SetI wf cb 1 (couldT x1 ix q2 0)) := Lib.hid HMf.out
            have HL4 := HLf
            have HC4 := HCf
            clear hrun HSf HMf HLf HCf HSd HLd HSt HLt HSm HLm
            cases hw : x1.wr ix
            · go_wp2_with fail
              refine (ma_look0 HS4.out.ma ix4 hw HL4.out (by omega)).mono ?_; rintro e w11 ⟨rfl, M5, L5, O5⟩
              have HS5 := Lib.hid (HS4.out.look HL4.out HQ.out M5 O5)
              have HL5 := Lib.hid L5
              have HM5 := Lib.hid (HM4.out.look_ HL4.out HS4.out.ma O5)
              have hin : decide (x1.n ix ∈ couldT x1 ix q2 0) = true := by
                have e1 : x1.mean ix = x1.n ix := by unfold Sx.mean; rw [hw]; rfl
                simp only [couldT, e1]
                exact decide_eq_true (List.mem_singleton.2 rfl)
              have hlk := HM5.out.look (i := x1.n ix) (by have := HBO.out.2; omega) (by have := HBO.out.2; omega) hin
              clear M5 L5 O5 hin hw
              go_wp2_with fail
              refine (look_value HL5.out).mono ?_; rintro e w12 ⟨rfl, rfl⟩
              go_wp2_with fail
              refine (awake_any _).mono ?_; rintro e w13 ⟨rfl, hb⟩
              have HS6 := Lib.hid (HS5.out.below hb)
              clear hb
              go_wp2_with fail
              go_ret
              exact ⟨rfl, HB0.out.trans (HS6.out.ks.be.mono HB0.out.size)⟩
            · go_wp2_with fail
              refine (ma_look1 HS4.out.ma ix4 hw HL4.out (by omega)).mono ?_; rintro e w11 ⟨rfl, M5, L5, O5⟩
              have HS5 := Lib.hid (HS4.out.look HL4.out HQ.out M5 O5)
              have HL5 := Lib.hid L5
              have HM5 := Lib.hid (HM4.out.look_ HL4.out HS4.out.ma O5)
              have HWR := Lib.hid hw
              clear M5 L5 O5 hw HS4 HL4 HM4
              go_wp2_with fail
              go_loopw [105] (fun v wr => ∃ j3 : Nat, j3 ≤ n2 ∧ v = .int .i64 (j3 : Int) ∧ SM w0 p g (520 + 20 * j3) (LM p mb (mb + 1)) tb (tb + 1) (tb + 2) (runT x1 ix q2 j3) (runT x1 ix q2 j3) wr ∧ Lk wr q 2 0 8 (atK ix) 1 (x1.o ix) (x1.n ix) (((ix / 2 : Nat) : Int) + 1) (x1.g (ix / 2) : Int) 0 ∧ SetI wr cb (j3 + 1) (couldT x1 ix q2 j3)) (fun v _ => n2 - (intOf v).toNat)
              case atStart => exact ⟨0, Nat.zero_le _, rfl, HS5.out.more (by omega), HL5.out, HM5.out⟩
              case round =>
                clear HS5 HL5 HM5
                obtain ⟨j3, hj3, rfl, S, Lq, M⟩ := hrel
                rename_i wr3
                have HS6 := Lib.hid S
                have HL6 := Lib.hid Lq
                have HM6 := Lib.hid M
                have HG3 : Hid (∀ r, (runT x1 ix q2 j3).g r ≤ 100) := Lib.hid (fun r => by have k1 := runT_g x1 ix q2 j3 r; have k2 := HX1.out r; omega)
                clear S Lq M
                by_cases hlt3 : j3 < n2
                · obtain ⟨b, off, ha, hc⟩ := HO2.out (by omega)
                  subst ha
                  obtain ⟨d0, d1, d2, d3, hfit⟩ := hc j3 hlt3
                  have hB := HB0.out.trans (HS6.out.ks.be.mono HB0.out.size)
                  have f0 := cell_later hB d0
                  have f1 := cell_later hB d1
                  have f2 := cell_later hB d2
                  have f3 := cell_later hB d3
                  have HFIT := Lib.hid hfit
                  clear d0 d1 d2 d3 hc hB hfit
                  have j0 : (0 : Int) ≤ (j3 : Int) := Int.natCast_nonneg _
                  have j1 : (j3 : Int) < (n2 : Int) := by omega
                  by_cases hk1 : (q2 j3).k = 1
                  · have e1 : ((q2 j3).k == 1) = true := beq_iff_eq.2 hk1
                    have hand := lowB_and (q2 j3).p
                    have hiand := lowB_and (q2 j3).i
                    have hq2 := lowB_lt (q2 j3).p
                    have hb2 := lowB_lt (q2 j3).i
                    obtain ⟨sq, hsq⟩ : ∃ s, lowB (q2 j3).p = s := ⟨_, rfl⟩
                    obtain ⟨sb, hsb⟩ : ∃ s, lowB (q2 j3).i = s := ⟨_, rfl⟩
                    rw [hsq] at hand hq2
                    rw [hsb] at hiand hb2
                    have wr1 : IntKind.i64.wrap (2 * (sq : Int)) = 2 * (sq : Int) := IntWalk.i64_in _ (by omega)
                    obtain ⟨jj, hjj⟩ : ∃ s : Nat, s = 2 * sq + sb := ⟨_, rfl⟩
                    have wr2 : IntKind.i64.wrap (2 * (sq : Int) + (sb : Int)) = (jj : Int) := (IntWalk.i64_in _ (by omega)).trans (by omega)
                    by_cases hji : jj = ix
                    · have HSK : Hid (skipB ix (q2 j3) = true) := Lib.hid (decide_eq_true ⟨hk1, by rw [hsq, hsb, ← hjj]; exact hji⟩)
                      have ET : Hid (runT x1 ix q2 (j3 + 1) = runT x1 ix q2 j3) := Lib.hid (by simp only [runT, HSK.out]; rfl)
                      have EC : Hid (couldT x1 ix q2 (j3 + 1) = couldT x1 ix q2 j3) := Lib.hid (by simp only [couldT, HSK.out]; rfl)
                      have e2 : ((jj : Int) == (ix : Int)) = true := by rw [beq_iff_eq]; omega
                      clear hk1 hsq hsb hjj hji
                      go_wp2_with fail
                      go_roundw
                      case rel => exact ⟨j3 + 1, by omega, by go_num, by rw [ET.out]; exact (HS6.out.alloc _).more (by omega), HL6.out.alloc _, by rw [EC.out]; exact (HM6.out.below ((Below.refl _ _).alloc (Nat.le_refl _) _)).more (by omega)⟩
                      case measure => simp [intOf]; omega
                    · have HSK : Hid (skipB ix (q2 j3) = false) := Lib.hid (decide_eq_false (fun h => hji (by have := h.2; rw [hsq, hsb, ← hjj] at this; exact this)))
                      have e2 : ((jj : Int) == (ix : Int)) = false := by rw [beq_eq_false_iff_ne]; omega
                      clear hk1 hsq hsb hjj hji
                      go_wp2_with fail
                      refine (do_any (o := q2 j3) (HS6.out.alloc _) HFIT.out (fun r _ => Nat.le_trans (HG3.out r) (by omega)) (by omega)).mono ?_; rintro e w14 ⟨rfl, S9, F9⟩
                      have HS7 := Lib.hid S9
                      have HL7 := Lib.hid ((HL6.out.alloc (.cells #[.int .i64 (q2 j3).k, .int .i64 (q2 j3).p, .int .i64 (q2 j3).i, .int .i64 (q2 j3).x] 48)).sf (HS6.out.alloc _) F9)
                      have HM7 := Lib.hid ((HM6.out.below ((Below.refl _ _).alloc (Nat.le_refl _) (.cells #[.int .i64 (q2 j3).k, .int .i64 (q2 j3).p, .int .i64 (q2 j3).i, .int .i64 (q2 j3).x] 48))).sf (HS6.out.alloc _) F9)
                      clear S9 F9
                      have ET : Hid (runT x1 ix q2 (j3 + 1) = doS (runT x1 ix q2 j3) (q2 j3)) := Lib.hid (by simp only [runT, HSK.out]; rfl)
                      have EC : Hid (couldT x1 ix q2 (j3 + 1) = couldT x1 ix q2 j3 ++ [(doS (runT x1 ix q2 j3) (q2 j3)).mean ix]) := Lib.hid (by simp only [couldT, HSK.out]; rfl)
                      generalize doS (runT x1 ix q2 j3) (q2 j3) = x5 at HS7 ET EC
                      have HMB5 : Hid (0 ≤ x5.mean ix ∧ x5.mean ix ≤ 65535) := by
                        obtain ⟨c5, f5, A5, C5, R5⟩ := HS7.out.ma
                        have k1 := R5.bo ix ix4
                        have k2 := R5.bn ix ix4
                        refine Lib.hid ?_
                        unfold Sx.mean
                        split
                        · exact k1
                        · exact k2
                      clear f0 f1 f2 f3
                      go_wp2_with fail
                      have HSd := Lib.hid HS7.out.drew
                      have HLd := Lib.hid HL7.out.drew
                      have HMd := Lib.hid HM7.out.drew
                      go_region_held3 (KS w0 (LM p mb (mb + 1))) (first | (with_reducible assumption) | (with_reducible exact HSd.out.ks) | (with_reducible exact HSt.out.ks) | (with_reducible exact HSm.out.ks) | (with_reducible exact HSg.out.ks) | fail)
                        (first
                          | (go_at_call 12; ((with_reducible refine (at_any ix4).mono ?_); rintro e wt ⟨rfl, hb⟩; have HSt := Lib.hid (HSd.out.below hb); have HLt := Lib.hid (HLd.out.later hb); have HMt := Lib.hid (HMd.out.below hb); clear hb))
                          | (go_at_call 19; ((with_reducible refine (ma_means HSt.out.ma ix4 (by omega)).mono ?_); rintro e wm ⟨rfl, M5, O5⟩; have HMm := Lib.hid (HMt.out.arena HSt.out.ma O5); have HSm := Lib.hid (HSt.out.arena M5 O5); have HLm := Lib.hid (HLt.out.ma HSt.out.ma O5); obtain ⟨wg, hrun5, SF5, GF5⟩ := HMm.out.store (z := x5.mean ix) (by omega) (by have := HMB5.out; omega) (by have := HMB5.out; omega); have HSg := Lib.hid (HSm.out.map HMm.out GF5 HC4.out); have HLg := Lib.hid (HLm.out.map HMm.out GF5); have HMg := Lib.hid SF5; clear M5 O5 SF5 GF5)))
                      go_wp2_with fail
                      go_roundw
                      case rel => exact ⟨j3 + 1, by omega, by go_num, by rw [ET.out]; exact HSg.out.more (by omega), HLg.out, by rw [EC.out]; exact HMg.out⟩
                      case measure => simp [intOf]; omega
                  · have e1 : ((q2 j3).k == 1) = false := beq_eq_false_iff_ne.2 hk1
                    have HSK : Hid (skipB ix (q2 j3) = false) := Lib.hid (decide_eq_false (fun h => hk1 h.1))
                    clear hk1
                    go_wp2_with fail
                    refine (do_any (o := q2 j3) (HS6.out.alloc _) HFIT.out (fun r _ => Nat.le_trans (HG3.out r) (by omega)) (by omega)).mono ?_; rintro e w14 ⟨rfl, S9, F9⟩
                    have HS7 := Lib.hid S9
                    have HL7 := Lib.hid ((HL6.out.alloc (.cells #[.int .i64 (q2 j3).k, .int .i64 (q2 j3).p, .int .i64 (q2 j3).i, .int .i64 (q2 j3).x] 48)).sf (HS6.out.alloc _) F9)
                    have HM7 := Lib.hid ((HM6.out.below ((Below.refl _ _).alloc (Nat.le_refl _) (.cells #[.int .i64 (q2 j3).k, .int .i64 (q2 j3).p, .int .i64 (q2 j3).i, .int .i64 (q2 j3).x] 48))).sf (HS6.out.alloc _) F9)
                    clear S9 F9
                    have ET : Hid (runT x1 ix q2 (j3 + 1) = doS (runT x1 ix q2 j3) (q2 j3)) := Lib.hid (by simp only [runT, HSK.out]; rfl)
                    have EC : Hid (couldT x1 ix q2 (j3 + 1) = couldT x1 ix q2 j3 ++ [(doS (runT x1 ix q2 j3) (q2 j3)).mean ix]) := Lib.hid (by simp only [couldT, HSK.out]; rfl)
                    generalize doS (runT x1 ix q2 j3) (q2 j3) = x5 at HS7 ET EC
                    have HMB5 : Hid (0 ≤ x5.mean ix ∧ x5.mean ix ≤ 65535) := by
                      obtain ⟨c5, f5, A5, C5, R5⟩ := HS7.out.ma
                      have k1 := R5.bo ix ix4
                      have k2 := R5.bn ix ix4
                      refine Lib.hid ?_
                      unfold Sx.mean
                      split
                      · exact k1
                      · exact k2
                    clear f0 f1 f2 f3
                    go_wp2_with fail
                    have HSd := Lib.hid HS7.out.drew
                    have HLd := Lib.hid HL7.out.drew
                    have HMd := Lib.hid HM7.out.drew
                    go_region_held3 (KS w0 (LM p mb (mb + 1))) (first | (with_reducible assumption) | (with_reducible exact HSd.out.ks) | (with_reducible exact HSt.out.ks) | (with_reducible exact HSm.out.ks) | (with_reducible exact HSg.out.ks) | fail)
                      (first
                        | (go_at_call 12; ((with_reducible refine (at_any ix4).mono ?_); rintro e wt ⟨rfl, hb⟩; have HSt := Lib.hid (HSd.out.below hb); have HLt := Lib.hid (HLd.out.later hb); have HMt := Lib.hid (HMd.out.below hb); clear hb))
                        | (go_at_call 19; ((with_reducible refine (ma_means HSt.out.ma ix4 (by omega)).mono ?_); rintro e wm ⟨rfl, M5, O5⟩; have HMm := Lib.hid (HMt.out.arena HSt.out.ma O5); have HSm := Lib.hid (HSt.out.arena M5 O5); have HLm := Lib.hid (HLt.out.ma HSt.out.ma O5); obtain ⟨wg, hrun5, SF5, GF5⟩ := HMm.out.store (z := x5.mean ix) (by omega) (by have := HMB5.out; omega) (by have := HMB5.out; omega); have HSg := Lib.hid (HSm.out.map HMm.out GF5 HC4.out); have HLg := Lib.hid (HLm.out.map HMm.out GF5); have HMg := Lib.hid SF5; clear M5 O5 SF5 GF5)))
                    go_wp2_with fail
                    go_roundw
                    case rel => exact ⟨j3 + 1, by omega, by go_num, by rw [ET.out]; exact HSg.out.more (by omega), HLg.out, by rw [EC.out]; exact HMg.out⟩
                    case measure => simp [intOf]; omega
                · have : j3 = n2 := by omega
                  subst this
                  go_wp2_with fail
                  refine (ma_look2 (S := 0) (g0 := x1.g (ix / 2)) HS6.out.ma ix4 HBO.out.1 HBO.out.2 (by have := HX1.out (ix / 2); omega) HL6.out (by omega) (by omega)).mono ?_; rintro e w15 ⟨rfl, M5, L5, O5⟩
                  have HS7 := Lib.hid (HS6.out.look HL6.out HQ.out M5 O5)
                  have HL7 := Lib.hid L5
                  have HM7 := Lib.hid (HM6.out.look_ HL6.out HS6.out.ma O5)
                  have hin := decide_eq_true (LkI.run ix4 HWR.out q2 j3).end_
                  have hvb : 0 ≤ lookV (x1.o ix) (x1.n ix) (x1.g (ix / 2)) (ix / 2) (runT x1 ix q2 j3) ∧ lookV (x1.o ix) (x1.n ix) (x1.g (ix / 2)) (ix / 2) (runT x1 ix q2 j3) ≤ 65535 := by
                    unfold lookV
                    split
                    · exact HBO.out.2
                    · exact HBO.out.1
                  generalize lookV (x1.o ix) (x1.n ix) (x1.g (ix / 2)) (ix / 2) (runT x1 ix q2 j3) = vv at HL7 hin hvb
                  have hv0 := hvb.1
                  have hv1 := hvb.2
                  have hlk := HM7.out.look (i := vv) (by omega) (by omega) hin
                  clear M5 L5 O5 hin hvb
                  go_wp2_with fail
                  refine (look_value HL7.out).mono ?_; rintro e w12 ⟨rfl, rfl⟩
                  go_wp2_with fail
                  refine (awake_any _).mono ?_; rintro e w13 ⟨rfl, hb⟩
                  have HS6 := Lib.hid (HS7.out.below hb)
                  clear hb
                  go_wp2_with fail
                  go_ret
                  exact ⟨rfl, HB0.out.trans (HS6.out.ks.be.mono HB0.out.size)⟩
          · generalize wm.heap.size = cb at HMf HCf ⊢
            have HS4 : Hid (SM w0 p g 510 (LM p mb (mb + 1)) tb (tb + 1) (tb + 2) x1 x1 wf) := Lib.hid (HSf.out.more (by omega))
            have HM4 : Hid (SetI wf cb 1 (couldT x1 ix q2 0)) := Lib.hid HMf.out
            have HL4 := HLf
            have HC4 := HCf
            clear hrun HSf HMf HLf HCf HSd HLd HSt HLt HSm HLm
            cases hw : x1.wr ix
            · go_wp2_with fail
              refine (ma_look0 HS4.out.ma ix4 hw HL4.out (by omega)).mono ?_; rintro e w11 ⟨rfl, M5, L5, O5⟩
              have HS5 := Lib.hid (HS4.out.look HL4.out HQ.out M5 O5)
              have HL5 := Lib.hid L5
              have HM5 := Lib.hid (HM4.out.look_ HL4.out HS4.out.ma O5)
              have hin : decide (x1.n ix ∈ couldT x1 ix q2 0) = true := by
                have e1 : x1.mean ix = x1.n ix := by unfold Sx.mean; rw [hw]; rfl
                simp only [couldT, e1]
                exact decide_eq_true (List.mem_singleton.2 rfl)
              have hlk := HM5.out.look (i := x1.n ix) (by have := HBO.out.2; omega) (by have := HBO.out.2; omega) hin
              clear M5 L5 O5 hin hw
              go_wp2_with fail
              refine (look_value HL5.out).mono ?_; rintro e w12 ⟨rfl, rfl⟩
              go_wp2_with fail
              refine (awake_any _).mono ?_; rintro e w13 ⟨rfl, hb⟩
              have HS6 := Lib.hid (HS5.out.below hb)
              clear hb
              go_wp2_with fail
              go_ret
              exact ⟨rfl, HB0.out.trans (HS6.out.ks.be.mono HB0.out.size)⟩
            · go_wp2_with fail
              refine (ma_look1 HS4.out.ma ix4 hw HL4.out (by omega)).mono ?_; rintro e w11 ⟨rfl, M5, L5, O5⟩
              have HS5 := Lib.hid (HS4.out.look HL4.out HQ.out M5 O5)
              have HL5 := Lib.hid L5
              have HM5 := Lib.hid (HM4.out.look_ HL4.out HS4.out.ma O5)
              have HWR := Lib.hid hw
              clear M5 L5 O5 hw HS4 HL4 HM4
              go_wp2_with fail
              go_loopw [105] (fun v wr => ∃ j3 : Nat, j3 ≤ n2 ∧ v = .int .i64 (j3 : Int) ∧ SM w0 p g (520 + 20 * j3) (LM p mb (mb + 1)) tb (tb + 1) (tb + 2) (runT x1 ix q2 j3) (runT x1 ix q2 j3) wr ∧ Lk wr q 2 0 8 (atK ix) 1 (x1.o ix) (x1.n ix) (((ix / 2 : Nat) : Int) + 1) (x1.g (ix / 2) : Int) 0 ∧ SetI wr cb (j3 + 1) (couldT x1 ix q2 j3)) (fun v _ => n2 - (intOf v).toNat)
              case atStart => exact ⟨0, Nat.zero_le _, rfl, HS5.out.more (by omega), HL5.out, HM5.out⟩
              case round =>
                clear HS5 HL5 HM5
                obtain ⟨j3, hj3, rfl, S, Lq, M⟩ := hrel
                rename_i wr3
                have HS6 := Lib.hid S
                have HL6 := Lib.hid Lq
                have HM6 := Lib.hid M
                have HG3 : Hid (∀ r, (runT x1 ix q2 j3).g r ≤ 100) := Lib.hid (fun r => by have k1 := runT_g x1 ix q2 j3 r; have k2 := HX1.out r; omega)
                clear S Lq M
                by_cases hlt3 : j3 < n2
                · obtain ⟨b, off, ha, hc⟩ := HO2.out (by omega)
                  subst ha
                  obtain ⟨d0, d1, d2, d3, hfit⟩ := hc j3 hlt3
                  have hB := HB0.out.trans (HS6.out.ks.be.mono HB0.out.size)
                  have f0 := cell_later hB d0
                  have f1 := cell_later hB d1
                  have f2 := cell_later hB d2
                  have f3 := cell_later hB d3
                  have HFIT := Lib.hid hfit
                  clear d0 d1 d2 d3 hc hB hfit
                  have j0 : (0 : Int) ≤ (j3 : Int) := Int.natCast_nonneg _
                  have j1 : (j3 : Int) < (n2 : Int) := by omega
                  by_cases hk1 : (q2 j3).k = 1
                  · have e1 : ((q2 j3).k == 1) = true := beq_iff_eq.2 hk1
                    have hand := lowB_and (q2 j3).p
                    have hiand := lowB_and (q2 j3).i
                    have hq2 := lowB_lt (q2 j3).p
                    have hb2 := lowB_lt (q2 j3).i
                    obtain ⟨sq, hsq⟩ : ∃ s, lowB (q2 j3).p = s := ⟨_, rfl⟩
                    obtain ⟨sb, hsb⟩ : ∃ s, lowB (q2 j3).i = s := ⟨_, rfl⟩
                    rw [hsq] at hand hq2
                    rw [hsb] at hiand hb2
                    have wr1 : IntKind.i64.wrap (2 * (sq : Int)) = 2 * (sq : Int) := IntWalk.i64_in _ (by omega)
                    obtain ⟨jj, hjj⟩ : ∃ s : Nat, s = 2 * sq + sb := ⟨_, rfl⟩
                    have wr2 : IntKind.i64.wrap (2 * (sq : Int) + (sb : Int)) = (jj : Int) := (IntWalk.i64_in _ (by omega)).trans (by omega)
                    by_cases hji : jj = ix
                    · have HSK : Hid (skipB ix (q2 j3) = true) := Lib.hid (decide_eq_true ⟨hk1, by rw [hsq, hsb, ← hjj]; exact hji⟩)
                      have ET : Hid (runT x1 ix q2 (j3 + 1) = runT x1 ix q2 j3) := Lib.hid (by simp only [runT, HSK.out]; rfl)
                      have EC : Hid (couldT x1 ix q2 (j3 + 1) = couldT x1 ix q2 j3) := Lib.hid (by simp only [couldT, HSK.out]; rfl)
                      have e2 : ((jj : Int) == (ix : Int)) = true := by rw [beq_iff_eq]; omega
                      clear hk1 hsq hsb hjj hji
                      go_wp2_with fail
                      go_roundw
                      case rel => exact ⟨j3 + 1, by omega, by go_num, by rw [ET.out]; exact (HS6.out.alloc _).more (by omega), HL6.out.alloc _, by rw [EC.out]; exact (HM6.out.below ((Below.refl _ _).alloc (Nat.le_refl _) _)).more (by omega)⟩
                      case measure => simp [intOf]; omega
                    · have HSK : Hid (skipB ix (q2 j3) = false) := Lib.hid (decide_eq_false (fun h => hji (by have := h.2; rw [hsq, hsb, ← hjj] at this; exact this)))
                      have e2 : ((jj : Int) == (ix : Int)) = false := by rw [beq_eq_false_iff_ne]; omega
                      clear hk1 hsq hsb hjj hji
                      go_wp2_with fail
                      refine (do_any (o := q2 j3) (HS6.out.alloc _) HFIT.out (fun r _ => Nat.le_trans (HG3.out r) (by omega)) (by omega)).mono ?_; rintro e w14 ⟨rfl, S9, F9⟩
                      have HS7 := Lib.hid S9
                      have HL7 := Lib.hid ((HL6.out.alloc (.cells #[.int .i64 (q2 j3).k, .int .i64 (q2 j3).p, .int .i64 (q2 j3).i, .int .i64 (q2 j3).x] 48)).sf (HS6.out.alloc _) F9)
                      have HM7 := Lib.hid ((HM6.out.below ((Below.refl _ _).alloc (Nat.le_refl _) (.cells #[.int .i64 (q2 j3).k, .int .i64 (q2 j3).p, .int .i64 (q2 j3).i, .int .i64 (q2 j3).x] 48))).sf (HS6.out.alloc _) F9)
                      clear S9 F9
                      have ET : Hid (runT x1 ix q2 (j3 + 1) = doS (runT x1 ix q2 j3) (q2 j3)) := Lib.hid (by simp only [runT, HSK.out]; rfl)
                      have EC : Hid (couldT x1 ix q2 (j3 + 1) = couldT x1 ix q2 j3 ++ [(doS (runT x1 ix q2 j3) (q2 j3)).mean ix]) := Lib.hid (by simp only [couldT, HSK.out]; rfl)
                      generalize doS (runT x1 ix q2 j3) (q2 j3) = x5 at HS7 ET EC
                      have HMB5 : Hid (0 ≤ x5.mean ix ∧ x5.mean ix ≤ 65535) := by
                        obtain ⟨c5, f5, A5, C5, R5⟩ := HS7.out.ma
                        have k1 := R5.bo ix ix4
                        have k2 := R5.bn ix ix4
                        refine Lib.hid ?_
                        unfold Sx.mean
                        split
                        · exact k1
                        · exact k2
                      clear f0 f1 f2 f3
                      go_wp2_with fail
                      have HSd := Lib.hid HS7.out.drew
                      have HLd := Lib.hid HL7.out.drew
                      have HMd := Lib.hid HM7.out.drew
                      go_region_held3 (KS w0 (LM p mb (mb + 1))) (first | (with_reducible assumption) | (with_reducible exact HSd.out.ks) | (with_reducible exact HSt.out.ks) | (with_reducible exact HSm.out.ks) | (with_reducible exact HSg.out.ks) | fail)
                        (first
                          | (go_at_call 12; ((with_reducible refine (at_any ix4).mono ?_); rintro e wt ⟨rfl, hb⟩; have HSt := Lib.hid (HSd.out.below hb); have HLt := Lib.hid (HLd.out.later hb); have HMt := Lib.hid (HMd.out.below hb); clear hb))
                          | (go_at_call 19; ((with_reducible refine (ma_means HSt.out.ma ix4 (by omega)).mono ?_); rintro e wm ⟨rfl, M5, O5⟩; have HMm := Lib.hid (HMt.out.arena HSt.out.ma O5); have HSm := Lib.hid (HSt.out.arena M5 O5); have HLm := Lib.hid (HLt.out.ma HSt.out.ma O5); obtain ⟨wg, hrun5, SF5, GF5⟩ := HMm.out.store (z := x5.mean ix) (by omega) (by have := HMB5.out; omega) (by have := HMB5.out; omega); have HSg := Lib.hid (HSm.out.map HMm.out GF5 HC4.out); have HLg := Lib.hid (HLm.out.map HMm.out GF5); have HMg := Lib.hid SF5; clear M5 O5 SF5 GF5)))
                      go_wp2_with fail
                      go_roundw
                      case rel => exact ⟨j3 + 1, by omega, by go_num, by rw [ET.out]; exact HSg.out.more (by omega), HLg.out, by rw [EC.out]; exact HMg.out⟩
                      case measure => simp [intOf]; omega
                  · have e1 : ((q2 j3).k == 1) = false := beq_eq_false_iff_ne.2 hk1
                    have HSK : Hid (skipB ix (q2 j3) = false) := Lib.hid (decide_eq_false (fun h => hk1 h.1))
                    clear hk1
                    go_wp2_with fail
                    refine (do_any (o := q2 j3) (HS6.out.alloc _) HFIT.out (fun r _ => Nat.le_trans (HG3.out r) (by omega)) (by omega)).mono ?_; rintro e w14 ⟨rfl, S9, F9⟩
                    have HS7 := Lib.hid S9
                    have HL7 := Lib.hid ((HL6.out.alloc (.cells #[.int .i64 (q2 j3).k, .int .i64 (q2 j3).p, .int .i64 (q2 j3).i, .int .i64 (q2 j3).x] 48)).sf (HS6.out.alloc _) F9)
                    have HM7 := Lib.hid ((HM6.out.below ((Below.refl _ _).alloc (Nat.le_refl _) (.cells #[.int .i64 (q2 j3).k, .int .i64 (q2 j3).p, .int .i64 (q2 j3).i, .int .i64 (q2 j3).x] 48))).sf (HS6.out.alloc _) F9)
                    clear S9 F9
                    have ET : Hid (runT x1 ix q2 (j3 + 1) = doS (runT x1 ix q2 j3) (q2 j3)) := Lib.hid (by simp only [runT, HSK.out]; rfl)
                    have EC : Hid (couldT x1 ix q2 (j3 + 1) = couldT x1 ix q2 j3 ++ [(doS (runT x1 ix q2 j3) (q2 j3)).mean ix]) := Lib.hid (by simp only [couldT, HSK.out]; rfl)
                    generalize doS (runT x1 ix q2 j3) (q2 j3) = x5 at HS7 ET EC
                    have HMB5 : Hid (0 ≤ x5.mean ix ∧ x5.mean ix ≤ 65535) := by
                      obtain ⟨c5, f5, A5, C5, R5⟩ := HS7.out.ma
                      have k1 := R5.bo ix ix4
                      have k2 := R5.bn ix ix4
                      refine Lib.hid ?_
                      unfold Sx.mean
                      split
                      · exact k1
                      · exact k2
                    clear f0 f1 f2 f3
                    go_wp2_with fail
                    have HSd := Lib.hid HS7.out.drew
                    have HLd := Lib.hid HL7.out.drew
                    have HMd := Lib.hid HM7.out.drew
                    go_region_held3 (KS w0 (LM p mb (mb + 1))) (first | (with_reducible assumption) | (with_reducible exact HSd.out.ks) | (with_reducible exact HSt.out.ks) | (with_reducible exact HSm.out.ks) | (with_reducible exact HSg.out.ks) | fail)
                      (first
                        | (go_at_call 12; ((with_reducible refine (at_any ix4).mono ?_); rintro e wt ⟨rfl, hb⟩; have HSt := Lib.hid (HSd.out.below hb); have HLt := Lib.hid (HLd.out.later hb); have HMt := Lib.hid (HMd.out.below hb); clear hb))
                        | (go_at_call 19; ((with_reducible refine (ma_means HSt.out.ma ix4 (by omega)).mono ?_); rintro e wm ⟨rfl, M5, O5⟩; have HMm := Lib.hid (HMt.out.arena HSt.out.ma O5); have HSm := Lib.hid (HSt.out.arena M5 O5); have HLm := Lib.hid (HLt.out.ma HSt.out.ma O5); obtain ⟨wg, hrun5, SF5, GF5⟩ := HMm.out.store (z := x5.mean ix) (by omega) (by have := HMB5.out; omega) (by have := HMB5.out; omega); have HSg := Lib.hid (HSm.out.map HMm.out GF5 HC4.out); have HLg := Lib.hid (HLm.out.map HMm.out GF5); have HMg := Lib.hid SF5; clear M5 O5 SF5 GF5)))
                    go_wp2_with fail
                    go_roundw
                    case rel => exact ⟨j3 + 1, by omega, by go_num, by rw [ET.out]; exact HSg.out.more (by omega), HLg.out, by rw [EC.out]; exact HMg.out⟩
                    case measure => simp [intOf]; omega
                · have : j3 = n2 := by omega
                  subst this
                  go_wp2_with fail
                  refine (ma_look2 (S := 0) (g0 := x1.g (ix / 2)) HS6.out.ma ix4 HBO.out.1 HBO.out.2 (by have := HX1.out (ix / 2); omega) HL6.out (by omega) (by omega)).mono ?_; rintro e w15 ⟨rfl, M5, L5, O5⟩
                  have HS7 := Lib.hid (HS6.out.look HL6.out HQ.out M5 O5)
                  have HL7 := Lib.hid L5
                  have HM7 := Lib.hid (HM6.out.look_ HL6.out HS6.out.ma O5)
                  have hin := decide_eq_true (LkI.run ix4 HWR.out q2 j3).end_
                  have hvb : 0 ≤ lookV (x1.o ix) (x1.n ix) (x1.g (ix / 2)) (ix / 2) (runT x1 ix q2 j3) ∧ lookV (x1.o ix) (x1.n ix) (x1.g (ix / 2)) (ix / 2) (runT x1 ix q2 j3) ≤ 65535 := by
                    unfold lookV
                    split
                    · exact HBO.out.2
                    · exact HBO.out.1
                  generalize lookV (x1.o ix) (x1.n ix) (x1.g (ix / 2)) (ix / 2) (runT x1 ix q2 j3) = vv at HL7 hin hvb
                  have hv0 := hvb.1
                  have hv1 := hvb.2
                  have hlk := HM7.out.look (i := vv) (by omega) (by omega) hin
                  clear M5 L5 O5 hin hvb
                  go_wp2_with fail
                  refine (look_value HL7.out).mono ?_; rintro e w12 ⟨rfl, rfl⟩
                  go_wp2_with fail
                  refine (awake_any _).mono ?_; rintro e w13 ⟨rfl, hb⟩
                  have HS6 := Lib.hid (HS7.out.below hb)
                  clear hb
                  go_wp2_with fail
                  go_ret
                  exact ⟨rfl, HB0.out.trans (HS6.out.ks.be.mono HB0.out.size)⟩
theorem ptrSeen_any (a0 : Option Addr) (n0 c0 : Nat) (zs : List Int) (a1 : Option Addr) (n1 c1 : Nat) (q1 : Nat → Op4) (a2 : Option Addr) (n2 c2 : Nat) (q2 : Nat → Op4) (i : Int) (_b1 : -9223372036854775808 ≤ i) (_b2 : i ≤ 9223372036854775807) (w : World) (hr : IsRow .i64 w a0 n0 c0 zs) (h1 : IsOp4 w a1 n1 q1) (h2 : IsOp4 w a2 n2 q2) :
    Calls Try.prog 6 #[.slice a0 n0 c0, .agg #[.slice a1 n1 c1, .slice a2 n2 c2], .int .i64 i] w fun e w' => e = .returned (.bool true) ∧ Below w.heap.size w w' := by
  by_cases g0 : (4 : Int) < (n0 : Int)
  · exact seen_outa a0 n0 c0 a1 n1 c1 a2 n2 c2 i w g0
  · by_cases g1 : (40 : Int) < (n1 : Int)
    · exact seen_outb a0 n0 c0 a1 n1 c1 a2 n2 c2 i w (by omega) g1
    · by_cases g2 : (40 : Int) < (n2 : Int)
      · exact seen_outc a0 n0 c0 a1 n1 c1 a2 n2 c2 i w (by omega) (by omega) g2
      · by_cases g3 : i < 0
        · exact seen_outd a0 n0 c0 a1 n1 c1 a2 n2 c2 i w (by omega) (by omega) (by omega) g3
        · by_cases g4 : 3 < i
          · exact seen_oute a0 n0 c0 a1 n1 c1 a2 n2 c2 i w (by omega) (by omega) (by omega) (by omega) g4
          · obtain ⟨ix, rfl⟩ := Int.eq_ofNat_of_zero_le (show 0 ≤ i by omega)
            exact seen_in a0 n0 c0 zs a1 n1 c1 q1 a2 n2 c2 q2 ix w hr h1 h2 (by omega) (by omega) (by omega) (by omega)
end Go.Proofs.Ytipjbgkfhkidkaa
