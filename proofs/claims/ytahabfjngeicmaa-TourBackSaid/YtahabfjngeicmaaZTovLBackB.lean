/- The law TourBack: numbers 4 to 7 are bad. Printed by wip/tools/tovlk.py. -/
import Derived.Test.YtahabfjngeicmaaZTovG
namespace Go.Proofs.Ytahabfjngeicmaa
open Go.RowKit

set_option maxRecDepth 100000

section
variable {V S T : Int} {da oa : Option Addr} {dl dc ol oc : Nat} {f : Nat → Nat} {fo : Nat → OpT}
set_option maxHeartbeats 16000000 in
theorem lbackB (kd a b c d : Int) (w : World) (hD : IsNum w da dl f) (hO : IsOpT w oa ol fo) (hx : (0 ≤ a ∧ a < lv V ∧ 0 ≤ b ∧ b < S ∧ c < 0) ∨ (0 ≤ a ∧ a < lv V ∧ 0 ≤ b ∧ b < S ∧ 0 ≤ c ∧ V ≤ c) ∨ (0 ≤ a ∧ a < lv V ∧ 0 ≤ b ∧ b < S ∧ 0 ≤ c ∧ c < V ∧ d < 0) ∨ (0 ≤ a ∧ a < lv V ∧ 0 ≤ b ∧ b < S ∧ 0 ≤ c ∧ c < V ∧ 0 ≤ d ∧ V ≤ d)) :
    Calls Try.prog 3 #[vC10 V S T da dl dc oa ol oc, .agg #[.int .i64 kd, .int .i64 a, .int .i64 b, .int .i64 c, .int .i64 d]] w fun e w' => e = .returned (.bool true) ∧ Below w.heap.size w w' := by
  have HD := Lib.hid hD
  have HO0 := Lib.hid hO
  clear hD hO
  have HB1 : Hid (Below w.heap.size w ((w.alloc (.cells #[.int .i64 V, .int .i64 S, .int .i64 T, .slice da dl dc, .slice oa ol oc] 27)).alloc (.cells #[.int .i64 kd, .int .i64 a, .int .i64 b, .int .i64 c, .int .i64 d] 29))) := Lib.hid (((Below.refl _ _).alloc (Nat.le_refl _) _).alloc (by simp) _)
  have HZ1 : Hid (Blk ((w.alloc (.cells #[.int .i64 V, .int .i64 S, .int .i64 T, .slice da dl dc, .slice oa ol oc] 27)).alloc (.cells #[.int .i64 kd, .int .i64 a, .int .i64 b, .int .i64 c, .int .i64 d] 29)) w.heap.size 27 #[.int .i64 V, .int .i64 S, .int .i64 T, .slice da dl dc, .slice oa ol oc]) := Lib.hid ((Blk.new _ _ _).alloc _)
  have HP1 : Hid (Blk ((w.alloc (.cells #[.int .i64 V, .int .i64 S, .int .i64 T, .slice da dl dc, .slice oa ol oc] 27)).alloc (.cells #[.int .i64 kd, .int .i64 a, .int .i64 b, .int .i64 c, .int .i64 d] 29)) (w.heap.size + 1) 29 #[.int .i64 kd, .int .i64 a, .int .i64 b, .int .i64 c, .int .i64 d]) := Lib.hid (new_next w _ _ _ _)
  go_enter Try.func3, Try.ntmps3
  go_wp2_with fail
  generalize w.heap.size + 1 = pb at HP1 ⊢
  generalize w.heap.size = zb at HZ1 ⊢
  generalize ((w.alloc (.cells #[.int .i64 V, .int .i64 S, .int .i64 T, .slice da dl dc, .slice oa ol oc] 27)).alloc (.cells #[.int .i64 kd, .int .i64 a, .int .i64 b, .int .i64 c, .int .i64 d] 29)) = W1 at HZ1 HP1 HB1 ⊢
  have HO : Hid (IsOpT W1 oa ol fo) := Lib.hid fun h0 => by
    obtain ⟨x, off, e, hc⟩ := HO0.out h0
    exact ⟨x, off, e, fun k hk => by
      have h := hc k hk
      exact ⟨cell_later HB1.out h.1, cell_later HB1.out h.2.1, cell_later HB1.out h.2.2.1, cell_later HB1.out h.2.2.2.1, cell_later HB1.out h.2.2.2.2.1, h.2.2.2.2.2⟩⟩
  have HD1 := Lib.hid (HD.out.below HB1.out)
  clear HO0 HD
  refine (right_case10 V S T da dl dc oa ol oc _).mono ?_; rintro e w2 ⟨rfl, hb2⟩
  have HB2 := Lib.hid hb2
  have HZ2 := Lib.hid (HZ1.out.below hb2 HZ1.out.lt)
  clear HZ1 hb2
  cases hr : rgt10 V S T dl ol
  · go_wp2_with fail
    refine (awake_any10 _).mono ?_; rintro e w3 ⟨rfl, hb3⟩
    have HB3 := Lib.hid (HB1.out.trans ((HB2.out.trans (hb3.mono HB2.out.size)).mono HB1.out.size))
    go_wp2_with fail
    go_ret
    exact ⟨rfl, HB3.out⟩
  have HG := Lib.hid (rgt10_yes hr)
  clear hr
  have z0 := HZ2.out.cell 0
  have z1 := HZ2.out.cell 1
  have z2 := HZ2.out.cell 2
  have z3 := HZ2.out.cell 3
  have z4 := HZ2.out.cell 4
  have zlt := HZ2.out.lt
  go_wp2_with fail
  refine (xbegun HG.out.r (HD1.out.below HB2.out) HG.out.d HG.out.v HG.out.s HZ2.out HB2.out).mono ?_
  rintro e w3 ⟨n, q, p, gb, cap, rb, lb, cr, cl, base, gB, g0, ts0, vr0, rs0, gr0', rfl, hL⟩
  have HRel : Hid (LpT W1 zb #[.int .i64 V, .int .i64 S, .int .i64 T, .slice da dl dc, .slice oa ol oc] V S T n q p gb cap rb lb cr cl base gB ol (.int .i64 0) w3) := Lib.hid ⟨0, _, _, _, _, _, _, Nat.zero_le _, rfl, Nat.le_refl _, hL⟩
  clear z0 z1 z2 z3 z4 zlt HZ2 HB2
  have z4 := hL.z.cell 4
  have zlt := hL.z.lt
  clear hL
  have HOL := Lib.hid HG.out.o
  have holI : (ol : Int) ≤ 60 := by have := HG.out.o; omega
  go_wp2_with fail
  go_loopw [26] (fun i wr => LpT W1 zb #[.int .i64 V, .int .i64 S, .int .i64 T, .slice da dl dc, .slice oa ol oc] V S T n q p gb cap rb lb cr cl base gB ol i wr) (fun i _ => ol - (intOf i).toNat)
  case atStart => exact HRel.out
  case round =>
    clear HRel z4 zlt
    obtain ⟨k, m, g, ts, vr, rs, gr, hk, rfl, hm, hL⟩ := hrel
    have HL := Lib.hid hL
    have HMK := Lib.hid hm
    clear hL
    by_cases hkl : k < ol
    · obtain ⟨ob, off, rfl, hcell⟩ := HO.out (by omega)
      have hc := hcell k hkl
      obtain ⟨o, ho⟩ : ∃ o, fo k = o := ⟨_, rfl⟩
      rw [ho] at hc
      obtain ⟨kd, oa1, ob1, oc1, od1⟩ := o
      have c0 := cell_later HL.out.be hc.1
      have c1 := cell_later HL.out.be hc.2.1
      have c2 := cell_later HL.out.be hc.2.2.1
      have c3 := cell_later HL.out.be hc.2.2.2.1
      have c4 := cell_later HL.out.be hc.2.2.2.2.1
      have hkI : (k : Int) < (ol : Int) := by omega
      have hk0 : (0 : Int) ≤ (k : Int) := by omega
      have HM1 : Hid (m ≤ 700000) := Lib.hid (by have := HOL.out; omega)
      have HLa := Lib.hid (HL.out.below ((Below.refl _ _).alloc (Nat.le_refl _) (.cells #[.int .i64 kd, .int .i64 oa1, .int .i64 ob1, .int .i64 oc1, .int .i64 od1] 29)))
      clear hc ho hcell HL hm
      go_wp2_with fail
      refine (xstep HLa.out HM1.out).mono ?_
      rintro e w5 ⟨rfl, g', ts', vr', rs', gr', hL5⟩
      have HL5 := Lib.hid hL5
      clear hL5 HLa c0 c1 c2 c3 c4
      go_wp2_with fail
      go_roundw
      case rel => exact ⟨k + 1, _, g', ts', vr', rs', gr', hkl, by simp, by have := HMK.out; omega, HL5.out⟩
      case measure => simp [intOf]; omega
    · have ek : ol = k := by omega
      subst ek
      have hkI : ¬ (ol : Int) < (ol : Int) := by omega
      have HM1 : Hid (m ≤ 661000) := Lib.hid (by have := HOL.out; omega)
      have hn4 := HL.out.pl.n4
      have HV8 := Lib.hid (And.intro HL.out.pl.v8 HL.out.pl.s8)
      have HNI := Lib.hid HL.out.pl.pg.hn
      obtain ⟨wO, rfl⟩ : ∃ w1 : World, w1 = wr := ⟨_, rfl⟩
      have HLV := Lib.hid HL.out.pl.lv
      have HFI := Lib.hid HL.out.pl.fi
      have HR := Lib.hid HL.out.pl.hR
      have HRW : Hid (∀ L, L < n → ∀ r ∈ rs L, r.length ≤ 96) := Lib.hid fun L hL r hr => HL.out.pl.row_len hL hr
      have HRN : Hid (∀ L, L < n → (rs L).length ≤ 96) := Lib.hid fun L hL => HL.out.pl.rows_len hL
      obtain ⟨sn, hsn⟩ : ∃ x, S.toNat = x := ⟨_, rfl⟩
      have HSN := Lib.hid hsn
      have HSI : Hid ((sn : Int) = S) := Lib.hid (by have := HL.out.pl.hR.s1; omega)
      have hS8I : (sn : Int) ≤ 8 := by have := HV8.out.2; have := HSI.out; omega
      clear hsn
      have hn4I : (n : Int) ≤ 4 := by omega
      have HFL : Hid (∀ L, L < n → (rs L).flatten.length ≤ 96) := Lib.hid fun L hL => HL.out.pl.flat hL
      clear hk hkl hm
      have HG1 := Lib.hid HL.out
      have HP2 := Lib.hid (HP1.out.below HG1.out.be HP1.out.lt)
      clear HL
      have z0 := HG1.out.z.cell 0
      have z1 := HG1.out.z.cell 1
      have z2 := HG1.out.z.cell 2
      have zlt := HG1.out.z.lt
      go_wp2_with fail
      have HL1 : Hid (LX W1 (wO.alloc (.cells #[.int .i64 V, .int .i64 S, .int .i64 T] 23)) zb #[.int .i64 V, .int .i64 S, .int .i64 T, .slice da dl dc, .slice oa ol oc] V S T n q p gb cap rb lb cr cl base gB m g ts vr rs gr) := Lib.hid (HG1.out.below ((Below.refl _ _).alloc (Nat.le_refl _) _))
      have HO2 : Hid (Blk (wO.alloc (.cells #[.int .i64 V, .int .i64 S, .int .i64 T] 23)) pb 29 #[.int .i64 kd, .int .i64 a, .int .i64 b, .int .i64 c, .int .i64 d]) := Lib.hid (HP2.out.alloc _)
      have HLB : Hid (Blk (wO.alloc (.cells #[.int .i64 V, .int .i64 S, .int .i64 T] 23)) wO.heap.size 23 #[.int .i64 V, .int .i64 S, .int .i64 T]) := Lib.hid (Blk.new _ _ _)
      clear z0 z1 z2 zlt HG1 HP2
      generalize wO.heap.size = lo at HLB ⊢
      generalize wO.alloc (.cells #[.int .i64 V, .int .i64 S, .int .i64 T] 23) = WL at HL1 HO2 HLB ⊢
      have HX : Hid (XO W1 WL pb lo kd a b c d zb #[.int .i64 V, .int .i64 S, .int .i64 T, .slice da dl dc, .slice oa ol oc] V S T n q p gb cap rb lb cr cl base gB g ts vr rs gr 280000) := Lib.hid ⟨(HL1.out.gx (k := 280000) (by have := HM1.out; omega)).xs, HO2.out, HLB.out⟩
      have Hd := Lib.hid HX.out.drew
      clear HX HL1 HO2 HLB
      rcases hx with ⟨h0, h1, h2, h3, hx⟩ | ⟨h0, h1, h2, h3, h4, hx⟩ | ⟨h0, h1, h2, h3, h4, h5, hx⟩ | ⟨h0, h1, h2, h3, h4, h5, h6, hx⟩
      · as_aux_lemma =>
          have g0 : ¬ a < 0 := by omega
          have gd0 : decide (a < 0) = false := decide_eq_false g0
          have g1 : ¬ lv V ≤ a := by omega
          have gd1 : decide (lv V ≤ a) = false := decide_eq_false g1
          have g2 : ¬ b < 0 := by omega
          have gd2 : decide (b < 0) = false := decide_eq_false g2
          have g3 : ¬ S ≤ b := by omega
          have gd3 : decide (S ≤ b) = false := decide_eq_false g3
          clear h0 h1 h2 h3
          have hrule := SB.rule pb lo q p rb lb n cr cl V S T kd a b c d
          obtain ⟨x0, x1, x2, x3, x4, l0, l1, l2, c0, c1, c2, c3, c4, c5, c6, c7, c8, c9, c10⟩ := SB.rule _ _ _ _ _ _ _ _ _ _ _ _ _ _ _ _ _ _ Hd.out.sb
          obtain ⟨olt, llt, qlt⟩ := Hd.out.lt
          refine wp_region_held_drew (S := (fun W => SB W pb lo q p rb lb n cr cl V S T kd a b c d)) (by kernel_rfl) ?_ (fun hHeld => ?_)
          · exact Hd.out.sb
          refine tkN (i := 0) (v := ?_) rfl ?_ ?_
          rotate_left
          · (intro w hSw; (try dsimp only at hSw); go_simp; try with_reducible rfl)
          try simp only [Act.put, sq1, sq2, sq3, sq4, sq5]
          refine tkN (i := 1) (v := ?_) rfl ?_ ?_
          rotate_left
          · (intro w hSw; (try dsimp only at hSw); go_simp; try with_reducible rfl)
          try simp only [Act.put, sq1, sq2, sq3, sq4, sq5, sq6]
          refine tkN (i := 2) (v := ?_) rfl ?_ ?_
          rotate_left
          · (intro w hSw; (try dsimp only at hSw); go_simp; try with_reducible rfl)
          try simp only [Act.put, sq1, sq2, sq3, sq4, sq5, sq6]
          refine tkN (i := 3) (v := ?_) rfl ?_ ?_
          rotate_left
          · (intro w hSw; (try dsimp only at hSw); go_simp; try with_reducible rfl)
          try simp only [Act.put, sq1, sq2, sq3, sq4, sq5, sq6]
          refine tkN (i := 4) (v := ?_) rfl ?_ ?_
          rotate_left
          · (intro w hSw; (try dsimp only at hSw); go_simp; try with_reducible rfl)
          try simp only [Act.put, sq1, sq2, sq3, sq4, sq5, sq6]
          refine tkN (i := 5) (v := ?_) rfl ?_ ?_
          rotate_left
          · (intro w hSw; (try dsimp only at hSw); go_simp; try with_reducible rfl)
          try simp only [Act.put, sq1, sq2, sq3, sq4, sq5, sq6]
          refine tkN (i := 6) (v := ?_) rfl ?_ ?_
          rotate_left
          · (intro w hSw; (try dsimp only at hSw); go_simp; try with_reducible rfl)
          try simp only [Act.put, sq1, sq2, sq3, sq4, sq5, sq6]
          refine wpAnyH_ready (rs := [7]) (by kernel_rfl) (by simp) ?_
          refine AllReadyH.cons rfl (fun K hK => ?_) ?_
          rotate_left
          · exact AllReadyH.nil
          go_simp
          (refine (levels_yes _ _ _ HR.out _).mono ?_; rintro e w2 ⟨rfl, B1⟩; have H1 := Lib.hid (Hd.out.below B1))
          go_wp2_with fail
          refine hK.out _ _ ?_ (fun hHeld => ?_)
          · (try dsimp only); (first | (with_reducible assumption) | (with_reducible exact H1.out.sb) | (with_reducible exact Hd.out.sb))
          clear hK K
          try simp only [Act.put, sq1, sq2, sq3, sq4, sq5, sq6]
          refine tkN (i := 8) (v := ?_) rfl ?_ ?_
          rotate_left
          · (intro w hSw; (try dsimp only at hSw); go_simp; try with_reducible rfl)
          try simp only [Act.put, sq1, sq2, sq3, sq4, sq5, sq6]
          refine tkN (i := 9) (v := ?_) rfl ?_ ?_
          rotate_left
          · (intro w hSw; (try dsimp only at hSw); go_simp; try with_reducible rfl)
          try simp only [Act.put, sq1, sq2, sq3, sq4, sq5, sq6]
          refine tkN (i := 10) (v := ?_) rfl ?_ ?_
          rotate_left
          · (intro w hSw; (try dsimp only at hSw); go_simp; try with_reducible rfl)
          try simp only [Act.put, sq1, sq2, sq3, sq4, sq5, sq6]
          refine tkN (i := 11) (v := ?_) rfl ?_ ?_
          rotate_left
          · (intro w hSw; (try dsimp only at hSw); go_simp; try with_reducible rfl)
          try simp only [Act.put, sq1, sq2, sq3, sq4, sq5, sq6]
          refine tkN (i := 12) (v := ?_) rfl ?_ ?_
          rotate_left
          · (intro w hSw; (try dsimp only at hSw); go_simp; try with_reducible rfl)
          try simp only [Act.put, sq1, sq2, sq3, sq4, sq5, sq6]
          refine tkN (i := 13) (v := ?_) rfl ?_ ?_
          rotate_left
          · (intro w hSw; (try dsimp only at hSw); go_simp; try with_reducible rfl)
          try simp only [Act.put, sq1, sq2, sq3, sq4, sq5, sq6]
          refine tkN (i := 14) (v := ?_) rfl ?_ ?_
          rotate_left
          · (intro w hSw; (try dsimp only at hSw); go_simp; try with_reducible rfl)
          try simp only [Act.put, sq1, sq2, sq3, sq4, sq5, sq6]
          refine tkN (i := 15) (v := ?_) rfl ?_ ?_
          rotate_left
          · (intro w hSw; (try dsimp only at hSw); go_simp; try with_reducible rfl)
          try simp only [Act.put, sq1, sq2, sq3, sq4, sq5, sq6]
          refine tkN (i := 16) (v := ?_) rfl ?_ ?_
          rotate_left
          · (intro w hSw; (try dsimp only at hSw); go_simp; try with_reducible rfl)
          try simp only [Act.put, sq1, sq2, sq3, sq4, sq5, sq6]
          refine tkN (i := 17) (v := ?_) rfl ?_ ?_
          rotate_left
          · (intro w hSw; (try dsimp only at hSw); go_simp; try with_reducible rfl)
          try simp only [Act.put, sq1, sq2, sq3, sq4, sq5, sq6]
          refine tkN (i := 18) (v := ?_) rfl ?_ ?_
          rotate_left
          · (intro w hSw; (try dsimp only at hSw); go_simp; try with_reducible rfl)
          try simp only [Act.put, sq1, sq2, sq3, sq4, sq5, sq6]
          refine tkN (i := 19) (v := ?_) rfl ?_ ?_
          rotate_left
          · (intro w hSw; (try dsimp only at hSw); go_simp; try with_reducible rfl)
          try simp only [Act.put, sq1, sq2, sq3, sq4, sq5, sq6]
          refine tkN (i := 20) (v := ?_) rfl ?_ ?_
          rotate_left
          · (intro w hSw; (try dsimp only at hSw); go_simp; try with_reducible rfl)
          try simp only [Act.put, sq1, sq2, sq3, sq4, sq5, sq6]
          refine tkN (i := 21) (v := ?_) rfl ?_ ?_
          rotate_left
          · (intro w hSw; (try dsimp only at hSw); go_simp; try with_reducible rfl)
          try simp only [Act.put, sq1, sq2, sq3, sq4, sq5, sq6]
          refine tkN (i := 22) (v := ?_) rfl ?_ ?_
          rotate_left
          · (intro w hSw; (try dsimp only at hSw); go_simp; try with_reducible rfl)
          try simp only [Act.put, sq1, sq2, sq3, sq4, sq5, sq6]
          refine tkN (i := 23) (v := ?_) rfl ?_ ?_
          rotate_left
          · (intro w hSw; (try dsimp only at hSw); go_simp; try with_reducible rfl)
          try simp only [Act.put, sq1, sq2, sq3, sq4, sq5, sq6]
          refine tkN (i := 24) (v := ?_) rfl ?_ ?_
          rotate_left
          · (intro w hSw; (try dsimp only at hSw); go_simp; try with_reducible rfl)
          try simp only [Act.put, sq1, sq2, sq3, sq4, sq5, sq6]
          refine tkN (i := 25) (v := ?_) rfl ?_ ?_
          rotate_left
          · (intro w hSw; (try dsimp only at hSw); go_simp; try with_reducible rfl)
          try simp only [Act.put, sq1, sq2, sq3, sq4, sq5, sq6]
          refine tkN (i := 26) (v := ?_) rfl ?_ ?_
          rotate_left
          · (intro w hSw; (try dsimp only at hSw); go_simp; try with_reducible rfl)
          try simp only [Act.put, sq1, sq2, sq3, sq4, sq5, sq6]
          refine tkN (i := 27) (v := ?_) rfl ?_ ?_
          rotate_left
          · (intro w hSw; (try dsimp only at hSw); go_simp; try with_reducible rfl)
          try simp only [Act.put, sq1, sq2, sq3, sq4, sq5, sq6]
          refine tkF (i := 28) rfl ?_
          try simp only [Act.put, sq1, sq2, sq3, sq4, sq5, sq6]
          refine tkF (i := 29) rfl ?_
          try simp only [Act.put, sq1, sq2, sq3, sq4, sq5, sq6]
          refine tkF (i := 30) rfl ?_
          try simp only [Act.put, sq1, sq2, sq3, sq4, sq5, sq6]
          refine tkF (i := 31) rfl ?_
          try simp only [Act.put, sq1, sq2, sq3, sq4, sq5, sq6]
          refine tkF (i := 32) rfl ?_
          try simp only [Act.put, sq1, sq2, sq3, sq4, sq5, sq6]
          refine tkN (i := 33) (v := ?_) rfl ?_ ?_
          rotate_left
          · (intro w hSw; (try dsimp only at hSw); go_simp; try with_reducible rfl)
          try simp only [Act.put, sq1, sq2, sq3, sq4, sq5, sq6]
          refine tkN (i := 34) (v := ?_) rfl ?_ ?_
          rotate_left
          · (intro w hSw; (try dsimp only at hSw); go_simp; try with_reducible rfl)
          try simp only [Act.put, sq1, sq2, sq3, sq4, sq5, sq6]
          refine tkF (i := 35) rfl ?_
          try simp only [Act.put, sq1, sq2, sq3, sq4, sq5, sq6]
          refine tkF (i := 36) rfl ?_
          try simp only [Act.put, sq1, sq2, sq3, sq4, sq5, sq6]
          refine tkF (i := 37) rfl ?_
          try simp only [Act.put, sq1, sq2, sq3, sq4, sq5, sq6]
          refine tkN (i := 38) (v := ?_) rfl ?_ ?_
          rotate_left
          · (intro w hSw; (try dsimp only at hSw); go_simp; try with_reducible rfl)
          try simp only [Act.put, sq1, sq2, sq3, sq4, sq5, sq6]
          refine tkN (i := 39) (v := ?_) rfl ?_ ?_
          rotate_left
          · (intro w hSw; (try dsimp only at hSw); go_simp; try with_reducible rfl)
          try simp only [Act.put, sq1, sq2, sq3, sq4, sq5, sq6]
          refine tkF (i := 40) rfl ?_
          try simp only [Act.put, sq1, sq2, sq3, sq4, sq5, sq6]
          refine tkF (i := 41) rfl ?_
          try simp only [Act.put, sq1, sq2, sq3, sq4, sq5, sq6]
          refine tkF (i := 42) rfl ?_
          try simp only [Act.put, sq1, sq2, sq3, sq4, sq5, sq6]
          refine tkF (i := 43) rfl ?_
          try simp only [Act.put, sq1, sq2, sq3, sq4, sq5, sq6]
          refine tkF (i := 44) rfl ?_
          try simp only [Act.put, sq1, sq2, sq3, sq4, sq5, sq6]
          refine tkN (i := 45) (v := ?_) rfl ?_ ?_
          rotate_left
          · (intro w hSw; (try dsimp only at hSw); go_simp; try with_reducible rfl)
          try simp only [Act.put, sq1, sq2, sq3, sq4, sq5, sq6]
          refine tkN (i := 46) (v := ?_) rfl ?_ ?_
          rotate_left
          · (intro w hSw; (try dsimp only at hSw); go_simp; try with_reducible rfl)
          try simp only [Act.put, sq1, sq2, sq3, sq4, sq5, sq6]
          refine tkF (i := 47) rfl ?_
          try simp only [Act.put, sq1, sq2, sq3, sq4, sq5, sq6]
          refine tkF (i := 48) rfl ?_
          try simp only [Act.put, sq1, sq2, sq3, sq4, sq5, sq6]
          refine tkF (i := 49) rfl ?_
          try simp only [Act.put, sq1, sq2, sq3, sq4, sq5, sq6]
          refine tkF (i := 50) rfl ?_
          try simp only [Act.put, sq1, sq2, sq3, sq4, sq5, sq6]
          refine tkF (i := 51) rfl ?_
          try simp only [Act.put, sq1, sq2, sq3, sq4, sq5, sq6]
          refine tkF (i := 52) rfl ?_
          try simp only [Act.put, sq1, sq2, sq3, sq4, sq5, sq6]
          refine tkF (i := 53) rfl ?_
          try simp only [Act.put, sq1, sq2, sq3, sq4, sq5, sq6]
          refine tkF (i := 54) rfl ?_
          try simp only [Act.put, sq1, sq2, sq3, sq4, sq5, sq6]
          refine tkF (i := 55) rfl ?_
          try simp only [Act.put, sq1, sq2, sq3, sq4, sq5, sq6]
          refine tkF (i := 56) rfl ?_
          try simp only [Act.put, sq1, sq2, sq3, sq4, sq5, sq6]
          refine tkF (i := 57) rfl ?_
          try simp only [Act.put, sq1, sq2, sq3, sq4, sq5, sq6]
          refine tkF (i := 58) rfl ?_
          try simp only [Act.put, sq1, sq2, sq3, sq4, sq5, sq6]
          refine tkF (i := 59) rfl ?_
          try simp only [Act.put, sq1, sq2, sq3, sq4, sq5, sq6]
          refine tkF (i := 60) rfl ?_
          try simp only [Act.put, sq1, sq2, sq3, sq4, sq5, sq6]
          refine tkN (i := 61) (v := ?_) rfl ?_ ?_
          rotate_left
          · (intro w hSw; (try dsimp only at hSw); go_simp; try with_reducible rfl)
          try simp only [Act.put, sq1, sq2, sq3, sq4, sq5, sq6]
          refine tkN (i := 62) (v := ?_) rfl ?_ ?_
          rotate_left
          · (intro w hSw; (try dsimp only at hSw); go_simp; try with_reducible rfl)
          try simp only [Act.put, sq1, sq2, sq3, sq4, sq5, sq6]
          refine tkF (i := 63) rfl ?_
          try simp only [Act.put, sq1, sq2, sq3, sq4, sq5, sq6]
          refine tkF (i := 64) rfl ?_
          try simp only [Act.put, sq1, sq2, sq3, sq4, sq5, sq6]
          refine tkF (i := 65) rfl ?_
          try simp only [Act.put, sq1, sq2, sq3, sq4, sq5, sq6]
          refine tkF (i := 66) rfl ?_
          try simp only [Act.put, sq1, sq2, sq3, sq4, sq5, sq6]
          refine tkF (i := 67) rfl ?_
          try simp only [Act.put, sq1, sq2, sq3, sq4, sq5, sq6]
          refine tkF (i := 68) rfl ?_
          try simp only [Act.put, sq1, sq2, sq3, sq4, sq5, sq6]
          refine tkF (i := 69) rfl ?_
          try simp only [Act.put, sq1, sq2, sq3, sq4, sq5, sq6]
          refine tkF (i := 70) rfl ?_
          try simp only [Act.put, sq1, sq2, sq3, sq4, sq5, sq6]
          refine tkF (i := 71) rfl ?_
          try simp only [Act.put, sq1, sq2, sq3, sq4, sq5, sq6]
          refine tkF (i := 72) rfl ?_
          try simp only [Act.put, sq1, sq2, sq3, sq4, sq5, sq6]
          refine tkF (i := 73) rfl ?_
          try simp only [Act.put, sq1, sq2, sq3, sq4, sq5, sq6]
          refine tkN (i := 74) (v := ?_) rfl ?_ ?_
          rotate_left
          · (intro w hSw; (try dsimp only at hSw); go_simp; try with_reducible rfl)
          try simp only [Act.put, sq1, sq2, sq3, sq4, sq5, sq6]
          refine wpAnyH_done (by kernel_rfl) ?_ _
          clear hrule x0 x1 x2 x3 x4 l0 l1 l2 c0 c1 c2 c3 c4 c5 c6 c7 c8 c9 c10 olt llt qlt
          go_wp2_with fail
          refine (awake_any10 _).mono ?_; rintro e w9 ⟨rfl, hb9⟩
          have HBE := Lib.hid (HB1.out.trans (((H1.out.below hb9).x.be).mono HB1.out.size))
          go_wp2_with fail
          go_ret
          exact ⟨rfl, HBE.out⟩
      · as_aux_lemma =>
          have g0 : ¬ a < 0 := by omega
          have gd0 : decide (a < 0) = false := decide_eq_false g0
          have g1 : ¬ lv V ≤ a := by omega
          have gd1 : decide (lv V ≤ a) = false := decide_eq_false g1
          have g2 : ¬ b < 0 := by omega
          have gd2 : decide (b < 0) = false := decide_eq_false g2
          have g3 : ¬ S ≤ b := by omega
          have gd3 : decide (S ≤ b) = false := decide_eq_false g3
          have g4 : ¬ c < 0 := by omega
          have gd4 : decide (c < 0) = false := decide_eq_false g4
          clear h0 h1 h2 h3 h4
          have hrule := SB.rule pb lo q p rb lb n cr cl V S T kd a b c d
          obtain ⟨x0, x1, x2, x3, x4, l0, l1, l2, c0, c1, c2, c3, c4, c5, c6, c7, c8, c9, c10⟩ := SB.rule _ _ _ _ _ _ _ _ _ _ _ _ _ _ _ _ _ _ Hd.out.sb
          obtain ⟨olt, llt, qlt⟩ := Hd.out.lt
          refine wp_region_held_drew (S := (fun W => SB W pb lo q p rb lb n cr cl V S T kd a b c d)) (by kernel_rfl) ?_ (fun hHeld => ?_)
          · exact Hd.out.sb
          refine tkN (i := 0) (v := ?_) rfl ?_ ?_
          rotate_left
          · (intro w hSw; (try dsimp only at hSw); go_simp; try with_reducible rfl)
          try simp only [Act.put, sq1, sq2, sq3, sq4, sq5]
          refine tkN (i := 1) (v := ?_) rfl ?_ ?_
          rotate_left
          · (intro w hSw; (try dsimp only at hSw); go_simp; try with_reducible rfl)
          try simp only [Act.put, sq1, sq2, sq3, sq4, sq5, sq6]
          refine tkN (i := 2) (v := ?_) rfl ?_ ?_
          rotate_left
          · (intro w hSw; (try dsimp only at hSw); go_simp; try with_reducible rfl)
          try simp only [Act.put, sq1, sq2, sq3, sq4, sq5, sq6]
          refine tkN (i := 3) (v := ?_) rfl ?_ ?_
          rotate_left
          · (intro w hSw; (try dsimp only at hSw); go_simp; try with_reducible rfl)
          try simp only [Act.put, sq1, sq2, sq3, sq4, sq5, sq6]
          refine tkN (i := 4) (v := ?_) rfl ?_ ?_
          rotate_left
          · (intro w hSw; (try dsimp only at hSw); go_simp; try with_reducible rfl)
          try simp only [Act.put, sq1, sq2, sq3, sq4, sq5, sq6]
          refine tkN (i := 5) (v := ?_) rfl ?_ ?_
          rotate_left
          · (intro w hSw; (try dsimp only at hSw); go_simp; try with_reducible rfl)
          try simp only [Act.put, sq1, sq2, sq3, sq4, sq5, sq6]
          refine tkN (i := 6) (v := ?_) rfl ?_ ?_
          rotate_left
          · (intro w hSw; (try dsimp only at hSw); go_simp; try with_reducible rfl)
          try simp only [Act.put, sq1, sq2, sq3, sq4, sq5, sq6]
          refine wpAnyH_ready (rs := [7]) (by kernel_rfl) (by simp) ?_
          refine AllReadyH.cons rfl (fun K hK => ?_) ?_
          rotate_left
          · exact AllReadyH.nil
          go_simp
          (refine (levels_yes _ _ _ HR.out _).mono ?_; rintro e w2 ⟨rfl, B1⟩; have H1 := Lib.hid (Hd.out.below B1))
          go_wp2_with fail
          refine hK.out _ _ ?_ (fun hHeld => ?_)
          · (try dsimp only); (first | (with_reducible assumption) | (with_reducible exact H1.out.sb) | (with_reducible exact Hd.out.sb))
          clear hK K
          try simp only [Act.put, sq1, sq2, sq3, sq4, sq5, sq6]
          refine tkN (i := 8) (v := ?_) rfl ?_ ?_
          rotate_left
          · (intro w hSw; (try dsimp only at hSw); go_simp; try with_reducible rfl)
          try simp only [Act.put, sq1, sq2, sq3, sq4, sq5, sq6]
          refine tkN (i := 9) (v := ?_) rfl ?_ ?_
          rotate_left
          · (intro w hSw; (try dsimp only at hSw); go_simp; try with_reducible rfl)
          try simp only [Act.put, sq1, sq2, sq3, sq4, sq5, sq6]
          refine tkN (i := 10) (v := ?_) rfl ?_ ?_
          rotate_left
          · (intro w hSw; (try dsimp only at hSw); go_simp; try with_reducible rfl)
          try simp only [Act.put, sq1, sq2, sq3, sq4, sq5, sq6]
          refine tkN (i := 11) (v := ?_) rfl ?_ ?_
          rotate_left
          · (intro w hSw; (try dsimp only at hSw); go_simp; try with_reducible rfl)
          try simp only [Act.put, sq1, sq2, sq3, sq4, sq5, sq6]
          refine tkN (i := 12) (v := ?_) rfl ?_ ?_
          rotate_left
          · (intro w hSw; (try dsimp only at hSw); go_simp; try with_reducible rfl)
          try simp only [Act.put, sq1, sq2, sq3, sq4, sq5, sq6]
          refine tkN (i := 13) (v := ?_) rfl ?_ ?_
          rotate_left
          · (intro w hSw; (try dsimp only at hSw); go_simp; try with_reducible rfl)
          try simp only [Act.put, sq1, sq2, sq3, sq4, sq5, sq6]
          refine tkN (i := 14) (v := ?_) rfl ?_ ?_
          rotate_left
          · (intro w hSw; (try dsimp only at hSw); go_simp; try with_reducible rfl)
          try simp only [Act.put, sq1, sq2, sq3, sq4, sq5, sq6]
          refine tkN (i := 15) (v := ?_) rfl ?_ ?_
          rotate_left
          · (intro w hSw; (try dsimp only at hSw); go_simp; try with_reducible rfl)
          try simp only [Act.put, sq1, sq2, sq3, sq4, sq5, sq6]
          refine tkN (i := 16) (v := ?_) rfl ?_ ?_
          rotate_left
          · (intro w hSw; (try dsimp only at hSw); go_simp; try with_reducible rfl)
          try simp only [Act.put, sq1, sq2, sq3, sq4, sq5, sq6]
          refine tkN (i := 17) (v := ?_) rfl ?_ ?_
          rotate_left
          · (intro w hSw; (try dsimp only at hSw); go_simp; try with_reducible rfl)
          try simp only [Act.put, sq1, sq2, sq3, sq4, sq5, sq6]
          refine tkN (i := 18) (v := ?_) rfl ?_ ?_
          rotate_left
          · (intro w hSw; (try dsimp only at hSw); go_simp; try with_reducible rfl)
          try simp only [Act.put, sq1, sq2, sq3, sq4, sq5, sq6]
          refine tkN (i := 19) (v := ?_) rfl ?_ ?_
          rotate_left
          · (intro w hSw; (try dsimp only at hSw); go_simp; try with_reducible rfl)
          try simp only [Act.put, sq1, sq2, sq3, sq4, sq5, sq6]
          refine tkN (i := 20) (v := ?_) rfl ?_ ?_
          rotate_left
          · (intro w hSw; (try dsimp only at hSw); go_simp; try with_reducible rfl)
          try simp only [Act.put, sq1, sq2, sq3, sq4, sq5, sq6]
          refine tkN (i := 21) (v := ?_) rfl ?_ ?_
          rotate_left
          · (intro w hSw; (try dsimp only at hSw); go_simp; try with_reducible rfl)
          try simp only [Act.put, sq1, sq2, sq3, sq4, sq5, sq6]
          refine tkN (i := 22) (v := ?_) rfl ?_ ?_
          rotate_left
          · (intro w hSw; (try dsimp only at hSw); go_simp; try with_reducible rfl)
          try simp only [Act.put, sq1, sq2, sq3, sq4, sq5, sq6]
          refine tkN (i := 23) (v := ?_) rfl ?_ ?_
          rotate_left
          · (intro w hSw; (try dsimp only at hSw); go_simp; try with_reducible rfl)
          try simp only [Act.put, sq1, sq2, sq3, sq4, sq5, sq6]
          refine tkN (i := 24) (v := ?_) rfl ?_ ?_
          rotate_left
          · (intro w hSw; (try dsimp only at hSw); go_simp; try with_reducible rfl)
          try simp only [Act.put, sq1, sq2, sq3, sq4, sq5, sq6]
          refine tkN (i := 25) (v := ?_) rfl ?_ ?_
          rotate_left
          · (intro w hSw; (try dsimp only at hSw); go_simp; try with_reducible rfl)
          try simp only [Act.put, sq1, sq2, sq3, sq4, sq5, sq6]
          refine tkN (i := 26) (v := ?_) rfl ?_ ?_
          rotate_left
          · (intro w hSw; (try dsimp only at hSw); go_simp; try with_reducible rfl)
          try simp only [Act.put, sq1, sq2, sq3, sq4, sq5, sq6]
          refine tkN (i := 27) (v := ?_) rfl ?_ ?_
          rotate_left
          · (intro w hSw; (try dsimp only at hSw); go_simp; try with_reducible rfl)
          try simp only [Act.put, sq1, sq2, sq3, sq4, sq5, sq6]
          refine tkN (i := 28) (v := ?_) rfl ?_ ?_
          rotate_left
          · (intro w hSw; (try dsimp only at hSw); go_simp; try with_reducible rfl)
          try simp only [Act.put, sq1, sq2, sq3, sq4, sq5, sq6]
          refine tkN (i := 29) (v := ?_) rfl ?_ ?_
          rotate_left
          · (intro w hSw; (try dsimp only at hSw); go_simp; try with_reducible rfl)
          try simp only [Act.put, sq1, sq2, sq3, sq4, sq5, sq6]
          refine tkN (i := 30) (v := ?_) rfl ?_ ?_
          rotate_left
          · (intro w hSw; (try dsimp only at hSw); go_simp; try with_reducible rfl)
          try simp only [Act.put, sq1, sq2, sq3, sq4, sq5, sq6]
          refine tkN (i := 31) (v := ?_) rfl ?_ ?_
          rotate_left
          · (intro w hSw; (try dsimp only at hSw); go_simp; try with_reducible rfl)
          try simp only [Act.put, sq1, sq2, sq3, sq4, sq5, sq6]
          refine tkN (i := 32) (v := ?_) rfl ?_ ?_
          rotate_left
          · (intro w hSw; (try dsimp only at hSw); go_simp; try with_reducible rfl)
          try simp only [Act.put, sq1, sq2, sq3, sq4, sq5, sq6]
          refine tkN (i := 33) (v := ?_) rfl ?_ ?_
          rotate_left
          · (intro w hSw; (try dsimp only at hSw); go_simp; try with_reducible rfl)
          try simp only [Act.put, sq1, sq2, sq3, sq4, sq5, sq6]
          refine tkN (i := 34) (v := ?_) rfl ?_ ?_
          rotate_left
          · (intro w hSw; (try dsimp only at hSw); go_simp; try with_reducible rfl)
          try simp only [Act.put, sq1, sq2, sq3, sq4, sq5, sq6]
          refine tkF (i := 35) rfl ?_
          try simp only [Act.put, sq1, sq2, sq3, sq4, sq5, sq6]
          refine tkF (i := 36) rfl ?_
          try simp only [Act.put, sq1, sq2, sq3, sq4, sq5, sq6]
          refine tkF (i := 37) rfl ?_
          try simp only [Act.put, sq1, sq2, sq3, sq4, sq5, sq6]
          refine tkN (i := 38) (v := ?_) rfl ?_ ?_
          rotate_left
          · (intro w hSw; (try dsimp only at hSw); go_simp; try with_reducible rfl)
          try simp only [Act.put, sq1, sq2, sq3, sq4, sq5, sq6]
          refine tkN (i := 39) (v := ?_) rfl ?_ ?_
          rotate_left
          · (intro w hSw; (try dsimp only at hSw); go_simp; try with_reducible rfl)
          try simp only [Act.put, sq1, sq2, sq3, sq4, sq5, sq6]
          refine tkF (i := 40) rfl ?_
          try simp only [Act.put, sq1, sq2, sq3, sq4, sq5, sq6]
          refine tkF (i := 41) rfl ?_
          try simp only [Act.put, sq1, sq2, sq3, sq4, sq5, sq6]
          refine tkF (i := 42) rfl ?_
          try simp only [Act.put, sq1, sq2, sq3, sq4, sq5, sq6]
          refine tkF (i := 43) rfl ?_
          try simp only [Act.put, sq1, sq2, sq3, sq4, sq5, sq6]
          refine tkF (i := 44) rfl ?_
          try simp only [Act.put, sq1, sq2, sq3, sq4, sq5, sq6]
          refine tkN (i := 45) (v := ?_) rfl ?_ ?_
          rotate_left
          · (intro w hSw; (try dsimp only at hSw); go_simp; try with_reducible rfl)
          try simp only [Act.put, sq1, sq2, sq3, sq4, sq5, sq6]
          refine tkN (i := 46) (v := ?_) rfl ?_ ?_
          rotate_left
          · (intro w hSw; (try dsimp only at hSw); go_simp; try with_reducible rfl)
          try simp only [Act.put, sq1, sq2, sq3, sq4, sq5, sq6]
          refine tkF (i := 47) rfl ?_
          try simp only [Act.put, sq1, sq2, sq3, sq4, sq5, sq6]
          refine tkF (i := 48) rfl ?_
          try simp only [Act.put, sq1, sq2, sq3, sq4, sq5, sq6]
          refine tkF (i := 49) rfl ?_
          try simp only [Act.put, sq1, sq2, sq3, sq4, sq5, sq6]
          refine tkF (i := 50) rfl ?_
          try simp only [Act.put, sq1, sq2, sq3, sq4, sq5, sq6]
          refine tkF (i := 51) rfl ?_
          try simp only [Act.put, sq1, sq2, sq3, sq4, sq5, sq6]
          refine tkF (i := 52) rfl ?_
          try simp only [Act.put, sq1, sq2, sq3, sq4, sq5, sq6]
          refine tkF (i := 53) rfl ?_
          try simp only [Act.put, sq1, sq2, sq3, sq4, sq5, sq6]
          refine tkF (i := 54) rfl ?_
          try simp only [Act.put, sq1, sq2, sq3, sq4, sq5, sq6]
          refine tkF (i := 55) rfl ?_
          try simp only [Act.put, sq1, sq2, sq3, sq4, sq5, sq6]
          refine tkF (i := 56) rfl ?_
          try simp only [Act.put, sq1, sq2, sq3, sq4, sq5, sq6]
          refine tkF (i := 57) rfl ?_
          try simp only [Act.put, sq1, sq2, sq3, sq4, sq5, sq6]
          refine tkF (i := 58) rfl ?_
          try simp only [Act.put, sq1, sq2, sq3, sq4, sq5, sq6]
          refine tkF (i := 59) rfl ?_
          try simp only [Act.put, sq1, sq2, sq3, sq4, sq5, sq6]
          refine tkF (i := 60) rfl ?_
          try simp only [Act.put, sq1, sq2, sq3, sq4, sq5, sq6]
          refine tkN (i := 61) (v := ?_) rfl ?_ ?_
          rotate_left
          · (intro w hSw; (try dsimp only at hSw); go_simp; try with_reducible rfl)
          try simp only [Act.put, sq1, sq2, sq3, sq4, sq5, sq6]
          refine tkN (i := 62) (v := ?_) rfl ?_ ?_
          rotate_left
          · (intro w hSw; (try dsimp only at hSw); go_simp; try with_reducible rfl)
          try simp only [Act.put, sq1, sq2, sq3, sq4, sq5, sq6]
          refine tkF (i := 63) rfl ?_
          try simp only [Act.put, sq1, sq2, sq3, sq4, sq5, sq6]
          refine tkF (i := 64) rfl ?_
          try simp only [Act.put, sq1, sq2, sq3, sq4, sq5, sq6]
          refine tkF (i := 65) rfl ?_
          try simp only [Act.put, sq1, sq2, sq3, sq4, sq5, sq6]
          refine tkF (i := 66) rfl ?_
          try simp only [Act.put, sq1, sq2, sq3, sq4, sq5, sq6]
          refine tkF (i := 67) rfl ?_
          try simp only [Act.put, sq1, sq2, sq3, sq4, sq5, sq6]
          refine tkF (i := 68) rfl ?_
          try simp only [Act.put, sq1, sq2, sq3, sq4, sq5, sq6]
          refine tkF (i := 69) rfl ?_
          try simp only [Act.put, sq1, sq2, sq3, sq4, sq5, sq6]
          refine tkF (i := 70) rfl ?_
          try simp only [Act.put, sq1, sq2, sq3, sq4, sq5, sq6]
          refine tkF (i := 71) rfl ?_
          try simp only [Act.put, sq1, sq2, sq3, sq4, sq5, sq6]
          refine tkF (i := 72) rfl ?_
          try simp only [Act.put, sq1, sq2, sq3, sq4, sq5, sq6]
          refine tkF (i := 73) rfl ?_
          try simp only [Act.put, sq1, sq2, sq3, sq4, sq5, sq6]
          refine tkN (i := 74) (v := ?_) rfl ?_ ?_
          rotate_left
          · (intro w hSw; (try dsimp only at hSw); go_simp; try with_reducible rfl)
          try simp only [Act.put, sq1, sq2, sq3, sq4, sq5, sq6]
          refine wpAnyH_done (by kernel_rfl) ?_ _
          clear hrule x0 x1 x2 x3 x4 l0 l1 l2 c0 c1 c2 c3 c4 c5 c6 c7 c8 c9 c10 olt llt qlt
          go_wp2_with fail
          refine (awake_any10 _).mono ?_; rintro e w9 ⟨rfl, hb9⟩
          have HBE := Lib.hid (HB1.out.trans (((H1.out.below hb9).x.be).mono HB1.out.size))
          go_wp2_with fail
          go_ret
          exact ⟨rfl, HBE.out⟩
      · as_aux_lemma =>
          have g0 : ¬ a < 0 := by omega
          have gd0 : decide (a < 0) = false := decide_eq_false g0
          have g1 : ¬ lv V ≤ a := by omega
          have gd1 : decide (lv V ≤ a) = false := decide_eq_false g1
          have g2 : ¬ b < 0 := by omega
          have gd2 : decide (b < 0) = false := decide_eq_false g2
          have g3 : ¬ S ≤ b := by omega
          have gd3 : decide (S ≤ b) = false := decide_eq_false g3
          have g4 : ¬ c < 0 := by omega
          have gd4 : decide (c < 0) = false := decide_eq_false g4
          have g5 : ¬ V ≤ c := by omega
          have gd5 : decide (V ≤ c) = false := decide_eq_false g5
          clear h0 h1 h2 h3 h4 h5
          have hrule := SB.rule pb lo q p rb lb n cr cl V S T kd a b c d
          obtain ⟨x0, x1, x2, x3, x4, l0, l1, l2, c0, c1, c2, c3, c4, c5, c6, c7, c8, c9, c10⟩ := SB.rule _ _ _ _ _ _ _ _ _ _ _ _ _ _ _ _ _ _ Hd.out.sb
          obtain ⟨olt, llt, qlt⟩ := Hd.out.lt
          refine wp_region_held_drew (S := (fun W => SB W pb lo q p rb lb n cr cl V S T kd a b c d)) (by kernel_rfl) ?_ (fun hHeld => ?_)
          · exact Hd.out.sb
          refine tkN (i := 0) (v := ?_) rfl ?_ ?_
          rotate_left
          · (intro w hSw; (try dsimp only at hSw); go_simp; try with_reducible rfl)
          try simp only [Act.put, sq1, sq2, sq3, sq4, sq5]
          refine tkN (i := 1) (v := ?_) rfl ?_ ?_
          rotate_left
          · (intro w hSw; (try dsimp only at hSw); go_simp; try with_reducible rfl)
          try simp only [Act.put, sq1, sq2, sq3, sq4, sq5, sq6]
          refine tkN (i := 2) (v := ?_) rfl ?_ ?_
          rotate_left
          · (intro w hSw; (try dsimp only at hSw); go_simp; try with_reducible rfl)
          try simp only [Act.put, sq1, sq2, sq3, sq4, sq5, sq6]
          refine tkN (i := 3) (v := ?_) rfl ?_ ?_
          rotate_left
          · (intro w hSw; (try dsimp only at hSw); go_simp; try with_reducible rfl)
          try simp only [Act.put, sq1, sq2, sq3, sq4, sq5, sq6]
          refine tkN (i := 4) (v := ?_) rfl ?_ ?_
          rotate_left
          · (intro w hSw; (try dsimp only at hSw); go_simp; try with_reducible rfl)
          try simp only [Act.put, sq1, sq2, sq3, sq4, sq5, sq6]
          refine tkN (i := 5) (v := ?_) rfl ?_ ?_
          rotate_left
          · (intro w hSw; (try dsimp only at hSw); go_simp; try with_reducible rfl)
          try simp only [Act.put, sq1, sq2, sq3, sq4, sq5, sq6]
          refine tkN (i := 6) (v := ?_) rfl ?_ ?_
          rotate_left
          · (intro w hSw; (try dsimp only at hSw); go_simp; try with_reducible rfl)
          try simp only [Act.put, sq1, sq2, sq3, sq4, sq5, sq6]
          refine wpAnyH_ready (rs := [7]) (by kernel_rfl) (by simp) ?_
          refine AllReadyH.cons rfl (fun K hK => ?_) ?_
          rotate_left
          · exact AllReadyH.nil
          go_simp
          (refine (levels_yes _ _ _ HR.out _).mono ?_; rintro e w2 ⟨rfl, B1⟩; have H1 := Lib.hid (Hd.out.below B1))
          go_wp2_with fail
          refine hK.out _ _ ?_ (fun hHeld => ?_)
          · (try dsimp only); (first | (with_reducible assumption) | (with_reducible exact H1.out.sb) | (with_reducible exact Hd.out.sb))
          clear hK K
          try simp only [Act.put, sq1, sq2, sq3, sq4, sq5, sq6]
          refine tkN (i := 8) (v := ?_) rfl ?_ ?_
          rotate_left
          · (intro w hSw; (try dsimp only at hSw); go_simp; try with_reducible rfl)
          try simp only [Act.put, sq1, sq2, sq3, sq4, sq5, sq6]
          refine tkN (i := 9) (v := ?_) rfl ?_ ?_
          rotate_left
          · (intro w hSw; (try dsimp only at hSw); go_simp; try with_reducible rfl)
          try simp only [Act.put, sq1, sq2, sq3, sq4, sq5, sq6]
          refine tkN (i := 10) (v := ?_) rfl ?_ ?_
          rotate_left
          · (intro w hSw; (try dsimp only at hSw); go_simp; try with_reducible rfl)
          try simp only [Act.put, sq1, sq2, sq3, sq4, sq5, sq6]
          refine tkN (i := 11) (v := ?_) rfl ?_ ?_
          rotate_left
          · (intro w hSw; (try dsimp only at hSw); go_simp; try with_reducible rfl)
          try simp only [Act.put, sq1, sq2, sq3, sq4, sq5, sq6]
          refine tkN (i := 12) (v := ?_) rfl ?_ ?_
          rotate_left
          · (intro w hSw; (try dsimp only at hSw); go_simp; try with_reducible rfl)
          try simp only [Act.put, sq1, sq2, sq3, sq4, sq5, sq6]
          refine tkN (i := 13) (v := ?_) rfl ?_ ?_
          rotate_left
          · (intro w hSw; (try dsimp only at hSw); go_simp; try with_reducible rfl)
          try simp only [Act.put, sq1, sq2, sq3, sq4, sq5, sq6]
          refine tkN (i := 14) (v := ?_) rfl ?_ ?_
          rotate_left
          · (intro w hSw; (try dsimp only at hSw); go_simp; try with_reducible rfl)
          try simp only [Act.put, sq1, sq2, sq3, sq4, sq5, sq6]
          refine tkN (i := 15) (v := ?_) rfl ?_ ?_
          rotate_left
          · (intro w hSw; (try dsimp only at hSw); go_simp; try with_reducible rfl)
          try simp only [Act.put, sq1, sq2, sq3, sq4, sq5, sq6]
          refine tkN (i := 16) (v := ?_) rfl ?_ ?_
          rotate_left
          · (intro w hSw; (try dsimp only at hSw); go_simp; try with_reducible rfl)
          try simp only [Act.put, sq1, sq2, sq3, sq4, sq5, sq6]
          refine tkN (i := 17) (v := ?_) rfl ?_ ?_
          rotate_left
          · (intro w hSw; (try dsimp only at hSw); go_simp; try with_reducible rfl)
          try simp only [Act.put, sq1, sq2, sq3, sq4, sq5, sq6]
          refine tkN (i := 18) (v := ?_) rfl ?_ ?_
          rotate_left
          · (intro w hSw; (try dsimp only at hSw); go_simp; try with_reducible rfl)
          try simp only [Act.put, sq1, sq2, sq3, sq4, sq5, sq6]
          refine tkN (i := 19) (v := ?_) rfl ?_ ?_
          rotate_left
          · (intro w hSw; (try dsimp only at hSw); go_simp; try with_reducible rfl)
          try simp only [Act.put, sq1, sq2, sq3, sq4, sq5, sq6]
          refine tkN (i := 20) (v := ?_) rfl ?_ ?_
          rotate_left
          · (intro w hSw; (try dsimp only at hSw); go_simp; try with_reducible rfl)
          try simp only [Act.put, sq1, sq2, sq3, sq4, sq5, sq6]
          refine tkN (i := 21) (v := ?_) rfl ?_ ?_
          rotate_left
          · (intro w hSw; (try dsimp only at hSw); go_simp; try with_reducible rfl)
          try simp only [Act.put, sq1, sq2, sq3, sq4, sq5, sq6]
          refine tkN (i := 22) (v := ?_) rfl ?_ ?_
          rotate_left
          · (intro w hSw; (try dsimp only at hSw); go_simp; try with_reducible rfl)
          try simp only [Act.put, sq1, sq2, sq3, sq4, sq5, sq6]
          refine tkN (i := 23) (v := ?_) rfl ?_ ?_
          rotate_left
          · (intro w hSw; (try dsimp only at hSw); go_simp; try with_reducible rfl)
          try simp only [Act.put, sq1, sq2, sq3, sq4, sq5, sq6]
          refine tkN (i := 24) (v := ?_) rfl ?_ ?_
          rotate_left
          · (intro w hSw; (try dsimp only at hSw); go_simp; try with_reducible rfl)
          try simp only [Act.put, sq1, sq2, sq3, sq4, sq5, sq6]
          refine tkN (i := 25) (v := ?_) rfl ?_ ?_
          rotate_left
          · (intro w hSw; (try dsimp only at hSw); go_simp; try with_reducible rfl)
          try simp only [Act.put, sq1, sq2, sq3, sq4, sq5, sq6]
          refine tkN (i := 26) (v := ?_) rfl ?_ ?_
          rotate_left
          · (intro w hSw; (try dsimp only at hSw); go_simp; try with_reducible rfl)
          try simp only [Act.put, sq1, sq2, sq3, sq4, sq5, sq6]
          refine tkN (i := 27) (v := ?_) rfl ?_ ?_
          rotate_left
          · (intro w hSw; (try dsimp only at hSw); go_simp; try with_reducible rfl)
          try simp only [Act.put, sq1, sq2, sq3, sq4, sq5, sq6]
          refine tkN (i := 28) (v := ?_) rfl ?_ ?_
          rotate_left
          · (intro w hSw; (try dsimp only at hSw); go_simp; try with_reducible rfl)
          try simp only [Act.put, sq1, sq2, sq3, sq4, sq5, sq6]
          refine tkN (i := 29) (v := ?_) rfl ?_ ?_
          rotate_left
          · (intro w hSw; (try dsimp only at hSw); go_simp; try with_reducible rfl)
          try simp only [Act.put, sq1, sq2, sq3, sq4, sq5, sq6]
          refine tkN (i := 30) (v := ?_) rfl ?_ ?_
          rotate_left
          · (intro w hSw; (try dsimp only at hSw); go_simp; try with_reducible rfl)
          try simp only [Act.put, sq1, sq2, sq3, sq4, sq5, sq6]
          refine tkN (i := 31) (v := ?_) rfl ?_ ?_
          rotate_left
          · (intro w hSw; (try dsimp only at hSw); go_simp; try with_reducible rfl)
          try simp only [Act.put, sq1, sq2, sq3, sq4, sq5, sq6]
          refine tkN (i := 32) (v := ?_) rfl ?_ ?_
          rotate_left
          · (intro w hSw; (try dsimp only at hSw); go_simp; try with_reducible rfl)
          try simp only [Act.put, sq1, sq2, sq3, sq4, sq5, sq6]
          refine tkN (i := 33) (v := ?_) rfl ?_ ?_
          rotate_left
          · (intro w hSw; (try dsimp only at hSw); go_simp; try with_reducible rfl)
          try simp only [Act.put, sq1, sq2, sq3, sq4, sq5, sq6]
          refine tkN (i := 34) (v := ?_) rfl ?_ ?_
          rotate_left
          · (intro w hSw; (try dsimp only at hSw); go_simp; try with_reducible rfl)
          try simp only [Act.put, sq1, sq2, sq3, sq4, sq5, sq6]
          refine tkN (i := 35) (v := ?_) rfl ?_ ?_
          rotate_left
          · (intro w hSw; (try dsimp only at hSw); go_simp; try with_reducible rfl)
          try simp only [Act.put, sq1, sq2, sq3, sq4, sq5, sq6]
          refine tkN (i := 36) (v := ?_) rfl ?_ ?_
          rotate_left
          · (intro w hSw; (try dsimp only at hSw); go_simp; try with_reducible rfl)
          try simp only [Act.put, sq1, sq2, sq3, sq4, sq5, sq6]
          refine tkN (i := 37) (v := ?_) rfl ?_ ?_
          rotate_left
          · (intro w hSw; (try dsimp only at hSw); go_simp; try with_reducible rfl)
          try simp only [Act.put, sq1, sq2, sq3, sq4, sq5, sq6]
          refine tkN (i := 38) (v := ?_) rfl ?_ ?_
          rotate_left
          · (intro w hSw; (try dsimp only at hSw); go_simp; try with_reducible rfl)
          try simp only [Act.put, sq1, sq2, sq3, sq4, sq5, sq6]
          refine tkN (i := 39) (v := ?_) rfl ?_ ?_
          rotate_left
          · (intro w hSw; (try dsimp only at hSw); go_simp; try with_reducible rfl)
          try simp only [Act.put, sq1, sq2, sq3, sq4, sq5, sq6]
          refine tkF (i := 40) rfl ?_
          try simp only [Act.put, sq1, sq2, sq3, sq4, sq5, sq6]
          refine tkF (i := 41) rfl ?_
          try simp only [Act.put, sq1, sq2, sq3, sq4, sq5, sq6]
          refine tkF (i := 42) rfl ?_
          try simp only [Act.put, sq1, sq2, sq3, sq4, sq5, sq6]
          refine tkF (i := 43) rfl ?_
          try simp only [Act.put, sq1, sq2, sq3, sq4, sq5, sq6]
          refine tkF (i := 44) rfl ?_
          try simp only [Act.put, sq1, sq2, sq3, sq4, sq5, sq6]
          refine tkN (i := 45) (v := ?_) rfl ?_ ?_
          rotate_left
          · (intro w hSw; (try dsimp only at hSw); go_simp; try with_reducible rfl)
          try simp only [Act.put, sq1, sq2, sq3, sq4, sq5, sq6]
          refine tkN (i := 46) (v := ?_) rfl ?_ ?_
          rotate_left
          · (intro w hSw; (try dsimp only at hSw); go_simp; try with_reducible rfl)
          try simp only [Act.put, sq1, sq2, sq3, sq4, sq5, sq6]
          refine tkF (i := 47) rfl ?_
          try simp only [Act.put, sq1, sq2, sq3, sq4, sq5, sq6]
          refine tkF (i := 48) rfl ?_
          try simp only [Act.put, sq1, sq2, sq3, sq4, sq5, sq6]
          refine tkF (i := 49) rfl ?_
          try simp only [Act.put, sq1, sq2, sq3, sq4, sq5, sq6]
          refine tkF (i := 50) rfl ?_
          try simp only [Act.put, sq1, sq2, sq3, sq4, sq5, sq6]
          refine tkF (i := 51) rfl ?_
          try simp only [Act.put, sq1, sq2, sq3, sq4, sq5, sq6]
          refine tkF (i := 52) rfl ?_
          try simp only [Act.put, sq1, sq2, sq3, sq4, sq5, sq6]
          refine tkF (i := 53) rfl ?_
          try simp only [Act.put, sq1, sq2, sq3, sq4, sq5, sq6]
          refine tkF (i := 54) rfl ?_
          try simp only [Act.put, sq1, sq2, sq3, sq4, sq5, sq6]
          refine tkF (i := 55) rfl ?_
          try simp only [Act.put, sq1, sq2, sq3, sq4, sq5, sq6]
          refine tkF (i := 56) rfl ?_
          try simp only [Act.put, sq1, sq2, sq3, sq4, sq5, sq6]
          refine tkF (i := 57) rfl ?_
          try simp only [Act.put, sq1, sq2, sq3, sq4, sq5, sq6]
          refine tkF (i := 58) rfl ?_
          try simp only [Act.put, sq1, sq2, sq3, sq4, sq5, sq6]
          refine tkF (i := 59) rfl ?_
          try simp only [Act.put, sq1, sq2, sq3, sq4, sq5, sq6]
          refine tkF (i := 60) rfl ?_
          try simp only [Act.put, sq1, sq2, sq3, sq4, sq5, sq6]
          refine tkN (i := 61) (v := ?_) rfl ?_ ?_
          rotate_left
          · (intro w hSw; (try dsimp only at hSw); go_simp; try with_reducible rfl)
          try simp only [Act.put, sq1, sq2, sq3, sq4, sq5, sq6]
          refine tkN (i := 62) (v := ?_) rfl ?_ ?_
          rotate_left
          · (intro w hSw; (try dsimp only at hSw); go_simp; try with_reducible rfl)
          try simp only [Act.put, sq1, sq2, sq3, sq4, sq5, sq6]
          refine tkF (i := 63) rfl ?_
          try simp only [Act.put, sq1, sq2, sq3, sq4, sq5, sq6]
          refine tkF (i := 64) rfl ?_
          try simp only [Act.put, sq1, sq2, sq3, sq4, sq5, sq6]
          refine tkF (i := 65) rfl ?_
          try simp only [Act.put, sq1, sq2, sq3, sq4, sq5, sq6]
          refine tkF (i := 66) rfl ?_
          try simp only [Act.put, sq1, sq2, sq3, sq4, sq5, sq6]
          refine tkF (i := 67) rfl ?_
          try simp only [Act.put, sq1, sq2, sq3, sq4, sq5, sq6]
          refine tkF (i := 68) rfl ?_
          try simp only [Act.put, sq1, sq2, sq3, sq4, sq5, sq6]
          refine tkF (i := 69) rfl ?_
          try simp only [Act.put, sq1, sq2, sq3, sq4, sq5, sq6]
          refine tkF (i := 70) rfl ?_
          try simp only [Act.put, sq1, sq2, sq3, sq4, sq5, sq6]
          refine tkF (i := 71) rfl ?_
          try simp only [Act.put, sq1, sq2, sq3, sq4, sq5, sq6]
          refine tkF (i := 72) rfl ?_
          try simp only [Act.put, sq1, sq2, sq3, sq4, sq5, sq6]
          refine tkF (i := 73) rfl ?_
          try simp only [Act.put, sq1, sq2, sq3, sq4, sq5, sq6]
          refine tkN (i := 74) (v := ?_) rfl ?_ ?_
          rotate_left
          · (intro w hSw; (try dsimp only at hSw); go_simp; try with_reducible rfl)
          try simp only [Act.put, sq1, sq2, sq3, sq4, sq5, sq6]
          refine wpAnyH_done (by kernel_rfl) ?_ _
          clear hrule x0 x1 x2 x3 x4 l0 l1 l2 c0 c1 c2 c3 c4 c5 c6 c7 c8 c9 c10 olt llt qlt
          go_wp2_with fail
          refine (awake_any10 _).mono ?_; rintro e w9 ⟨rfl, hb9⟩
          have HBE := Lib.hid (HB1.out.trans (((H1.out.below hb9).x.be).mono HB1.out.size))
          go_wp2_with fail
          go_ret
          exact ⟨rfl, HBE.out⟩
      · as_aux_lemma =>
          have g0 : ¬ a < 0 := by omega
          have gd0 : decide (a < 0) = false := decide_eq_false g0
          have g1 : ¬ lv V ≤ a := by omega
          have gd1 : decide (lv V ≤ a) = false := decide_eq_false g1
          have g2 : ¬ b < 0 := by omega
          have gd2 : decide (b < 0) = false := decide_eq_false g2
          have g3 : ¬ S ≤ b := by omega
          have gd3 : decide (S ≤ b) = false := decide_eq_false g3
          have g4 : ¬ c < 0 := by omega
          have gd4 : decide (c < 0) = false := decide_eq_false g4
          have g5 : ¬ V ≤ c := by omega
          have gd5 : decide (V ≤ c) = false := decide_eq_false g5
          have g6 : ¬ d < 0 := by omega
          have gd6 : decide (d < 0) = false := decide_eq_false g6
          clear h0 h1 h2 h3 h4 h5 h6
          have hrule := SB.rule pb lo q p rb lb n cr cl V S T kd a b c d
          obtain ⟨x0, x1, x2, x3, x4, l0, l1, l2, c0, c1, c2, c3, c4, c5, c6, c7, c8, c9, c10⟩ := SB.rule _ _ _ _ _ _ _ _ _ _ _ _ _ _ _ _ _ _ Hd.out.sb
          obtain ⟨olt, llt, qlt⟩ := Hd.out.lt
          refine wp_region_held_drew (S := (fun W => SB W pb lo q p rb lb n cr cl V S T kd a b c d)) (by kernel_rfl) ?_ (fun hHeld => ?_)
          · exact Hd.out.sb
          refine tkN (i := 0) (v := ?_) rfl ?_ ?_
          rotate_left
          · (intro w hSw; (try dsimp only at hSw); go_simp; try with_reducible rfl)
          try simp only [Act.put, sq1, sq2, sq3, sq4, sq5]
          refine tkN (i := 1) (v := ?_) rfl ?_ ?_
          rotate_left
          · (intro w hSw; (try dsimp only at hSw); go_simp; try with_reducible rfl)
          try simp only [Act.put, sq1, sq2, sq3, sq4, sq5, sq6]
          refine tkN (i := 2) (v := ?_) rfl ?_ ?_
          rotate_left
          · (intro w hSw; (try dsimp only at hSw); go_simp; try with_reducible rfl)
          try simp only [Act.put, sq1, sq2, sq3, sq4, sq5, sq6]
          refine tkN (i := 3) (v := ?_) rfl ?_ ?_
          rotate_left
          · (intro w hSw; (try dsimp only at hSw); go_simp; try with_reducible rfl)
          try simp only [Act.put, sq1, sq2, sq3, sq4, sq5, sq6]
          refine tkN (i := 4) (v := ?_) rfl ?_ ?_
          rotate_left
          · (intro w hSw; (try dsimp only at hSw); go_simp; try with_reducible rfl)
          try simp only [Act.put, sq1, sq2, sq3, sq4, sq5, sq6]
          refine tkN (i := 5) (v := ?_) rfl ?_ ?_
          rotate_left
          · (intro w hSw; (try dsimp only at hSw); go_simp; try with_reducible rfl)
          try simp only [Act.put, sq1, sq2, sq3, sq4, sq5, sq6]
          refine tkN (i := 6) (v := ?_) rfl ?_ ?_
          rotate_left
          · (intro w hSw; (try dsimp only at hSw); go_simp; try with_reducible rfl)
          try simp only [Act.put, sq1, sq2, sq3, sq4, sq5, sq6]
          refine wpAnyH_ready (rs := [7]) (by kernel_rfl) (by simp) ?_
          refine AllReadyH.cons rfl (fun K hK => ?_) ?_
          rotate_left
          · exact AllReadyH.nil
          go_simp
          (refine (levels_yes _ _ _ HR.out _).mono ?_; rintro e w2 ⟨rfl, B1⟩; have H1 := Lib.hid (Hd.out.below B1))
          go_wp2_with fail
          refine hK.out _ _ ?_ (fun hHeld => ?_)
          · (try dsimp only); (first | (with_reducible assumption) | (with_reducible exact H1.out.sb) | (with_reducible exact Hd.out.sb))
          clear hK K
          try simp only [Act.put, sq1, sq2, sq3, sq4, sq5, sq6]
          refine tkN (i := 8) (v := ?_) rfl ?_ ?_
          rotate_left
          · (intro w hSw; (try dsimp only at hSw); go_simp; try with_reducible rfl)
          try simp only [Act.put, sq1, sq2, sq3, sq4, sq5, sq6]
          refine tkN (i := 9) (v := ?_) rfl ?_ ?_
          rotate_left
          · (intro w hSw; (try dsimp only at hSw); go_simp; try with_reducible rfl)
          try simp only [Act.put, sq1, sq2, sq3, sq4, sq5, sq6]
          refine tkN (i := 10) (v := ?_) rfl ?_ ?_
          rotate_left
          · (intro w hSw; (try dsimp only at hSw); go_simp; try with_reducible rfl)
          try simp only [Act.put, sq1, sq2, sq3, sq4, sq5, sq6]
          refine tkN (i := 11) (v := ?_) rfl ?_ ?_
          rotate_left
          · (intro w hSw; (try dsimp only at hSw); go_simp; try with_reducible rfl)
          try simp only [Act.put, sq1, sq2, sq3, sq4, sq5, sq6]
          refine tkN (i := 12) (v := ?_) rfl ?_ ?_
          rotate_left
          · (intro w hSw; (try dsimp only at hSw); go_simp; try with_reducible rfl)
          try simp only [Act.put, sq1, sq2, sq3, sq4, sq5, sq6]
          refine tkN (i := 13) (v := ?_) rfl ?_ ?_
          rotate_left
          · (intro w hSw; (try dsimp only at hSw); go_simp; try with_reducible rfl)
          try simp only [Act.put, sq1, sq2, sq3, sq4, sq5, sq6]
          refine tkN (i := 14) (v := ?_) rfl ?_ ?_
          rotate_left
          · (intro w hSw; (try dsimp only at hSw); go_simp; try with_reducible rfl)
          try simp only [Act.put, sq1, sq2, sq3, sq4, sq5, sq6]
          refine tkN (i := 15) (v := ?_) rfl ?_ ?_
          rotate_left
          · (intro w hSw; (try dsimp only at hSw); go_simp; try with_reducible rfl)
          try simp only [Act.put, sq1, sq2, sq3, sq4, sq5, sq6]
          refine tkN (i := 16) (v := ?_) rfl ?_ ?_
          rotate_left
          · (intro w hSw; (try dsimp only at hSw); go_simp; try with_reducible rfl)
          try simp only [Act.put, sq1, sq2, sq3, sq4, sq5, sq6]
          refine tkN (i := 17) (v := ?_) rfl ?_ ?_
          rotate_left
          · (intro w hSw; (try dsimp only at hSw); go_simp; try with_reducible rfl)
          try simp only [Act.put, sq1, sq2, sq3, sq4, sq5, sq6]
          refine tkN (i := 18) (v := ?_) rfl ?_ ?_
          rotate_left
          · (intro w hSw; (try dsimp only at hSw); go_simp; try with_reducible rfl)
          try simp only [Act.put, sq1, sq2, sq3, sq4, sq5, sq6]
          refine tkN (i := 19) (v := ?_) rfl ?_ ?_
          rotate_left
          · (intro w hSw; (try dsimp only at hSw); go_simp; try with_reducible rfl)
          try simp only [Act.put, sq1, sq2, sq3, sq4, sq5, sq6]
          refine tkN (i := 20) (v := ?_) rfl ?_ ?_
          rotate_left
          · (intro w hSw; (try dsimp only at hSw); go_simp; try with_reducible rfl)
          try simp only [Act.put, sq1, sq2, sq3, sq4, sq5, sq6]
          refine tkN (i := 21) (v := ?_) rfl ?_ ?_
          rotate_left
          · (intro w hSw; (try dsimp only at hSw); go_simp; try with_reducible rfl)
          try simp only [Act.put, sq1, sq2, sq3, sq4, sq5, sq6]
          refine tkN (i := 22) (v := ?_) rfl ?_ ?_
          rotate_left
          · (intro w hSw; (try dsimp only at hSw); go_simp; try with_reducible rfl)
          try simp only [Act.put, sq1, sq2, sq3, sq4, sq5, sq6]
          refine tkN (i := 23) (v := ?_) rfl ?_ ?_
          rotate_left
          · (intro w hSw; (try dsimp only at hSw); go_simp; try with_reducible rfl)
          try simp only [Act.put, sq1, sq2, sq3, sq4, sq5, sq6]
          refine tkN (i := 24) (v := ?_) rfl ?_ ?_
          rotate_left
          · (intro w hSw; (try dsimp only at hSw); go_simp; try with_reducible rfl)
          try simp only [Act.put, sq1, sq2, sq3, sq4, sq5, sq6]
          refine tkN (i := 25) (v := ?_) rfl ?_ ?_
          rotate_left
          · (intro w hSw; (try dsimp only at hSw); go_simp; try with_reducible rfl)
          try simp only [Act.put, sq1, sq2, sq3, sq4, sq5, sq6]
          refine tkN (i := 26) (v := ?_) rfl ?_ ?_
          rotate_left
          · (intro w hSw; (try dsimp only at hSw); go_simp; try with_reducible rfl)
          try simp only [Act.put, sq1, sq2, sq3, sq4, sq5, sq6]
          refine tkN (i := 27) (v := ?_) rfl ?_ ?_
          rotate_left
          · (intro w hSw; (try dsimp only at hSw); go_simp; try with_reducible rfl)
          try simp only [Act.put, sq1, sq2, sq3, sq4, sq5, sq6]
          refine tkN (i := 28) (v := ?_) rfl ?_ ?_
          rotate_left
          · (intro w hSw; (try dsimp only at hSw); go_simp; try with_reducible rfl)
          try simp only [Act.put, sq1, sq2, sq3, sq4, sq5, sq6]
          refine tkN (i := 29) (v := ?_) rfl ?_ ?_
          rotate_left
          · (intro w hSw; (try dsimp only at hSw); go_simp; try with_reducible rfl)
          try simp only [Act.put, sq1, sq2, sq3, sq4, sq5, sq6]
          refine tkN (i := 30) (v := ?_) rfl ?_ ?_
          rotate_left
          · (intro w hSw; (try dsimp only at hSw); go_simp; try with_reducible rfl)
          try simp only [Act.put, sq1, sq2, sq3, sq4, sq5, sq6]
          refine tkN (i := 31) (v := ?_) rfl ?_ ?_
          rotate_left
          · (intro w hSw; (try dsimp only at hSw); go_simp; try with_reducible rfl)
          try simp only [Act.put, sq1, sq2, sq3, sq4, sq5, sq6]
          refine tkN (i := 32) (v := ?_) rfl ?_ ?_
          rotate_left
          · (intro w hSw; (try dsimp only at hSw); go_simp; try with_reducible rfl)
          try simp only [Act.put, sq1, sq2, sq3, sq4, sq5, sq6]
          refine tkN (i := 33) (v := ?_) rfl ?_ ?_
          rotate_left
          · (intro w hSw; (try dsimp only at hSw); go_simp; try with_reducible rfl)
          try simp only [Act.put, sq1, sq2, sq3, sq4, sq5, sq6]
          refine tkN (i := 34) (v := ?_) rfl ?_ ?_
          rotate_left
          · (intro w hSw; (try dsimp only at hSw); go_simp; try with_reducible rfl)
          try simp only [Act.put, sq1, sq2, sq3, sq4, sq5, sq6]
          refine tkN (i := 35) (v := ?_) rfl ?_ ?_
          rotate_left
          · (intro w hSw; (try dsimp only at hSw); go_simp; try with_reducible rfl)
          try simp only [Act.put, sq1, sq2, sq3, sq4, sq5, sq6]
          refine tkN (i := 36) (v := ?_) rfl ?_ ?_
          rotate_left
          · (intro w hSw; (try dsimp only at hSw); go_simp; try with_reducible rfl)
          try simp only [Act.put, sq1, sq2, sq3, sq4, sq5, sq6]
          refine tkN (i := 37) (v := ?_) rfl ?_ ?_
          rotate_left
          · (intro w hSw; (try dsimp only at hSw); go_simp; try with_reducible rfl)
          try simp only [Act.put, sq1, sq2, sq3, sq4, sq5, sq6]
          refine tkN (i := 38) (v := ?_) rfl ?_ ?_
          rotate_left
          · (intro w hSw; (try dsimp only at hSw); go_simp; try with_reducible rfl)
          try simp only [Act.put, sq1, sq2, sq3, sq4, sq5, sq6]
          refine tkN (i := 39) (v := ?_) rfl ?_ ?_
          rotate_left
          · (intro w hSw; (try dsimp only at hSw); go_simp; try with_reducible rfl)
          try simp only [Act.put, sq1, sq2, sq3, sq4, sq5, sq6]
          refine tkN (i := 40) (v := ?_) rfl ?_ ?_
          rotate_left
          · (intro w hSw; (try dsimp only at hSw); go_simp; try with_reducible rfl)
          try simp only [Act.put, sq1, sq2, sq3, sq4, sq5, sq6]
          refine tkN (i := 41) (v := ?_) rfl ?_ ?_
          rotate_left
          · (intro w hSw; (try dsimp only at hSw); go_simp; try with_reducible rfl)
          try simp only [Act.put, sq1, sq2, sq3, sq4, sq5, sq6]
          refine tkN (i := 42) (v := ?_) rfl ?_ ?_
          rotate_left
          · (intro w hSw; (try dsimp only at hSw); go_simp; try with_reducible rfl)
          try simp only [Act.put, sq1, sq2, sq3, sq4, sq5, sq6]
          refine tkN (i := 43) (v := ?_) rfl ?_ ?_
          rotate_left
          · (intro w hSw; (try dsimp only at hSw); go_simp; try with_reducible rfl)
          try simp only [Act.put, sq1, sq2, sq3, sq4, sq5, sq6]
          refine tkN (i := 44) (v := ?_) rfl ?_ ?_
          rotate_left
          · (intro w hSw; (try dsimp only at hSw); go_simp; try with_reducible rfl)
          try simp only [Act.put, sq1, sq2, sq3, sq4, sq5, sq6]
          refine tkN (i := 45) (v := ?_) rfl ?_ ?_
          rotate_left
          · (intro w hSw; (try dsimp only at hSw); go_simp; try with_reducible rfl)
          try simp only [Act.put, sq1, sq2, sq3, sq4, sq5, sq6]
          refine tkN (i := 46) (v := ?_) rfl ?_ ?_
          rotate_left
          · (intro w hSw; (try dsimp only at hSw); go_simp; try with_reducible rfl)
          try simp only [Act.put, sq1, sq2, sq3, sq4, sq5, sq6]
          refine tkF (i := 47) rfl ?_
          try simp only [Act.put, sq1, sq2, sq3, sq4, sq5, sq6]
          refine tkF (i := 48) rfl ?_
          try simp only [Act.put, sq1, sq2, sq3, sq4, sq5, sq6]
          refine tkF (i := 49) rfl ?_
          try simp only [Act.put, sq1, sq2, sq3, sq4, sq5, sq6]
          refine tkF (i := 50) rfl ?_
          try simp only [Act.put, sq1, sq2, sq3, sq4, sq5, sq6]
          refine tkF (i := 51) rfl ?_
          try simp only [Act.put, sq1, sq2, sq3, sq4, sq5, sq6]
          refine tkF (i := 52) rfl ?_
          try simp only [Act.put, sq1, sq2, sq3, sq4, sq5, sq6]
          refine tkF (i := 53) rfl ?_
          try simp only [Act.put, sq1, sq2, sq3, sq4, sq5, sq6]
          refine tkF (i := 54) rfl ?_
          try simp only [Act.put, sq1, sq2, sq3, sq4, sq5, sq6]
          refine tkF (i := 55) rfl ?_
          try simp only [Act.put, sq1, sq2, sq3, sq4, sq5, sq6]
          refine tkF (i := 56) rfl ?_
          try simp only [Act.put, sq1, sq2, sq3, sq4, sq5, sq6]
          refine tkF (i := 57) rfl ?_
          try simp only [Act.put, sq1, sq2, sq3, sq4, sq5, sq6]
          refine tkF (i := 58) rfl ?_
          try simp only [Act.put, sq1, sq2, sq3, sq4, sq5, sq6]
          refine tkF (i := 59) rfl ?_
          try simp only [Act.put, sq1, sq2, sq3, sq4, sq5, sq6]
          refine tkF (i := 60) rfl ?_
          try simp only [Act.put, sq1, sq2, sq3, sq4, sq5, sq6]
          refine tkN (i := 61) (v := ?_) rfl ?_ ?_
          rotate_left
          · (intro w hSw; (try dsimp only at hSw); go_simp; try with_reducible rfl)
          try simp only [Act.put, sq1, sq2, sq3, sq4, sq5, sq6]
          refine tkN (i := 62) (v := ?_) rfl ?_ ?_
          rotate_left
          · (intro w hSw; (try dsimp only at hSw); go_simp; try with_reducible rfl)
          try simp only [Act.put, sq1, sq2, sq3, sq4, sq5, sq6]
          refine tkF (i := 63) rfl ?_
          try simp only [Act.put, sq1, sq2, sq3, sq4, sq5, sq6]
          refine tkF (i := 64) rfl ?_
          try simp only [Act.put, sq1, sq2, sq3, sq4, sq5, sq6]
          refine tkF (i := 65) rfl ?_
          try simp only [Act.put, sq1, sq2, sq3, sq4, sq5, sq6]
          refine tkF (i := 66) rfl ?_
          try simp only [Act.put, sq1, sq2, sq3, sq4, sq5, sq6]
          refine tkF (i := 67) rfl ?_
          try simp only [Act.put, sq1, sq2, sq3, sq4, sq5, sq6]
          refine tkF (i := 68) rfl ?_
          try simp only [Act.put, sq1, sq2, sq3, sq4, sq5, sq6]
          refine tkF (i := 69) rfl ?_
          try simp only [Act.put, sq1, sq2, sq3, sq4, sq5, sq6]
          refine tkF (i := 70) rfl ?_
          try simp only [Act.put, sq1, sq2, sq3, sq4, sq5, sq6]
          refine tkF (i := 71) rfl ?_
          try simp only [Act.put, sq1, sq2, sq3, sq4, sq5, sq6]
          refine tkF (i := 72) rfl ?_
          try simp only [Act.put, sq1, sq2, sq3, sq4, sq5, sq6]
          refine tkF (i := 73) rfl ?_
          try simp only [Act.put, sq1, sq2, sq3, sq4, sq5, sq6]
          refine tkN (i := 74) (v := ?_) rfl ?_ ?_
          rotate_left
          · (intro w hSw; (try dsimp only at hSw); go_simp; try with_reducible rfl)
          try simp only [Act.put, sq1, sq2, sq3, sq4, sq5, sq6]
          refine wpAnyH_done (by kernel_rfl) ?_ _
          clear hrule x0 x1 x2 x3 x4 l0 l1 l2 c0 c1 c2 c3 c4 c5 c6 c7 c8 c9 c10 olt llt qlt
          go_wp2_with fail
          refine (awake_any10 _).mono ?_; rintro e w9 ⟨rfl, hb9⟩
          have HBE := Lib.hid (HB1.out.trans (((H1.out.below hb9).x.be).mono HB1.out.size))
          go_wp2_with fail
          go_ret
          exact ⟨rfl, HBE.out⟩
end

end Go.Proofs.Ytahabfjngeicmaa
