/- The law TourBack: what may be. Printed by wip/tools/tovlk.py. -/
import Derived.Test.YtahabfjngeicmaaZTovG
namespace Go.Proofs.Ytahabfjngeicmaa
open Go.RowKit

set_option maxRecDepth 100000

section
variable {V S T : Int} {da oa : Option Addr} {dl dc ol oc : Nat} {f : Nat → Nat} {fo : Nat → OpT}
set_option maxHeartbeats 16000000 in
theorem lbackGood (kd : Int) (L s u v : Nat) (w : World) (hD : IsNum w da dl f) (hO : IsOpT w oa ol fo) (hlv : (L : Int) < lv V) (hsS : (s : Int) < S) (huV : (u : Int) < V) (hvV : (v : Int) < V) :
    Calls Try.prog 3 #[vC10 V S T da dl dc oa ol oc, .agg #[.int .i64 kd, .int .i64 (L : Int), .int .i64 (s : Int), .int .i64 (u : Int), .int .i64 (v : Int)]] w fun e w' => e = .returned (.bool true) ∧ Below w.heap.size w w' := by
  have HD := Lib.hid hD
  have HO0 := Lib.hid hO
  clear hD hO
  have HB1 : Hid (Below w.heap.size w ((w.alloc (.cells #[.int .i64 V, .int .i64 S, .int .i64 T, .slice da dl dc, .slice oa ol oc] 27)).alloc (.cells #[.int .i64 kd, .int .i64 (L : Int), .int .i64 (s : Int), .int .i64 (u : Int), .int .i64 (v : Int)] 29))) := Lib.hid (((Below.refl _ _).alloc (Nat.le_refl _) _).alloc (by simp) _)
  have HZ1 : Hid (Blk ((w.alloc (.cells #[.int .i64 V, .int .i64 S, .int .i64 T, .slice da dl dc, .slice oa ol oc] 27)).alloc (.cells #[.int .i64 kd, .int .i64 (L : Int), .int .i64 (s : Int), .int .i64 (u : Int), .int .i64 (v : Int)] 29)) w.heap.size 27 #[.int .i64 V, .int .i64 S, .int .i64 T, .slice da dl dc, .slice oa ol oc]) := Lib.hid ((Blk.new _ _ _).alloc _)
  have HP1 : Hid (Blk ((w.alloc (.cells #[.int .i64 V, .int .i64 S, .int .i64 T, .slice da dl dc, .slice oa ol oc] 27)).alloc (.cells #[.int .i64 kd, .int .i64 (L : Int), .int .i64 (s : Int), .int .i64 (u : Int), .int .i64 (v : Int)] 29)) (w.heap.size + 1) 29 #[.int .i64 kd, .int .i64 (L : Int), .int .i64 (s : Int), .int .i64 (u : Int), .int .i64 (v : Int)]) := Lib.hid (new_next w _ _ _ _)
  go_enter Try.func3, Try.ntmps3
  go_wp2_with fail
  generalize w.heap.size + 1 = pb at HP1 ⊢
  generalize w.heap.size = zb at HZ1 ⊢
  generalize ((w.alloc (.cells #[.int .i64 V, .int .i64 S, .int .i64 T, .slice da dl dc, .slice oa ol oc] 27)).alloc (.cells #[.int .i64 kd, .int .i64 (L : Int), .int .i64 (s : Int), .int .i64 (u : Int), .int .i64 (v : Int)] 29)) = W1 at HZ1 HP1 HB1 ⊢
  have HO : Hid (IsOpT W1 oa ol fo) := Lib.hid fun h0 => by
    obtain ⟨x, off, e, hc⟩ := HO0.out h0
    exact ⟨x, off, e, fun k hk => by
      have h := hc k hk
      exact ⟨cell_later HB1.out h.1, cell_later HB1.out h.2.1, cell_later HB1.out h.2.2.1, cell_later HB1.out h.2.2.2.1, cell_later HB1.out h.2.2.2.2.1, h.2.2.2.2.2⟩⟩
  have HD1 := Lib.hid (HD.out.below HB1.out)
  clear HO0 HD
  refine (right_case10 V S T da dl dc oa ol oc _).mono ?_; rintro e w2 ⟨rfl, hb2⟩
  have HB2 := Lib.hid hb2
  have HZ2 := Lib.hid (HZ1.out.below hb2 HZ1.out.lt)
  clear HZ1 hb2
  cases hr : rgt10 V S T dl ol
  · go_wp2_with fail
    refine (awake_any10 _).mono ?_; rintro e w3 ⟨rfl, hb3⟩
    have HB3 := Lib.hid (HB1.out.trans ((HB2.out.trans (hb3.mono HB2.out.size)).mono HB1.out.size))
    go_wp2_with fail
    go_ret
    exact ⟨rfl, HB3.out⟩
  have HG := Lib.hid (rgt10_yes hr)
  clear hr
  have z0 := HZ2.out.cell 0
  have z1 := HZ2.out.cell 1
  have z2 := HZ2.out.cell 2
  have z3 := HZ2.out.cell 3
  have z4 := HZ2.out.cell 4
  have zlt := HZ2.out.lt
  go_wp2_with fail
  refine (xbegun HG.out.r (HD1.out.below HB2.out) HG.out.d HG.out.v HG.out.s HZ2.out HB2.out).mono ?_
  rintro e w3 ⟨n, q, p, gb, cap, rb, lb, cr, cl, base, gB, g0, ts0, vr0, rs0, gr0', rfl, hL⟩
  have HRel : Hid (LpT W1 zb #[.int .i64 V, .int .i64 S, .int .i64 T, .slice da dl dc, .slice oa ol oc] V S T n q p gb cap rb lb cr cl base gB ol (.int .i64 0) w3) := Lib.hid ⟨0, _, _, _, _, _, _, Nat.zero_le _, rfl, Nat.le_refl _, hL⟩
  clear z0 z1 z2 z3 z4 zlt HZ2 HB2
  have z4 := hL.z.cell 4
  have zlt := hL.z.lt
  clear hL
  have HOL := Lib.hid HG.out.o
  have holI : (ol : Int) ≤ 60 := by have := HG.out.o; omega
  go_wp2_with fail
  go_loopw [26] (fun i wr => LpT W1 zb #[.int .i64 V, .int .i64 S, .int .i64 T, .slice da dl dc, .slice oa ol oc] V S T n q p gb cap rb lb cr cl base gB ol i wr) (fun i _ => ol - (intOf i).toNat)
  case atStart => exact HRel.out
  case round =>
    clear HRel z4 zlt
    obtain ⟨k, m, g, ts, vr, rs, gr, hk, rfl, hm, hL⟩ := hrel
    have HL := Lib.hid hL
    have HMK := Lib.hid hm
    clear hL
    by_cases hkl : k < ol
    · obtain ⟨ob, off, rfl, hcell⟩ := HO.out (by omega)
      have hc := hcell k hkl
      obtain ⟨o, ho⟩ : ∃ o, fo k = o := ⟨_, rfl⟩
      rw [ho] at hc
      obtain ⟨kd, oa1, ob1, oc1, od1⟩ := o
      have c0 := cell_later HL.out.be hc.1
      have c1 := cell_later HL.out.be hc.2.1
      have c2 := cell_later HL.out.be hc.2.2.1
      have c3 := cell_later HL.out.be hc.2.2.2.1
      have c4 := cell_later HL.out.be hc.2.2.2.2.1
      have hkI : (k : Int) < (ol : Int) := by omega
      have hk0 : (0 : Int) ≤ (k : Int) := by omega
      have HM1 : Hid (m ≤ 700000) := Lib.hid (by have := HOL.out; omega)
      have HLa := Lib.hid (HL.out.below ((Below.refl _ _).alloc (Nat.le_refl _) (.cells #[.int .i64 kd, .int .i64 oa1, .int .i64 ob1, .int .i64 oc1, .int .i64 od1] 29)))
      clear hc ho hcell HL hm
      go_wp2_with fail
      refine (xstep HLa.out HM1.out).mono ?_
      rintro e w5 ⟨rfl, g', ts', vr', rs', gr', hL5⟩
      have HL5 := Lib.hid hL5
      clear hL5 HLa c0 c1 c2 c3 c4
      go_wp2_with fail
      go_roundw
      case rel => exact ⟨k + 1, _, g', ts', vr', rs', gr', hkl, by simp, by have := HMK.out; omega, HL5.out⟩
      case measure => simp [intOf]; omega
    · have ek : ol = k := by omega
      subst ek
      have hkI : ¬ (ol : Int) < (ol : Int) := by omega
      have HM1 : Hid (m ≤ 661000) := Lib.hid (by have := HOL.out; omega)
      have hn4 := HL.out.pl.n4
      have HV8 := Lib.hid (And.intro HL.out.pl.v8 HL.out.pl.s8)
      have HNI := Lib.hid HL.out.pl.pg.hn
      obtain ⟨wO, rfl⟩ : ∃ w1 : World, w1 = wr := ⟨_, rfl⟩
      have HLV := Lib.hid HL.out.pl.lv
      have HFI := Lib.hid HL.out.pl.fi
      have HR := Lib.hid HL.out.pl.hR
      have HRW : Hid (∀ L, L < n → ∀ r ∈ rs L, r.length ≤ 96) := Lib.hid fun L hL r hr => HL.out.pl.row_len hL hr
      have HRN : Hid (∀ L, L < n → (rs L).length ≤ 96) := Lib.hid fun L hL => HL.out.pl.rows_len hL
      obtain ⟨sn, hsn⟩ : ∃ x, S.toNat = x := ⟨_, rfl⟩
      have HSN := Lib.hid hsn
      have HSI : Hid ((sn : Int) = S) := Lib.hid (by have := HL.out.pl.hR.s1; omega)
      have hS8I : (sn : Int) ≤ 8 := by have := HV8.out.2; have := HSI.out; omega
      clear hsn
      have hn4I : (n : Int) ≤ 4 := by omega
      have HFL : Hid (∀ L, L < n → (rs L).flatten.length ≤ 96) := Lib.hid fun L hL => HL.out.pl.flat hL
      clear hk hkl hm
      have HG1 := Lib.hid HL.out
      have HP2 := Lib.hid (HP1.out.below HG1.out.be HP1.out.lt)
      clear HL
      have z0 := HG1.out.z.cell 0
      have z1 := HG1.out.z.cell 1
      have z2 := HG1.out.z.cell 2
      have zlt := HG1.out.z.lt
      go_wp2_with fail
      have HL1 : Hid (LX W1 (wO.alloc (.cells #[.int .i64 V, .int .i64 S, .int .i64 T] 23)) zb #[.int .i64 V, .int .i64 S, .int .i64 T, .slice da dl dc, .slice oa ol oc] V S T n q p gb cap rb lb cr cl base gB m g ts vr rs gr) := Lib.hid (HG1.out.below ((Below.refl _ _).alloc (Nat.le_refl _) _))
      have HO2 : Hid (Blk (wO.alloc (.cells #[.int .i64 V, .int .i64 S, .int .i64 T] 23)) pb 29 #[.int .i64 kd, .int .i64 (L : Int), .int .i64 (s : Int), .int .i64 (u : Int), .int .i64 (v : Int)]) := Lib.hid (HP2.out.alloc _)
      have HLB : Hid (Blk (wO.alloc (.cells #[.int .i64 V, .int .i64 S, .int .i64 T] 23)) wO.heap.size 23 #[.int .i64 V, .int .i64 S, .int .i64 T]) := Lib.hid (Blk.new _ _ _)
      clear z0 z1 z2 zlt HG1 HP2
      generalize wO.heap.size = lo at HLB ⊢
      generalize wO.alloc (.cells #[.int .i64 V, .int .i64 S, .int .i64 T] 23) = WL at HL1 HO2 HLB ⊢
      have HX : Hid (XO W1 WL pb lo kd (L : Int) (s : Int) (u : Int) (v : Int) zb #[.int .i64 V, .int .i64 S, .int .i64 T, .slice da dl dc, .slice oa ol oc] V S T n q p gb cap rb lb cr cl base gB g ts vr rs gr 280000) := Lib.hid ⟨(HL1.out.gx (k := 280000) (by have := HM1.out; omega)).xs, HO2.out, HLB.out⟩
      have hl : L < n := by have := HNI.out; omega
      have hsn9 : s < (gr L).length := by rw [(HLV.out L hl).len, HSN.out]; have := HSI.out; omega
      obtain ⟨e, he⟩ : ∃ e, (gr L)[s]? = some e := ⟨_, List.getElem?_eq_getElem hsn9⟩
      have HE := Lib.hid he
      obtain ⟨ru, hru, hxu⟩ := (HLV.out L hl).cov u huV
      obtain ⟨rv, hrv, hxv⟩ := (HLV.out L hl).cov v hvV
      obtain ⟨t, ht, rt⟩ := (HLV.out L hl).has ru hru
      obtain ⟨t2, ht2, rt2⟩ := (HLV.out L hl).has rv hrv
      have HT : Hid (t ∈ ts ∧ Xn V L u ∈ t.row ∧ t2 ∈ ts ∧ Xn V L v ∈ t2.row ∧ t.row = ru ∧ t2.row = rv ∧ ru ∈ rs L ∧ rv ∈ rs L) := Lib.hid ⟨ht, by rw [rt]; exact hxu, ht2, by rw [rt2]; exact hxv, rt, rt2, hru, hrv⟩
      have L0 : (0 : Int) ≤ (L : Int) := by omega
      have s0 : (0 : Int) ≤ (s : Int) := by omega
      have lI : (L : Int) < (n : Int) := by omega
      have sI : (s : Int) < (sn : Int) := by have := HSI.out; omega
      have g0 : ¬ (L : Int) < 0 := by omega
      have g1 : ¬ lv V ≤ (L : Int) := by omega
      have g2 : ¬ (s : Int) < 0 := by omega
      have g3 : ¬ S ≤ (s : Int) := by omega
      have g4 : ¬ (u : Int) < 0 := by omega
      have g5 : ¬ V ≤ (u : Int) := by omega
      have g6 : ¬ (v : Int) < 0 := by omega
      have g7 : ¬ V ≤ (v : Int) := by omega
      have gd0 := decide_eq_false g0
      have gd1 := decide_eq_false g1
      have gd2 := decide_eq_false g2
      have gd3 := decide_eq_false g3
      have gd4 := decide_eq_false g4
      have gd5 := decide_eq_false g5
      have gd6 := decide_eq_false g6
      have gd7 := decide_eq_false g7
      have Hd := Lib.hid HX.out.drew
      clear HX HL1 HO2 HLB he hsn9 hru hxu hrv hxv ht rt ht2 rt2
      have hrule := SK.rule pb lo q p rb lb n cr cl V S T kd (L : Int) (s : Int) (u : Int) (v : Int) L s sn (gB L) (end1 e)
      obtain ⟨⟨k1, k2⟩, x0, x1, x2, x3, x4, l0, l1, l2, c0, c1, c2, c3, c4, c5, c6, c7, c8, c9, c10⟩ := SK.rule _ _ _ _ _ _ _ _ _ _ _ _ _ _ _ _ _ _ _ _ _ _ _ (Hd.out.sk hl HE.out HSN.out)
      obtain ⟨olt, llt, qlt⟩ := Hd.out.lt
      by_cases hlk : 0 ≤ end1 e
      · as_aux_lemma =>
          refine wp_region_held_drew (S := (fun W => SK W pb lo q p rb lb n cr cl V S T kd (L : Int) (s : Int) (u : Int) (v : Int) L s sn (gB L) (end1 e))) (by kernel_rfl) ?_ (fun hHeld => ?_)
          · exact Hd.out.sk hl HE.out HSN.out
          refine tkN (i := 0) (v := ?_) rfl ?_ ?_
          rotate_left
          · (intro w hSw; (try dsimp only at hSw); go_simp; try with_reducible rfl)
          try simp only [Act.put, sq1, sq2, sq3, sq4, sq5]
          refine tkN (i := 1) (v := ?_) rfl ?_ ?_
          rotate_left
          · (intro w hSw; (try dsimp only at hSw); go_simp; try with_reducible rfl)
          try simp only [Act.put, sq1, sq2, sq3, sq4, sq5, sq6]
          refine tkN (i := 2) (v := ?_) rfl ?_ ?_
          rotate_left
          · (intro w hSw; (try dsimp only at hSw); go_simp; try with_reducible rfl)
          try simp only [Act.put, sq1, sq2, sq3, sq4, sq5, sq6]
          refine tkN (i := 3) (v := ?_) rfl ?_ ?_
          rotate_left
          · (intro w hSw; (try dsimp only at hSw); go_simp; try with_reducible rfl)
          try simp only [Act.put, sq1, sq2, sq3, sq4, sq5, sq6]
          refine tkN (i := 4) (v := ?_) rfl ?_ ?_
          rotate_left
          · (intro w hSw; (try dsimp only at hSw); go_simp; try with_reducible rfl)
          try simp only [Act.put, sq1, sq2, sq3, sq4, sq5, sq6]
          refine tkN (i := 5) (v := ?_) rfl ?_ ?_
          rotate_left
          · (intro w hSw; (try dsimp only at hSw); go_simp; try with_reducible rfl)
          try simp only [Act.put, sq1, sq2, sq3, sq4, sq5, sq6]
          refine tkN (i := 6) (v := ?_) rfl ?_ ?_
          rotate_left
          · (intro w hSw; (try dsimp only at hSw); go_simp; try with_reducible rfl)
          try simp only [Act.put, sq1, sq2, sq3, sq4, sq5, sq6]
          refine wpAnyH_ready (rs := [7]) (by kernel_rfl) (by simp) ?_
          refine AllReadyH.cons rfl (fun K hK => ?_) ?_
          rotate_left
          · exact AllReadyH.nil
          go_simp
          (refine (levels_yes _ _ _ HR.out _).mono ?_; rintro e2 w2 ⟨rfl, B1⟩; have H1 := Lib.hid (Hd.out.below B1))
          go_wp2_with fail
          refine hK.out _ _ ?_ (fun hHeld => ?_)
          · (try dsimp only); (first | (with_reducible assumption) | (with_reducible exact H2.out.sk hl HE.out HSN.out) | (with_reducible exact H1.out.sk hl HE.out HSN.out) | (with_reducible exact Hd.out.sk hl HE.out HSN.out))
          clear hK K
          try simp only [Act.put, sq1, sq2, sq3, sq4, sq5, sq6]
          refine tkN (i := 8) (v := ?_) rfl ?_ ?_
          rotate_left
          · (intro w hSw; (try dsimp only at hSw); go_simp; try with_reducible rfl)
          try simp only [Act.put, sq1, sq2, sq3, sq4, sq5, sq6]
          refine tkN (i := 9) (v := ?_) rfl ?_ ?_
          rotate_left
          · (intro w hSw; (try dsimp only at hSw); go_simp; try with_reducible rfl)
          try simp only [Act.put, sq1, sq2, sq3, sq4, sq5, sq6]
          refine tkN (i := 10) (v := ?_) rfl ?_ ?_
          rotate_left
          · (intro w hSw; (try dsimp only at hSw); go_simp; try with_reducible rfl)
          try simp only [Act.put, sq1, sq2, sq3, sq4, sq5, sq6]
          refine tkN (i := 11) (v := ?_) rfl ?_ ?_
          rotate_left
          · (intro w hSw; (try dsimp only at hSw); go_simp; try with_reducible rfl)
          try simp only [Act.put, sq1, sq2, sq3, sq4, sq5, sq6]
          refine tkN (i := 12) (v := ?_) rfl ?_ ?_
          rotate_left
          · (intro w hSw; (try dsimp only at hSw); go_simp; try with_reducible rfl)
          try simp only [Act.put, sq1, sq2, sq3, sq4, sq5, sq6]
          refine tkN (i := 13) (v := ?_) rfl ?_ ?_
          rotate_left
          · (intro w hSw; (try dsimp only at hSw); go_simp; try with_reducible rfl)
          try simp only [Act.put, sq1, sq2, sq3, sq4, sq5, sq6]
          refine tkN (i := 14) (v := ?_) rfl ?_ ?_
          rotate_left
          · (intro w hSw; (try dsimp only at hSw); go_simp; try with_reducible rfl)
          try simp only [Act.put, sq1, sq2, sq3, sq4, sq5, sq6]
          refine tkN (i := 15) (v := ?_) rfl ?_ ?_
          rotate_left
          · (intro w hSw; (try dsimp only at hSw); go_simp; try with_reducible rfl)
          try simp only [Act.put, sq1, sq2, sq3, sq4, sq5, sq6]
          refine tkN (i := 16) (v := ?_) rfl ?_ ?_
          rotate_left
          · (intro w hSw; (try dsimp only at hSw); go_simp; try with_reducible rfl)
          try simp only [Act.put, sq1, sq2, sq3, sq4, sq5, sq6]
          refine tkN (i := 17) (v := ?_) rfl ?_ ?_
          rotate_left
          · (intro w hSw; (try dsimp only at hSw); go_simp; try with_reducible rfl)
          try simp only [Act.put, sq1, sq2, sq3, sq4, sq5, sq6]
          refine tkN (i := 18) (v := ?_) rfl ?_ ?_
          rotate_left
          · (intro w hSw; (try dsimp only at hSw); go_simp; try with_reducible rfl)
          try simp only [Act.put, sq1, sq2, sq3, sq4, sq5, sq6]
          refine tkN (i := 19) (v := ?_) rfl ?_ ?_
          rotate_left
          · (intro w hSw; (try dsimp only at hSw); go_simp; try with_reducible rfl)
          try simp only [Act.put, sq1, sq2, sq3, sq4, sq5, sq6]
          refine tkN (i := 20) (v := ?_) rfl ?_ ?_
          rotate_left
          · (intro w hSw; (try dsimp only at hSw); go_simp; try with_reducible rfl)
          try simp only [Act.put, sq1, sq2, sq3, sq4, sq5, sq6]
          refine tkN (i := 21) (v := ?_) rfl ?_ ?_
          rotate_left
          · (intro w hSw; (try dsimp only at hSw); go_simp; try with_reducible rfl)
          try simp only [Act.put, sq1, sq2, sq3, sq4, sq5, sq6]
          refine tkN (i := 22) (v := ?_) rfl ?_ ?_
          rotate_left
          · (intro w hSw; (try dsimp only at hSw); go_simp; try with_reducible rfl)
          try simp only [Act.put, sq1, sq2, sq3, sq4, sq5, sq6]
          refine tkN (i := 23) (v := ?_) rfl ?_ ?_
          rotate_left
          · (intro w hSw; (try dsimp only at hSw); go_simp; try with_reducible rfl)
          try simp only [Act.put, sq1, sq2, sq3, sq4, sq5, sq6]
          refine tkN (i := 24) (v := ?_) rfl ?_ ?_
          rotate_left
          · (intro w hSw; (try dsimp only at hSw); go_simp; try with_reducible rfl)
          try simp only [Act.put, sq1, sq2, sq3, sq4, sq5, sq6]
          refine tkN (i := 25) (v := ?_) rfl ?_ ?_
          rotate_left
          · (intro w hSw; (try dsimp only at hSw); go_simp; try with_reducible rfl)
          try simp only [Act.put, sq1, sq2, sq3, sq4, sq5, sq6]
          refine tkN (i := 26) (v := ?_) rfl ?_ ?_
          rotate_left
          · (intro w hSw; (try dsimp only at hSw); go_simp; try with_reducible rfl)
          try simp only [Act.put, sq1, sq2, sq3, sq4, sq5, sq6]
          refine tkN (i := 27) (v := ?_) rfl ?_ ?_
          rotate_left
          · (intro w hSw; (try dsimp only at hSw); go_simp; try with_reducible rfl)
          try simp only [Act.put, sq1, sq2, sq3, sq4, sq5, sq6]
          refine tkN (i := 28) (v := ?_) rfl ?_ ?_
          rotate_left
          · (intro w hSw; (try dsimp only at hSw); go_simp; try with_reducible rfl)
          try simp only [Act.put, sq1, sq2, sq3, sq4, sq5, sq6]
          refine tkN (i := 29) (v := ?_) rfl ?_ ?_
          rotate_left
          · (intro w hSw; (try dsimp only at hSw); go_simp; try with_reducible rfl)
          try simp only [Act.put, sq1, sq2, sq3, sq4, sq5, sq6]
          refine tkN (i := 30) (v := ?_) rfl ?_ ?_
          rotate_left
          · (intro w hSw; (try dsimp only at hSw); go_simp; try with_reducible rfl)
          try simp only [Act.put, sq1, sq2, sq3, sq4, sq5, sq6]
          refine tkN (i := 31) (v := ?_) rfl ?_ ?_
          rotate_left
          · (intro w hSw; (try dsimp only at hSw); go_simp; try with_reducible rfl)
          try simp only [Act.put, sq1, sq2, sq3, sq4, sq5, sq6]
          refine tkN (i := 32) (v := ?_) rfl ?_ ?_
          rotate_left
          · (intro w hSw; (try dsimp only at hSw); go_simp; try with_reducible rfl)
          try simp only [Act.put, sq1, sq2, sq3, sq4, sq5, sq6]
          refine tkN (i := 33) (v := ?_) rfl ?_ ?_
          rotate_left
          · (intro w hSw; (try dsimp only at hSw); go_simp; try with_reducible rfl)
          try simp only [Act.put, sq1, sq2, sq3, sq4, sq5, sq6]
          refine tkN (i := 34) (v := ?_) rfl ?_ ?_
          rotate_left
          · (intro w hSw; (try dsimp only at hSw); go_simp; try with_reducible rfl)
          try simp only [Act.put, sq1, sq2, sq3, sq4, sq5, sq6]
          refine tkN (i := 35) (v := ?_) rfl ?_ ?_
          rotate_left
          · (intro w hSw; (try dsimp only at hSw); go_simp; try with_reducible rfl)
          try simp only [Act.put, sq1, sq2, sq3, sq4, sq5, sq6]
          refine tkN (i := 36) (v := ?_) rfl ?_ ?_
          rotate_left
          · (intro w hSw; (try dsimp only at hSw); go_simp; try with_reducible rfl)
          try simp only [Act.put, sq1, sq2, sq3, sq4, sq5, sq6]
          refine tkN (i := 37) (v := ?_) rfl ?_ ?_
          rotate_left
          · (intro w hSw; (try dsimp only at hSw); go_simp; try with_reducible rfl)
          try simp only [Act.put, sq1, sq2, sq3, sq4, sq5, sq6]
          refine tkN (i := 38) (v := ?_) rfl ?_ ?_
          rotate_left
          · (intro w hSw; (try dsimp only at hSw); go_simp; try with_reducible rfl)
          try simp only [Act.put, sq1, sq2, sq3, sq4, sq5, sq6]
          refine tkN (i := 39) (v := ?_) rfl ?_ ?_
          rotate_left
          · (intro w hSw; (try dsimp only at hSw); go_simp; try with_reducible rfl)
          try simp only [Act.put, sq1, sq2, sq3, sq4, sq5, sq6]
          refine tkN (i := 40) (v := ?_) rfl ?_ ?_
          rotate_left
          · (intro w hSw; (try dsimp only at hSw); go_simp; try with_reducible rfl)
          try simp only [Act.put, sq1, sq2, sq3, sq4, sq5, sq6]
          refine tkN (i := 41) (v := ?_) rfl ?_ ?_
          rotate_left
          · (intro w hSw; (try dsimp only at hSw); go_simp; try with_reducible rfl)
          try simp only [Act.put, sq1, sq2, sq3, sq4, sq5, sq6]
          refine tkN (i := 42) (v := ?_) rfl ?_ ?_
          rotate_left
          · (intro w hSw; (try dsimp only at hSw); go_simp; try with_reducible rfl)
          try simp only [Act.put, sq1, sq2, sq3, sq4, sq5, sq6]
          refine tkN (i := 43) (v := ?_) rfl ?_ ?_
          rotate_left
          · (intro w hSw; (try dsimp only at hSw); go_simp; try with_reducible rfl)
          try simp only [Act.put, sq1, sq2, sq3, sq4, sq5, sq6]
          refine tkN (i := 44) (v := ?_) rfl ?_ ?_
          rotate_left
          · (intro w hSw; (try dsimp only at hSw); go_simp; try with_reducible rfl)
          try simp only [Act.put, sq1, sq2, sq3, sq4, sq5, sq6]
          refine tkN (i := 45) (v := ?_) rfl ?_ ?_
          rotate_left
          · (intro w hSw; (try dsimp only at hSw); go_simp; try with_reducible rfl)
          try simp only [Act.put, sq1, sq2, sq3, sq4, sq5, sq6]
          refine tkN (i := 46) (v := ?_) rfl ?_ ?_
          rotate_left
          · (intro w hSw; (try dsimp only at hSw); go_simp; try with_reducible rfl)
          try simp only [Act.put, sq1, sq2, sq3, sq4, sq5, sq6]
          refine tkN (i := 47) (v := ?_) rfl ?_ ?_
          rotate_left
          · (intro w hSw; (try dsimp only at hSw); go_simp; try with_reducible rfl)
          try simp only [Act.put, sq1, sq2, sq3, sq4, sq5, sq6]
          refine tkN (i := 48) (v := ?_) rfl ?_ ?_
          rotate_left
          · (intro w hSw; (try dsimp only at hSw); go_simp; try with_reducible rfl)
          try simp only [Act.put, sq1, sq2, sq3, sq4, sq5, sq6]
          refine tkN (i := 49) (v := ?_) rfl ?_ ?_
          rotate_left
          · (intro w hSw; (try dsimp only at hSw); go_simp; try with_reducible rfl)
          try simp only [Act.put, sq1, sq2, sq3, sq4, sq5, sq6]
          refine tkN (i := 50) (v := ?_) rfl ?_ ?_
          rotate_left
          · (intro w hSw; (try dsimp only at hSw); go_simp; try with_reducible rfl)
          try simp only [Act.put, sq1, sq2, sq3, sq4, sq5, sq6]
          refine tkN (i := 51) (v := ?_) rfl ?_ ?_
          rotate_left
          · (intro w hSw; (try dsimp only at hSw); go_simp; try with_reducible rfl)
          try simp only [Act.put, sq1, sq2, sq3, sq4, sq5, sq6]
          refine tkN (i := 52) (v := ?_) rfl ?_ ?_
          rotate_left
          · (intro w hSw; (try dsimp only at hSw); go_simp; try with_reducible rfl)
          try simp only [Act.put, sq1, sq2, sq3, sq4, sq5, sq6]
          refine tkN (i := 53) (v := ?_) rfl ?_ ?_
          rotate_left
          · (intro w hSw; (try dsimp only at hSw); go_simp; try with_reducible rfl)
          try simp only [Act.put, sq1, sq2, sq3, sq4, sq5, sq6]
          refine tkN (i := 54) (v := ?_) rfl ?_ ?_
          rotate_left
          · (intro w hSw; (try dsimp only at hSw); go_simp; try with_reducible rfl)
          try simp only [Act.put, sq1, sq2, sq3, sq4, sq5, sq6]
          refine tkN (i := 55) (v := ?_) rfl ?_ ?_
          rotate_left
          · (intro w hSw; (try dsimp only at hSw); go_simp; try with_reducible rfl)
          try simp only [Act.put, sq1, sq2, sq3, sq4, sq5, sq6]
          refine tkN (i := 56) (v := ?_) rfl ?_ ?_
          rotate_left
          · (intro w hSw; (try dsimp only at hSw); go_simp; try with_reducible rfl)
          try simp only [Act.put, sq1, sq2, sq3, sq4, sq5, sq6]
          refine tkN (i := 57) (v := ?_) rfl ?_ ?_
          rotate_left
          · (intro w hSw; (try dsimp only at hSw); go_simp; try with_reducible rfl)
          try simp only [Act.put, sq1, sq2, sq3, sq4, sq5, sq6]
          refine tkN (i := 58) (v := ?_) rfl ?_ ?_
          rotate_left
          · (intro w hSw; (try dsimp only at hSw); go_simp; try with_reducible rfl)
          try simp only [Act.put, sq1, sq2, sq3, sq4, sq5, sq6]
          refine tkN (i := 59) (v := ?_) rfl ?_ ?_
          rotate_left
          · (intro w hSw; (try dsimp only at hSw); go_simp; try with_reducible rfl)
          try simp only [Act.put, sq1, sq2, sq3, sq4, sq5, sq6]
          refine tkN (i := 60) (v := ?_) rfl ?_ ?_
          rotate_left
          · (intro w hSw; (try dsimp only at hSw); go_simp; try with_reducible rfl)
          try simp only [Act.put, sq1, sq2, sq3, sq4, sq5, sq6]
          refine tkN (i := 61) (v := ?_) rfl ?_ ?_
          rotate_left
          · (intro w hSw; (try dsimp only at hSw); go_simp; try with_reducible rfl)
          try simp only [Act.put, sq1, sq2, sq3, sq4, sq5, sq6]
          refine tkN (i := 62) (v := ?_) rfl ?_ ?_
          rotate_left
          · (intro w hSw; (try dsimp only at hSw); go_simp; try with_reducible rfl)
          try simp only [Act.put, sq1, sq2, sq3, sq4, sq5, sq6]
          refine tkF (i := 63) rfl ?_
          try simp only [Act.put, sq1, sq2, sq3, sq4, sq5, sq6]
          refine tkF (i := 64) rfl ?_
          try simp only [Act.put, sq1, sq2, sq3, sq4, sq5, sq6]
          refine tkF (i := 65) rfl ?_
          try simp only [Act.put, sq1, sq2, sq3, sq4, sq5, sq6]
          refine tkF (i := 66) rfl ?_
          try simp only [Act.put, sq1, sq2, sq3, sq4, sq5, sq6]
          refine tkF (i := 67) rfl ?_
          try simp only [Act.put, sq1, sq2, sq3, sq4, sq5, sq6]
          refine tkF (i := 68) rfl ?_
          try simp only [Act.put, sq1, sq2, sq3, sq4, sq5, sq6]
          refine tkF (i := 69) rfl ?_
          try simp only [Act.put, sq1, sq2, sq3, sq4, sq5, sq6]
          refine tkF (i := 70) rfl ?_
          try simp only [Act.put, sq1, sq2, sq3, sq4, sq5, sq6]
          refine tkF (i := 71) rfl ?_
          try simp only [Act.put, sq1, sq2, sq3, sq4, sq5, sq6]
          refine tkF (i := 72) rfl ?_
          try simp only [Act.put, sq1, sq2, sq3, sq4, sq5, sq6]
          refine tkF (i := 73) rfl ?_
          try simp only [Act.put, sq1, sq2, sq3, sq4, sq5, sq6]
          refine tkN (i := 74) (v := ?_) rfl ?_ ?_
          rotate_left
          · (intro w hSw; (try dsimp only at hSw); go_simp; try with_reducible rfl)
          try simp only [Act.put, sq1, sq2, sq3, sq4, sq5, sq6]
          refine wpAnyH_done (by kernel_rfl) ?_ _
          clear hrule k1 k2 x0 x1 x2 x3 x4 l0 l1 l2 c0 c1 c2 c3 c4 c5 c6 c7 c8 c9 c10 olt llt qlt
          go_wp2_with fail
          refine (awake_any10 _).mono ?_; rintro e w9 ⟨rfl, hb9⟩
          have HBE := Lib.hid (HB1.out.trans (((H1.out.below hb9).x.be).mono HB1.out.size))
          go_wp2_with fail
          go_ret
          exact ⟨rfl, HBE.out⟩
      have hlk2 : decide (0 ≤ end1 e) = false := decide_eq_false hlk
      cases hsm : decide (t.root = t2.root)
      rotate_left
      · as_aux_lemma =>
          refine wp_region_held_drew (S := (fun W => SK W pb lo q p rb lb n cr cl V S T kd (L : Int) (s : Int) (u : Int) (v : Int) L s sn (gB L) (end1 e))) (by kernel_rfl) ?_ (fun hHeld => ?_)
          · exact Hd.out.sk hl HE.out HSN.out
          refine tkN (i := 0) (v := ?_) rfl ?_ ?_
          rotate_left
          · (intro w hSw; (try dsimp only at hSw); go_simp; try with_reducible rfl)
          try simp only [Act.put, sq1, sq2, sq3, sq4, sq5]
          refine tkN (i := 1) (v := ?_) rfl ?_ ?_
          rotate_left
          · (intro w hSw; (try dsimp only at hSw); go_simp; try with_reducible rfl)
          try simp only [Act.put, sq1, sq2, sq3, sq4, sq5, sq6]
          refine tkN (i := 2) (v := ?_) rfl ?_ ?_
          rotate_left
          · (intro w hSw; (try dsimp only at hSw); go_simp; try with_reducible rfl)
          try simp only [Act.put, sq1, sq2, sq3, sq4, sq5, sq6]
          refine tkN (i := 3) (v := ?_) rfl ?_ ?_
          rotate_left
          · (intro w hSw; (try dsimp only at hSw); go_simp; try with_reducible rfl)
          try simp only [Act.put, sq1, sq2, sq3, sq4, sq5, sq6]
          refine tkN (i := 4) (v := ?_) rfl ?_ ?_
          rotate_left
          · (intro w hSw; (try dsimp only at hSw); go_simp; try with_reducible rfl)
          try simp only [Act.put, sq1, sq2, sq3, sq4, sq5, sq6]
          refine tkN (i := 5) (v := ?_) rfl ?_ ?_
          rotate_left
          · (intro w hSw; (try dsimp only at hSw); go_simp; try with_reducible rfl)
          try simp only [Act.put, sq1, sq2, sq3, sq4, sq5, sq6]
          refine tkN (i := 6) (v := ?_) rfl ?_ ?_
          rotate_left
          · (intro w hSw; (try dsimp only at hSw); go_simp; try with_reducible rfl)
          try simp only [Act.put, sq1, sq2, sq3, sq4, sq5, sq6]
          refine wpAnyH_ready (rs := [7]) (by kernel_rfl) (by simp) ?_
          refine AllReadyH.cons rfl (fun K hK => ?_) ?_
          rotate_left
          · exact AllReadyH.nil
          go_simp
          (refine (levels_yes _ _ _ HR.out _).mono ?_; rintro e2 w2 ⟨rfl, B1⟩; have H1 := Lib.hid (Hd.out.below B1))
          go_wp2_with fail
          refine hK.out _ _ ?_ (fun hHeld => ?_)
          · (try dsimp only); (first | (with_reducible assumption) | (with_reducible exact H2.out.sk hl HE.out HSN.out) | (with_reducible exact H1.out.sk hl HE.out HSN.out) | (with_reducible exact Hd.out.sk hl HE.out HSN.out))
          clear hK K
          try simp only [Act.put, sq1, sq2, sq3, sq4, sq5, sq6]
          refine tkN (i := 8) (v := ?_) rfl ?_ ?_
          rotate_left
          · (intro w hSw; (try dsimp only at hSw); go_simp; try with_reducible rfl)
          try simp only [Act.put, sq1, sq2, sq3, sq4, sq5, sq6]
          refine tkN (i := 9) (v := ?_) rfl ?_ ?_
          rotate_left
          · (intro w hSw; (try dsimp only at hSw); go_simp; try with_reducible rfl)
          try simp only [Act.put, sq1, sq2, sq3, sq4, sq5, sq6]
          refine tkN (i := 10) (v := ?_) rfl ?_ ?_
          rotate_left
          · (intro w hSw; (try dsimp only at hSw); go_simp; try with_reducible rfl)
          try simp only [Act.put, sq1, sq2, sq3, sq4, sq5, sq6]
          refine tkN (i := 11) (v := ?_) rfl ?_ ?_
          rotate_left
          · (intro w hSw; (try dsimp only at hSw); go_simp; try with_reducible rfl)
          try simp only [Act.put, sq1, sq2, sq3, sq4, sq5, sq6]
          refine tkN (i := 12) (v := ?_) rfl ?_ ?_
          rotate_left
          · (intro w hSw; (try dsimp only at hSw); go_simp; try with_reducible rfl)
          try simp only [Act.put, sq1, sq2, sq3, sq4, sq5, sq6]
          refine tkN (i := 13) (v := ?_) rfl ?_ ?_
          rotate_left
          · (intro w hSw; (try dsimp only at hSw); go_simp; try with_reducible rfl)
          try simp only [Act.put, sq1, sq2, sq3, sq4, sq5, sq6]
          refine tkN (i := 14) (v := ?_) rfl ?_ ?_
          rotate_left
          · (intro w hSw; (try dsimp only at hSw); go_simp; try with_reducible rfl)
          try simp only [Act.put, sq1, sq2, sq3, sq4, sq5, sq6]
          refine tkN (i := 15) (v := ?_) rfl ?_ ?_
          rotate_left
          · (intro w hSw; (try dsimp only at hSw); go_simp; try with_reducible rfl)
          try simp only [Act.put, sq1, sq2, sq3, sq4, sq5, sq6]
          refine tkN (i := 16) (v := ?_) rfl ?_ ?_
          rotate_left
          · (intro w hSw; (try dsimp only at hSw); go_simp; try with_reducible rfl)
          try simp only [Act.put, sq1, sq2, sq3, sq4, sq5, sq6]
          refine tkN (i := 17) (v := ?_) rfl ?_ ?_
          rotate_left
          · (intro w hSw; (try dsimp only at hSw); go_simp; try with_reducible rfl)
          try simp only [Act.put, sq1, sq2, sq3, sq4, sq5, sq6]
          refine tkN (i := 18) (v := ?_) rfl ?_ ?_
          rotate_left
          · (intro w hSw; (try dsimp only at hSw); go_simp; try with_reducible rfl)
          try simp only [Act.put, sq1, sq2, sq3, sq4, sq5, sq6]
          refine tkN (i := 19) (v := ?_) rfl ?_ ?_
          rotate_left
          · (intro w hSw; (try dsimp only at hSw); go_simp; try with_reducible rfl)
          try simp only [Act.put, sq1, sq2, sq3, sq4, sq5, sq6]
          refine tkN (i := 20) (v := ?_) rfl ?_ ?_
          rotate_left
          · (intro w hSw; (try dsimp only at hSw); go_simp; try with_reducible rfl)
          try simp only [Act.put, sq1, sq2, sq3, sq4, sq5, sq6]
          refine tkN (i := 21) (v := ?_) rfl ?_ ?_
          rotate_left
          · (intro w hSw; (try dsimp only at hSw); go_simp; try with_reducible rfl)
          try simp only [Act.put, sq1, sq2, sq3, sq4, sq5, sq6]
          refine tkN (i := 22) (v := ?_) rfl ?_ ?_
          rotate_left
          · (intro w hSw; (try dsimp only at hSw); go_simp; try with_reducible rfl)
          try simp only [Act.put, sq1, sq2, sq3, sq4, sq5, sq6]
          refine tkN (i := 23) (v := ?_) rfl ?_ ?_
          rotate_left
          · (intro w hSw; (try dsimp only at hSw); go_simp; try with_reducible rfl)
          try simp only [Act.put, sq1, sq2, sq3, sq4, sq5, sq6]
          refine tkN (i := 24) (v := ?_) rfl ?_ ?_
          rotate_left
          · (intro w hSw; (try dsimp only at hSw); go_simp; try with_reducible rfl)
          try simp only [Act.put, sq1, sq2, sq3, sq4, sq5, sq6]
          refine tkN (i := 25) (v := ?_) rfl ?_ ?_
          rotate_left
          · (intro w hSw; (try dsimp only at hSw); go_simp; try with_reducible rfl)
          try simp only [Act.put, sq1, sq2, sq3, sq4, sq5, sq6]
          refine tkN (i := 26) (v := ?_) rfl ?_ ?_
          rotate_left
          · (intro w hSw; (try dsimp only at hSw); go_simp; try with_reducible rfl)
          try simp only [Act.put, sq1, sq2, sq3, sq4, sq5, sq6]
          refine tkN (i := 27) (v := ?_) rfl ?_ ?_
          rotate_left
          · (intro w hSw; (try dsimp only at hSw); go_simp; try with_reducible rfl)
          try simp only [Act.put, sq1, sq2, sq3, sq4, sq5, sq6]
          refine tkN (i := 28) (v := ?_) rfl ?_ ?_
          rotate_left
          · (intro w hSw; (try dsimp only at hSw); go_simp; try with_reducible rfl)
          try simp only [Act.put, sq1, sq2, sq3, sq4, sq5, sq6]
          refine tkN (i := 29) (v := ?_) rfl ?_ ?_
          rotate_left
          · (intro w hSw; (try dsimp only at hSw); go_simp; try with_reducible rfl)
          try simp only [Act.put, sq1, sq2, sq3, sq4, sq5, sq6]
          refine tkN (i := 30) (v := ?_) rfl ?_ ?_
          rotate_left
          · (intro w hSw; (try dsimp only at hSw); go_simp; try with_reducible rfl)
          try simp only [Act.put, sq1, sq2, sq3, sq4, sq5, sq6]
          refine tkN (i := 31) (v := ?_) rfl ?_ ?_
          rotate_left
          · (intro w hSw; (try dsimp only at hSw); go_simp; try with_reducible rfl)
          try simp only [Act.put, sq1, sq2, sq3, sq4, sq5, sq6]
          refine tkN (i := 32) (v := ?_) rfl ?_ ?_
          rotate_left
          · (intro w hSw; (try dsimp only at hSw); go_simp; try with_reducible rfl)
          try simp only [Act.put, sq1, sq2, sq3, sq4, sq5, sq6]
          refine tkN (i := 33) (v := ?_) rfl ?_ ?_
          rotate_left
          · (intro w hSw; (try dsimp only at hSw); go_simp; try with_reducible rfl)
          try simp only [Act.put, sq1, sq2, sq3, sq4, sq5, sq6]
          refine tkN (i := 34) (v := ?_) rfl ?_ ?_
          rotate_left
          · (intro w hSw; (try dsimp only at hSw); go_simp; try with_reducible rfl)
          try simp only [Act.put, sq1, sq2, sq3, sq4, sq5, sq6]
          refine tkN (i := 35) (v := ?_) rfl ?_ ?_
          rotate_left
          · (intro w hSw; (try dsimp only at hSw); go_simp; try with_reducible rfl)
          try simp only [Act.put, sq1, sq2, sq3, sq4, sq5, sq6]
          refine tkN (i := 36) (v := ?_) rfl ?_ ?_
          rotate_left
          · (intro w hSw; (try dsimp only at hSw); go_simp; try with_reducible rfl)
          try simp only [Act.put, sq1, sq2, sq3, sq4, sq5, sq6]
          refine tkN (i := 37) (v := ?_) rfl ?_ ?_
          rotate_left
          · (intro w hSw; (try dsimp only at hSw); go_simp; try with_reducible rfl)
          try simp only [Act.put, sq1, sq2, sq3, sq4, sq5, sq6]
          refine tkN (i := 38) (v := ?_) rfl ?_ ?_
          rotate_left
          · (intro w hSw; (try dsimp only at hSw); go_simp; try with_reducible rfl)
          try simp only [Act.put, sq1, sq2, sq3, sq4, sq5, sq6]
          refine tkN (i := 39) (v := ?_) rfl ?_ ?_
          rotate_left
          · (intro w hSw; (try dsimp only at hSw); go_simp; try with_reducible rfl)
          try simp only [Act.put, sq1, sq2, sq3, sq4, sq5, sq6]
          refine tkN (i := 40) (v := ?_) rfl ?_ ?_
          rotate_left
          · (intro w hSw; (try dsimp only at hSw); go_simp; try with_reducible rfl)
          try simp only [Act.put, sq1, sq2, sq3, sq4, sq5, sq6]
          refine tkN (i := 41) (v := ?_) rfl ?_ ?_
          rotate_left
          · (intro w hSw; (try dsimp only at hSw); go_simp; try with_reducible rfl)
          try simp only [Act.put, sq1, sq2, sq3, sq4, sq5, sq6]
          refine tkN (i := 42) (v := ?_) rfl ?_ ?_
          rotate_left
          · (intro w hSw; (try dsimp only at hSw); go_simp; try with_reducible rfl)
          try simp only [Act.put, sq1, sq2, sq3, sq4, sq5, sq6]
          refine tkN (i := 43) (v := ?_) rfl ?_ ?_
          rotate_left
          · (intro w hSw; (try dsimp only at hSw); go_simp; try with_reducible rfl)
          try simp only [Act.put, sq1, sq2, sq3, sq4, sq5, sq6]
          refine tkN (i := 44) (v := ?_) rfl ?_ ?_
          rotate_left
          · (intro w hSw; (try dsimp only at hSw); go_simp; try with_reducible rfl)
          try simp only [Act.put, sq1, sq2, sq3, sq4, sq5, sq6]
          refine tkN (i := 45) (v := ?_) rfl ?_ ?_
          rotate_left
          · (intro w hSw; (try dsimp only at hSw); go_simp; try with_reducible rfl)
          try simp only [Act.put, sq1, sq2, sq3, sq4, sq5, sq6]
          refine tkN (i := 46) (v := ?_) rfl ?_ ?_
          rotate_left
          · (intro w hSw; (try dsimp only at hSw); go_simp; try with_reducible rfl)
          try simp only [Act.put, sq1, sq2, sq3, sq4, sq5, sq6]
          refine tkN (i := 47) (v := ?_) rfl ?_ ?_
          rotate_left
          · (intro w hSw; (try dsimp only at hSw); go_simp; try with_reducible rfl)
          try simp only [Act.put, sq1, sq2, sq3, sq4, sq5, sq6]
          refine tkN (i := 48) (v := ?_) rfl ?_ ?_
          rotate_left
          · (intro w hSw; (try dsimp only at hSw); go_simp; try with_reducible rfl)
          try simp only [Act.put, sq1, sq2, sq3, sq4, sq5, sq6]
          refine tkN (i := 49) (v := ?_) rfl ?_ ?_
          rotate_left
          · (intro w hSw; (try dsimp only at hSw); go_simp; try with_reducible rfl)
          try simp only [Act.put, sq1, sq2, sq3, sq4, sq5, sq6]
          refine tkN (i := 50) (v := ?_) rfl ?_ ?_
          rotate_left
          · (intro w hSw; (try dsimp only at hSw); go_simp; try with_reducible rfl)
          try simp only [Act.put, sq1, sq2, sq3, sq4, sq5, sq6]
          refine tkN (i := 51) (v := ?_) rfl ?_ ?_
          rotate_left
          · (intro w hSw; (try dsimp only at hSw); go_simp; try with_reducible rfl)
          try simp only [Act.put, sq1, sq2, sq3, sq4, sq5, sq6]
          refine tkN (i := 52) (v := ?_) rfl ?_ ?_
          rotate_left
          · (intro w hSw; (try dsimp only at hSw); go_simp; try with_reducible rfl)
          try simp only [Act.put, sq1, sq2, sq3, sq4, sq5, sq6]
          refine tkN (i := 53) (v := ?_) rfl ?_ ?_
          rotate_left
          · (intro w hSw; (try dsimp only at hSw); go_simp; try with_reducible rfl)
          try simp only [Act.put, sq1, sq2, sq3, sq4, sq5, sq6]
          refine tkN (i := 54) (v := ?_) rfl ?_ ?_
          rotate_left
          · (intro w hSw; (try dsimp only at hSw); go_simp; try with_reducible rfl)
          try simp only [Act.put, sq1, sq2, sq3, sq4, sq5, sq6]
          refine tkN (i := 55) (v := ?_) rfl ?_ ?_
          rotate_left
          · (intro w hSw; (try dsimp only at hSw); go_simp; try with_reducible rfl)
          try simp only [Act.put, sq1, sq2, sq3, sq4, sq5, sq6]
          refine tkN (i := 56) (v := ?_) rfl ?_ ?_
          rotate_left
          · (intro w hSw; (try dsimp only at hSw); go_simp; try with_reducible rfl)
          try simp only [Act.put, sq1, sq2, sq3, sq4, sq5, sq6]
          refine tkN (i := 57) (v := ?_) rfl ?_ ?_
          rotate_left
          · (intro w hSw; (try dsimp only at hSw); go_simp; try with_reducible rfl)
          try simp only [Act.put, sq1, sq2, sq3, sq4, sq5, sq6]
          refine tkN (i := 58) (v := ?_) rfl ?_ ?_
          rotate_left
          · (intro w hSw; (try dsimp only at hSw); go_simp; try with_reducible rfl)
          try simp only [Act.put, sq1, sq2, sq3, sq4, sq5, sq6]
          refine tkN (i := 59) (v := ?_) rfl ?_ ?_
          rotate_left
          · (intro w hSw; (try dsimp only at hSw); go_simp; try with_reducible rfl)
          try simp only [Act.put, sq1, sq2, sq3, sq4, sq5, sq6]
          refine tkN (i := 60) (v := ?_) rfl ?_ ?_
          rotate_left
          · (intro w hSw; (try dsimp only at hSw); go_simp; try with_reducible rfl)
          try simp only [Act.put, sq1, sq2, sq3, sq4, sq5, sq6]
          refine tkN (i := 61) (v := ?_) rfl ?_ ?_
          rotate_left
          · (intro w hSw; (try dsimp only at hSw); go_simp; try with_reducible rfl)
          try simp only [Act.put, sq1, sq2, sq3, sq4, sq5, sq6]
          refine tkN (i := 62) (v := ?_) rfl ?_ ?_
          rotate_left
          · (intro w hSw; (try dsimp only at hSw); go_simp; try with_reducible rfl)
          try simp only [Act.put, sq1, sq2, sq3, sq4, sq5, sq6]
          refine tkN (i := 63) (v := ?_) rfl ?_ ?_
          rotate_left
          · (intro w hSw; (try dsimp only at hSw); go_simp; try with_reducible rfl)
          try simp only [Act.put, sq1, sq2, sq3, sq4, sq5, sq6]
          refine tkN (i := 64) (v := ?_) rfl ?_ ?_
          rotate_left
          · (intro w hSw; (try dsimp only at hSw); go_simp; try with_reducible rfl)
          try simp only [Act.put, sq1, sq2, sq3, sq4, sq5, sq6]
          refine tkN (i := 65) (v := ?_) rfl ?_ ?_
          rotate_left
          · (intro w hSw; (try dsimp only at hSw); go_simp; try with_reducible rfl)
          try simp only [Act.put, sq1, sq2, sq3, sq4, sq5, sq6]
          refine tkN (i := 66) (v := ?_) rfl ?_ ?_
          rotate_left
          · (intro w hSw; (try dsimp only at hSw); go_simp; try with_reducible rfl)
          try simp only [Act.put, sq1, sq2, sq3, sq4, sq5, sq6]
          refine tkN (i := 67) (v := ?_) rfl ?_ ?_
          rotate_left
          · (intro w hSw; (try dsimp only at hSw); go_simp; try with_reducible rfl)
          try simp only [Act.put, sq1, sq2, sq3, sq4, sq5, sq6]
          refine tkN (i := 68) (v := ?_) rfl ?_ ?_
          rotate_left
          · (intro w hSw; (try dsimp only at hSw); go_simp; try with_reducible rfl)
          try simp only [Act.put, sq1, sq2, sq3, sq4, sq5, sq6]
          refine tkN (i := 69) (v := ?_) rfl ?_ ?_
          rotate_left
          · (intro w hSw; (try dsimp only at hSw); go_simp; try with_reducible rfl)
          try simp only [Act.put, sq1, sq2, sq3, sq4, sq5, sq6]
          refine tkN (i := 70) (v := ?_) rfl ?_ ?_
          rotate_left
          · (intro w hSw; (try dsimp only at hSw); go_simp; try with_reducible rfl)
          try simp only [Act.put, sq1, sq2, sq3, sq4, sq5, sq6]
          refine tkN (i := 71) (v := ?_) rfl ?_ ?_
          rotate_left
          · (intro w hSw; (try dsimp only at hSw); go_simp; try with_reducible rfl)
          try simp only [Act.put, sq1, sq2, sq3, sq4, sq5, sq6]
          refine tkN (i := 72) (v := ?_) rfl ?_ ?_
          rotate_left
          · (intro w hSw; (try dsimp only at hSw); go_simp; try with_reducible rfl)
          try simp only [Act.put, sq1, sq2, sq3, sq4, sq5, sq6]
          refine wpAnyH_ready (rs := [73]) (by kernel_rfl) (by simp) ?_
          refine AllReadyH.cons rfl (fun K hK => ?_) ?_
          rotate_left
          · exact AllReadyH.nil
          go_simp
          (refine (xsame (bb := true) (k := 270000) (H1.out.x.less (by omega)) hlv huV hvV HT.out.1 HT.out.2.1 HT.out.2.2.1 HT.out.2.2.2.1 hsm).mono ?_; rintro e2 w2 ⟨rfl, X2, O2⟩; have H2 := Lib.hid (H1.out.next X2 O2))
          go_wp2_with fail
          refine hK.out _ _ ?_ (fun hHeld => ?_)
          · (try dsimp only); (first | (with_reducible assumption) | (with_reducible exact H2.out.sk hl HE.out HSN.out) | (with_reducible exact H1.out.sk hl HE.out HSN.out) | (with_reducible exact Hd.out.sk hl HE.out HSN.out))
          clear hK K
          try simp only [Act.put, sq1, sq2, sq3, sq4, sq5, sq6]
          refine tkN (i := 74) (v := ?_) rfl ?_ ?_
          rotate_left
          · (intro w hSw; (try dsimp only at hSw); go_simp; try with_reducible rfl)
          try simp only [Act.put, sq1, sq2, sq3, sq4, sq5, sq6]
          refine wpAnyH_done (by kernel_rfl) ?_ _
          clear hrule k1 k2 x0 x1 x2 x3 x4 l0 l1 l2 c0 c1 c2 c3 c4 c5 c6 c7 c8 c9 c10 olt llt qlt
          go_wp2_with fail
          refine (awake_any10 _).mono ?_; rintro e w9 ⟨rfl, hb9⟩
          have HBE := Lib.hid (HB1.out.trans (((H2.out.below hb9).x.be).mono HB1.out.size))
          go_wp2_with fail
          go_ret
          exact ⟨rfl, HBE.out⟩
      obtain ⟨a1, a2, b1, b2, ca0, ca1, hfour⟩ := four_of (HLV.out L hl) HR.out hlv HFI.out hsS HE.out hlk HT.out.1 HT.out.2.1 HT.out.2.2.1 HT.out.2.2.2.1 (by rw [HT.out.2.2.2.2.1]; exact HT.out.2.2.2.2.2.2.1) (by rw [HT.out.2.2.2.2.2.1]; exact HT.out.2.2.2.2.2.2.2) hsm
      have HP4 := Lib.hid hfour
      clear hfour
      have HQA : Hid ((Xn V L u :: (a2 ++ a1)).length ≤ 100000) := Lib.hid (len_beg HP4.out.rt (by rw [HT.out.2.2.2.2.1]; exact HRW.out L hl _ HT.out.2.2.2.2.2.2.1))
      have HQB : Hid ((Xn V L v :: (b2 ++ b1)).length ≤ 100000) := Lib.hid (len_beg HP4.out.rs (by rw [HT.out.2.2.2.2.2.1]; exact HRW.out L hl _ HT.out.2.2.2.2.2.2.2))
      refine wp_region_held_drew (S := (fun W => SK W pb lo q p rb lb n cr cl V S T kd (L : Int) (s : Int) (u : Int) (v : Int) L s sn (gB L) (end1 e))) (by kernel_rfl) ?_ (fun hHeld => ?_)
      · exact Hd.out.sk hl HE.out HSN.out
      refine tkN (i := 0) (v := ?_) rfl ?_ ?_
      rotate_left
      · (intro w hSw; (try dsimp only at hSw); go_simp; try with_reducible rfl)
      try simp only [Act.put, sq1, sq2, sq3, sq4, sq5]
      refine tkN (i := 1) (v := ?_) rfl ?_ ?_
      rotate_left
      · (intro w hSw; (try dsimp only at hSw); go_simp; try with_reducible rfl)
      try simp only [Act.put, sq1, sq2, sq3, sq4, sq5, sq6]
      refine tkN (i := 2) (v := ?_) rfl ?_ ?_
      rotate_left
      · (intro w hSw; (try dsimp only at hSw); go_simp; try with_reducible rfl)
      try simp only [Act.put, sq1, sq2, sq3, sq4, sq5, sq6]
      refine tkN (i := 3) (v := ?_) rfl ?_ ?_
      rotate_left
      · (intro w hSw; (try dsimp only at hSw); go_simp; try with_reducible rfl)
      try simp only [Act.put, sq1, sq2, sq3, sq4, sq5, sq6]
      refine tkN (i := 4) (v := ?_) rfl ?_ ?_
      rotate_left
      · (intro w hSw; (try dsimp only at hSw); go_simp; try with_reducible rfl)
      try simp only [Act.put, sq1, sq2, sq3, sq4, sq5, sq6]
      refine tkN (i := 5) (v := ?_) rfl ?_ ?_
      rotate_left
      · (intro w hSw; (try dsimp only at hSw); go_simp; try with_reducible rfl)
      try simp only [Act.put, sq1, sq2, sq3, sq4, sq5, sq6]
      refine tkN (i := 6) (v := ?_) rfl ?_ ?_
      rotate_left
      · (intro w hSw; (try dsimp only at hSw); go_simp; try with_reducible rfl)
      try simp only [Act.put, sq1, sq2, sq3, sq4, sq5, sq6]
      refine wpAnyH_ready (rs := [7]) (by kernel_rfl) (by simp) ?_
      refine AllReadyH.cons rfl (fun K hK => ?_) ?_
      rotate_left
      · exact AllReadyH.nil
      go_simp
      (refine (levels_yes _ _ _ HR.out _).mono ?_; rintro e2 w2 ⟨rfl, B1⟩; have H1 := Lib.hid (Hd.out.below B1))
      go_wp2_with fail
      refine hK.out _ _ ?_ (fun hHeld => ?_)
      · (try dsimp only); (first | (with_reducible assumption) | (with_reducible exact H2.out.sk hl HE.out HSN.out) | (with_reducible exact H1.out.sk hl HE.out HSN.out) | (with_reducible exact Hd.out.sk hl HE.out HSN.out))
      clear hK K
      try simp only [Act.put, sq1, sq2, sq3, sq4, sq5, sq6]
      refine tkN (i := 8) (v := ?_) rfl ?_ ?_
      rotate_left
      · (intro w hSw; (try dsimp only at hSw); go_simp; try with_reducible rfl)
      try simp only [Act.put, sq1, sq2, sq3, sq4, sq5, sq6]
      refine tkN (i := 9) (v := ?_) rfl ?_ ?_
      rotate_left
      · (intro w hSw; (try dsimp only at hSw); go_simp; try with_reducible rfl)
      try simp only [Act.put, sq1, sq2, sq3, sq4, sq5, sq6]
      refine tkN (i := 10) (v := ?_) rfl ?_ ?_
      rotate_left
      · (intro w hSw; (try dsimp only at hSw); go_simp; try with_reducible rfl)
      try simp only [Act.put, sq1, sq2, sq3, sq4, sq5, sq6]
      refine tkN (i := 11) (v := ?_) rfl ?_ ?_
      rotate_left
      · (intro w hSw; (try dsimp only at hSw); go_simp; try with_reducible rfl)
      try simp only [Act.put, sq1, sq2, sq3, sq4, sq5, sq6]
      refine tkN (i := 12) (v := ?_) rfl ?_ ?_
      rotate_left
      · (intro w hSw; (try dsimp only at hSw); go_simp; try with_reducible rfl)
      try simp only [Act.put, sq1, sq2, sq3, sq4, sq5, sq6]
      refine tkN (i := 13) (v := ?_) rfl ?_ ?_
      rotate_left
      · (intro w hSw; (try dsimp only at hSw); go_simp; try with_reducible rfl)
      try simp only [Act.put, sq1, sq2, sq3, sq4, sq5, sq6]
      refine tkN (i := 14) (v := ?_) rfl ?_ ?_
      rotate_left
      · (intro w hSw; (try dsimp only at hSw); go_simp; try with_reducible rfl)
      try simp only [Act.put, sq1, sq2, sq3, sq4, sq5, sq6]
      refine tkN (i := 15) (v := ?_) rfl ?_ ?_
      rotate_left
      · (intro w hSw; (try dsimp only at hSw); go_simp; try with_reducible rfl)
      try simp only [Act.put, sq1, sq2, sq3, sq4, sq5, sq6]
      refine tkN (i := 16) (v := ?_) rfl ?_ ?_
      rotate_left
      · (intro w hSw; (try dsimp only at hSw); go_simp; try with_reducible rfl)
      try simp only [Act.put, sq1, sq2, sq3, sq4, sq5, sq6]
      refine tkN (i := 17) (v := ?_) rfl ?_ ?_
      rotate_left
      · (intro w hSw; (try dsimp only at hSw); go_simp; try with_reducible rfl)
      try simp only [Act.put, sq1, sq2, sq3, sq4, sq5, sq6]
      refine tkN (i := 18) (v := ?_) rfl ?_ ?_
      rotate_left
      · (intro w hSw; (try dsimp only at hSw); go_simp; try with_reducible rfl)
      try simp only [Act.put, sq1, sq2, sq3, sq4, sq5, sq6]
      refine tkN (i := 19) (v := ?_) rfl ?_ ?_
      rotate_left
      · (intro w hSw; (try dsimp only at hSw); go_simp; try with_reducible rfl)
      try simp only [Act.put, sq1, sq2, sq3, sq4, sq5, sq6]
      refine tkN (i := 20) (v := ?_) rfl ?_ ?_
      rotate_left
      · (intro w hSw; (try dsimp only at hSw); go_simp; try with_reducible rfl)
      try simp only [Act.put, sq1, sq2, sq3, sq4, sq5, sq6]
      refine tkN (i := 21) (v := ?_) rfl ?_ ?_
      rotate_left
      · (intro w hSw; (try dsimp only at hSw); go_simp; try with_reducible rfl)
      try simp only [Act.put, sq1, sq2, sq3, sq4, sq5, sq6]
      refine tkN (i := 22) (v := ?_) rfl ?_ ?_
      rotate_left
      · (intro w hSw; (try dsimp only at hSw); go_simp; try with_reducible rfl)
      try simp only [Act.put, sq1, sq2, sq3, sq4, sq5, sq6]
      refine tkN (i := 23) (v := ?_) rfl ?_ ?_
      rotate_left
      · (intro w hSw; (try dsimp only at hSw); go_simp; try with_reducible rfl)
      try simp only [Act.put, sq1, sq2, sq3, sq4, sq5, sq6]
      refine tkN (i := 24) (v := ?_) rfl ?_ ?_
      rotate_left
      · (intro w hSw; (try dsimp only at hSw); go_simp; try with_reducible rfl)
      try simp only [Act.put, sq1, sq2, sq3, sq4, sq5, sq6]
      refine tkN (i := 25) (v := ?_) rfl ?_ ?_
      rotate_left
      · (intro w hSw; (try dsimp only at hSw); go_simp; try with_reducible rfl)
      try simp only [Act.put, sq1, sq2, sq3, sq4, sq5, sq6]
      refine tkN (i := 26) (v := ?_) rfl ?_ ?_
      rotate_left
      · (intro w hSw; (try dsimp only at hSw); go_simp; try with_reducible rfl)
      try simp only [Act.put, sq1, sq2, sq3, sq4, sq5, sq6]
      refine tkN (i := 27) (v := ?_) rfl ?_ ?_
      rotate_left
      · (intro w hSw; (try dsimp only at hSw); go_simp; try with_reducible rfl)
      try simp only [Act.put, sq1, sq2, sq3, sq4, sq5, sq6]
      refine tkN (i := 28) (v := ?_) rfl ?_ ?_
      rotate_left
      · (intro w hSw; (try dsimp only at hSw); go_simp; try with_reducible rfl)
      try simp only [Act.put, sq1, sq2, sq3, sq4, sq5, sq6]
      refine tkN (i := 29) (v := ?_) rfl ?_ ?_
      rotate_left
      · (intro w hSw; (try dsimp only at hSw); go_simp; try with_reducible rfl)
      try simp only [Act.put, sq1, sq2, sq3, sq4, sq5, sq6]
      refine tkN (i := 30) (v := ?_) rfl ?_ ?_
      rotate_left
      · (intro w hSw; (try dsimp only at hSw); go_simp; try with_reducible rfl)
      try simp only [Act.put, sq1, sq2, sq3, sq4, sq5, sq6]
      refine tkN (i := 31) (v := ?_) rfl ?_ ?_
      rotate_left
      · (intro w hSw; (try dsimp only at hSw); go_simp; try with_reducible rfl)
      try simp only [Act.put, sq1, sq2, sq3, sq4, sq5, sq6]
      refine tkN (i := 32) (v := ?_) rfl ?_ ?_
      rotate_left
      · (intro w hSw; (try dsimp only at hSw); go_simp; try with_reducible rfl)
      try simp only [Act.put, sq1, sq2, sq3, sq4, sq5, sq6]
      refine tkN (i := 33) (v := ?_) rfl ?_ ?_
      rotate_left
      · (intro w hSw; (try dsimp only at hSw); go_simp; try with_reducible rfl)
      try simp only [Act.put, sq1, sq2, sq3, sq4, sq5, sq6]
      refine tkN (i := 34) (v := ?_) rfl ?_ ?_
      rotate_left
      · (intro w hSw; (try dsimp only at hSw); go_simp; try with_reducible rfl)
      try simp only [Act.put, sq1, sq2, sq3, sq4, sq5, sq6]
      refine tkN (i := 35) (v := ?_) rfl ?_ ?_
      rotate_left
      · (intro w hSw; (try dsimp only at hSw); go_simp; try with_reducible rfl)
      try simp only [Act.put, sq1, sq2, sq3, sq4, sq5, sq6]
      refine tkN (i := 36) (v := ?_) rfl ?_ ?_
      rotate_left
      · (intro w hSw; (try dsimp only at hSw); go_simp; try with_reducible rfl)
      try simp only [Act.put, sq1, sq2, sq3, sq4, sq5, sq6]
      refine tkN (i := 37) (v := ?_) rfl ?_ ?_
      rotate_left
      · (intro w hSw; (try dsimp only at hSw); go_simp; try with_reducible rfl)
      try simp only [Act.put, sq1, sq2, sq3, sq4, sq5, sq6]
      refine tkN (i := 38) (v := ?_) rfl ?_ ?_
      rotate_left
      · (intro w hSw; (try dsimp only at hSw); go_simp; try with_reducible rfl)
      try simp only [Act.put, sq1, sq2, sq3, sq4, sq5, sq6]
      refine tkN (i := 39) (v := ?_) rfl ?_ ?_
      rotate_left
      · (intro w hSw; (try dsimp only at hSw); go_simp; try with_reducible rfl)
      try simp only [Act.put, sq1, sq2, sq3, sq4, sq5, sq6]
      refine tkN (i := 40) (v := ?_) rfl ?_ ?_
      rotate_left
      · (intro w hSw; (try dsimp only at hSw); go_simp; try with_reducible rfl)
      try simp only [Act.put, sq1, sq2, sq3, sq4, sq5, sq6]
      refine tkN (i := 41) (v := ?_) rfl ?_ ?_
      rotate_left
      · (intro w hSw; (try dsimp only at hSw); go_simp; try with_reducible rfl)
      try simp only [Act.put, sq1, sq2, sq3, sq4, sq5, sq6]
      refine tkN (i := 42) (v := ?_) rfl ?_ ?_
      rotate_left
      · (intro w hSw; (try dsimp only at hSw); go_simp; try with_reducible rfl)
      try simp only [Act.put, sq1, sq2, sq3, sq4, sq5, sq6]
      refine tkN (i := 43) (v := ?_) rfl ?_ ?_
      rotate_left
      · (intro w hSw; (try dsimp only at hSw); go_simp; try with_reducible rfl)
      try simp only [Act.put, sq1, sq2, sq3, sq4, sq5, sq6]
      refine tkN (i := 44) (v := ?_) rfl ?_ ?_
      rotate_left
      · (intro w hSw; (try dsimp only at hSw); go_simp; try with_reducible rfl)
      try simp only [Act.put, sq1, sq2, sq3, sq4, sq5, sq6]
      refine tkN (i := 45) (v := ?_) rfl ?_ ?_
      rotate_left
      · (intro w hSw; (try dsimp only at hSw); go_simp; try with_reducible rfl)
      try simp only [Act.put, sq1, sq2, sq3, sq4, sq5, sq6]
      refine tkN (i := 46) (v := ?_) rfl ?_ ?_
      rotate_left
      · (intro w hSw; (try dsimp only at hSw); go_simp; try with_reducible rfl)
      try simp only [Act.put, sq1, sq2, sq3, sq4, sq5, sq6]
      refine tkN (i := 47) (v := ?_) rfl ?_ ?_
      rotate_left
      · (intro w hSw; (try dsimp only at hSw); go_simp; try with_reducible rfl)
      try simp only [Act.put, sq1, sq2, sq3, sq4, sq5, sq6]
      refine tkN (i := 48) (v := ?_) rfl ?_ ?_
      rotate_left
      · (intro w hSw; (try dsimp only at hSw); go_simp; try with_reducible rfl)
      try simp only [Act.put, sq1, sq2, sq3, sq4, sq5, sq6]
      refine tkN (i := 49) (v := ?_) rfl ?_ ?_
      rotate_left
      · (intro w hSw; (try dsimp only at hSw); go_simp; try with_reducible rfl)
      try simp only [Act.put, sq1, sq2, sq3, sq4, sq5, sq6]
      refine tkN (i := 50) (v := ?_) rfl ?_ ?_
      rotate_left
      · (intro w hSw; (try dsimp only at hSw); go_simp; try with_reducible rfl)
      try simp only [Act.put, sq1, sq2, sq3, sq4, sq5, sq6]
      refine tkN (i := 51) (v := ?_) rfl ?_ ?_
      rotate_left
      · (intro w hSw; (try dsimp only at hSw); go_simp; try with_reducible rfl)
      try simp only [Act.put, sq1, sq2, sq3, sq4, sq5, sq6]
      refine tkN (i := 52) (v := ?_) rfl ?_ ?_
      rotate_left
      · (intro w hSw; (try dsimp only at hSw); go_simp; try with_reducible rfl)
      try simp only [Act.put, sq1, sq2, sq3, sq4, sq5, sq6]
      refine tkN (i := 53) (v := ?_) rfl ?_ ?_
      rotate_left
      · (intro w hSw; (try dsimp only at hSw); go_simp; try with_reducible rfl)
      try simp only [Act.put, sq1, sq2, sq3, sq4, sq5, sq6]
      refine tkN (i := 54) (v := ?_) rfl ?_ ?_
      rotate_left
      · (intro w hSw; (try dsimp only at hSw); go_simp; try with_reducible rfl)
      try simp only [Act.put, sq1, sq2, sq3, sq4, sq5, sq6]
      refine tkN (i := 55) (v := ?_) rfl ?_ ?_
      rotate_left
      · (intro w hSw; (try dsimp only at hSw); go_simp; try with_reducible rfl)
      try simp only [Act.put, sq1, sq2, sq3, sq4, sq5, sq6]
      refine tkN (i := 56) (v := ?_) rfl ?_ ?_
      rotate_left
      · (intro w hSw; (try dsimp only at hSw); go_simp; try with_reducible rfl)
      try simp only [Act.put, sq1, sq2, sq3, sq4, sq5, sq6]
      refine tkN (i := 57) (v := ?_) rfl ?_ ?_
      rotate_left
      · (intro w hSw; (try dsimp only at hSw); go_simp; try with_reducible rfl)
      try simp only [Act.put, sq1, sq2, sq3, sq4, sq5, sq6]
      refine tkN (i := 58) (v := ?_) rfl ?_ ?_
      rotate_left
      · (intro w hSw; (try dsimp only at hSw); go_simp; try with_reducible rfl)
      try simp only [Act.put, sq1, sq2, sq3, sq4, sq5, sq6]
      refine tkN (i := 59) (v := ?_) rfl ?_ ?_
      rotate_left
      · (intro w hSw; (try dsimp only at hSw); go_simp; try with_reducible rfl)
      try simp only [Act.put, sq1, sq2, sq3, sq4, sq5, sq6]
      refine tkN (i := 60) (v := ?_) rfl ?_ ?_
      rotate_left
      · (intro w hSw; (try dsimp only at hSw); go_simp; try with_reducible rfl)
      try simp only [Act.put, sq1, sq2, sq3, sq4, sq5, sq6]
      refine tkN (i := 61) (v := ?_) rfl ?_ ?_
      rotate_left
      · (intro w hSw; (try dsimp only at hSw); go_simp; try with_reducible rfl)
      try simp only [Act.put, sq1, sq2, sq3, sq4, sq5, sq6]
      refine tkN (i := 62) (v := ?_) rfl ?_ ?_
      rotate_left
      · (intro w hSw; (try dsimp only at hSw); go_simp; try with_reducible rfl)
      try simp only [Act.put, sq1, sq2, sq3, sq4, sq5, sq6]
      refine tkN (i := 63) (v := ?_) rfl ?_ ?_
      rotate_left
      · (intro w hSw; (try dsimp only at hSw); go_simp; try with_reducible rfl)
      try simp only [Act.put, sq1, sq2, sq3, sq4, sq5, sq6]
      refine tkN (i := 64) (v := ?_) rfl ?_ ?_
      rotate_left
      · (intro w hSw; (try dsimp only at hSw); go_simp; try with_reducible rfl)
      try simp only [Act.put, sq1, sq2, sq3, sq4, sq5, sq6]
      refine tkN (i := 65) (v := ?_) rfl ?_ ?_
      rotate_left
      · (intro w hSw; (try dsimp only at hSw); go_simp; try with_reducible rfl)
      try simp only [Act.put, sq1, sq2, sq3, sq4, sq5, sq6]
      refine tkN (i := 66) (v := ?_) rfl ?_ ?_
      rotate_left
      · (intro w hSw; (try dsimp only at hSw); go_simp; try with_reducible rfl)
      try simp only [Act.put, sq1, sq2, sq3, sq4, sq5, sq6]
      refine tkN (i := 67) (v := ?_) rfl ?_ ?_
      rotate_left
      · (intro w hSw; (try dsimp only at hSw); go_simp; try with_reducible rfl)
      try simp only [Act.put, sq1, sq2, sq3, sq4, sq5, sq6]
      refine tkN (i := 68) (v := ?_) rfl ?_ ?_
      rotate_left
      · (intro w hSw; (try dsimp only at hSw); go_simp; try with_reducible rfl)
      try simp only [Act.put, sq1, sq2, sq3, sq4, sq5, sq6]
      refine tkN (i := 69) (v := ?_) rfl ?_ ?_
      rotate_left
      · (intro w hSw; (try dsimp only at hSw); go_simp; try with_reducible rfl)
      try simp only [Act.put, sq1, sq2, sq3, sq4, sq5, sq6]
      refine tkN (i := 70) (v := ?_) rfl ?_ ?_
      rotate_left
      · (intro w hSw; (try dsimp only at hSw); go_simp; try with_reducible rfl)
      try simp only [Act.put, sq1, sq2, sq3, sq4, sq5, sq6]
      refine tkN (i := 71) (v := ?_) rfl ?_ ?_
      rotate_left
      · (intro w hSw; (try dsimp only at hSw); go_simp; try with_reducible rfl)
      try simp only [Act.put, sq1, sq2, sq3, sq4, sq5, sq6]
      refine tkN (i := 72) (v := ?_) rfl ?_ ?_
      rotate_left
      · (intro w hSw; (try dsimp only at hSw); go_simp; try with_reducible rfl)
      try simp only [Act.put, sq1, sq2, sq3, sq4, sq5, sq6]
      refine wpAnyH_ready (rs := [73]) (by kernel_rfl) (by simp) ?_
      refine AllReadyH.cons rfl (fun K hK => ?_) ?_
      rotate_left
      · exact AllReadyH.nil
      go_simp
      (refine (xsame (bb := false) (k := 270000) (H1.out.x.less (by omega)) hlv huV hvV HT.out.1 HT.out.2.1 HT.out.2.2.1 HT.out.2.2.2.1 hsm).mono ?_; rintro e2 w2 ⟨rfl, X2, O2⟩; have H2 := Lib.hid (H1.out.next X2 O2))
      go_wp2_with fail
      refine hK.out _ _ ?_ (fun hHeld => ?_)
      · (try dsimp only); (first | (with_reducible assumption) | (with_reducible exact H2.out.sk hl HE.out HSN.out) | (with_reducible exact H1.out.sk hl HE.out HSN.out) | (with_reducible exact Hd.out.sk hl HE.out HSN.out))
      clear hK K
      try simp only [Act.put, sq1, sq2, sq3, sq4, sq5, sq6]
      refine tkN (i := 74) (v := ?_) rfl ?_ ?_
      rotate_left
      · (intro w hSw; (try dsimp only at hSw); go_simp; try with_reducible rfl)
      try simp only [Act.put, sq1, sq2, sq3, sq4, sq5, sq6]
      refine wpAnyH_done (by kernel_rfl) ?_ _
      clear hrule k1 k2 x0 x1 x2 x3 x4 l0 l1 l2 c0 c1 c2 c3 c4 c5 c6 c7 c8 c9 c10 olt llt qlt
      clear Hd H1 X2 O2 B1
      obtain ⟨x0, x1, x2, x3, x4, l0, l1, l2, c0, c1, c2, c3, c4, c5, c6, c7, c8, c9, c10⟩ := SB.rule _ _ _ _ _ _ _ _ _ _ _ _ _ _ _ _ _ _ H2.out.sb
      obtain ⟨olt, llt, qlt⟩ := H2.out.lt
      have hrule := SB.rule pb lo q p rb lb n cr cl V S T kd (L : Int) (s : Int) (u : Int) (v : Int)
      go_wp2_with fail
      clear hrule x0 x1 x2 x3 x4 l0 l1 l2 c0 c1 c2 c3 c4 c5 c6 c7 c8 c9 c10 olt llt qlt
      have H2d := Lib.hid H2.out.drew
      clear H2
      obtain ⟨x0, x1, x2, x3, x4, l0, l1, l2, c0, c1, c2, c3, c4, c5, c6, c7, c8, c9, c10⟩ := SB.rule _ _ _ _ _ _ _ _ _ _ _ _ _ _ _ _ _ _ H2d.out.sb
      obtain ⟨olt, llt, qlt⟩ := H2d.out.lt
      have hrule := SB.rule pb lo q p rb lb n cr cl V S T kd (L : Int) (s : Int) (u : Int) (v : Int)
      go_region_held3 (fun W => SB W pb lo q p rb lb n cr cl V S T kd (L : Int) (s : Int) (u : Int) (v : Int)) (first | (with_reducible assumption) | (with_reducible exact H4.out.sb) | (with_reducible exact H3.out.sb) | (with_reducible exact H2d.out.sb))
        (first
          | ((with_reducible refine (vert_at HR.out hlv huV _).mono ?_); rintro e w3 ⟨rfl, B3⟩; have H3 := Lib.hid (H2d.out.below B3))
          | ((with_reducible refine (vert_at HR.out hlv hvV _).mono ?_); rintro e w3 ⟨rfl, B3⟩; have H4 := Lib.hid (H3.out.below B3))
          | fail)
      clear hrule x0 x1 x2 x3 x4 l0 l1 l2 c0 c1 c2 c3 c4 c5 c6 c7 c8 c9 c10 olt llt qlt
      have H4d := Lib.hid H4.out
      clear H2d H3 H4
      obtain ⟨x0, x1, x2, x3, x4, l0, l1, l2, c0, c1, c2, c3, c4, c5, c6, c7, c8, c9, c10⟩ := SB.rule _ _ _ _ _ _ _ _ _ _ _ _ _ _ _ _ _ _ H4d.out.sb
      obtain ⟨olt, llt, qlt⟩ := H4d.out.lt
      have hrule := SB.rule pb lo q p rb lb n cr cl V S T kd (L : Int) (s : Int) (u : Int) (v : Int)
      go_wp2_with fail
      clear hrule x0 x1 x2 x3 x4 l0 l1 l2 c0 c1 c2 c3 c4 c5 c6 c7 c8 c9 c10 olt llt qlt
      have H5d := Lib.hid H4d.out.drew
      clear H4d
      obtain ⟨x0, x1, x2, x3, x4, l0, l1, l2, c0, c1, c2, c3, c4, c5, c6, c7, c8, c9, c10⟩ := SB.rule _ _ _ _ _ _ _ _ _ _ _ _ _ _ _ _ _ _ H5d.out.sb
      obtain ⟨olt, llt, qlt⟩ := H5d.out.lt
      have hrule := SB.rule pb lo q p rb lb n cr cl V S T kd (L : Int) (s : Int) (u : Int) (v : Int)
      have hhead : True := trivial
      go_region_held3 (fun W => SB W pb lo q p rb lb n cr cl V S T kd (L : Int) (s : Int) (u : Int) (v : Int)) (first | (with_reducible assumption) | (with_reducible exact H8.out.sb) | (with_reducible exact H7.out.sb) | (with_reducible exact H6.out.sb) | (with_reducible exact H5.out.sb) | (with_reducible exact H5d.out.sb))
        (first
          | (go_at_call 16; ((with_reducible refine (xbegin (k := 267000) (H5d.out.x.less (by omega)) hlv huV HP4.out.ht HP4.out.rt (by omega)).mono ?_); rintro e w3 ⟨g1, ts1, t3, rfl, X5, M1, R1, K1, O5⟩; have H5 := Lib.hid (H5d.out.next X5 O5); have HM1 := Lib.hid (And.intro M1 (And.intro R1 K1))))
          | (go_at_call 15; ((with_reducible refine (xlist (k := 266000) (H5.out.x.less (by omega)) HM1.out.1 rfl).mono ?_); rintro e w3 ⟨v5, rfl, L5, X6, O6⟩; have H6 := Lib.hid (H5.out.next X6 O6); have HV6 := Lib.hid (LI.cong L5 HM1.out.2.1)))
          | (go_at_call 16; ((with_reducible refine (xbegin (k := 263000) (H6.out.x.less (by omega)) hlv hvV (HM1.out.2.2 _ HP4.out.hs HP4.out.st) HP4.out.rs (by omega)).mono ?_); rintro e w3 ⟨g2, ts2, t4, rfl, X7, M2, R2, K2, O7⟩; have H7 := Lib.hid (H6.out.next X7 O7); have HM2 := Lib.hid (And.intro M2 (And.intro R2 K2)); have HV7 := Lib.hid (H6.out.x.li O7 HV6.out)))
          | (go_at_call 15; ((with_reducible refine (xlist (k := 262000) (H7.out.x.less (by omega)) HM2.out.1 rfl).mono ?_); rintro e w3 ⟨v6, rfl, L6, X8, O8⟩; have H8 := Lib.hid (H7.out.next X8 O8); have HV8a := Lib.hid (H7.out.x.li O8 HV7.out); have HV8b := Lib.hid (LI.cong L6 HM2.out.2.1)))
          | fail)
      clear hrule x0 x1 x2 x3 x4 l0 l1 l2 c0 c1 c2 c3 c4 c5 c6 c7 c8 c9 c10 olt llt qlt
      have HF4 := Lib.hid (HP4.out.begun HFI.out HM1.out.2.1 HM2.out.2.1 HM1.out.1 HM1.out.2.2 HM2.out.1 HM2.out.2.2)
      clear H5d H5 H6 H7 HV6 HV7 HM1 HM2
      obtain ⟨x0, x1, x2, x3, x4, l0, l1, l2, c0, c1, c2, c3, c4, c5, c6, c7, c8, c9, c10⟩ := SB.rule _ _ _ _ _ _ _ _ _ _ _ _ _ _ _ _ _ _ H8.out.sb
      obtain ⟨olt, llt, qlt⟩ := H8.out.lt
      have hrule := SB.rule pb lo q p rb lb n cr cl V S T kd (L : Int) (s : Int) (u : Int) (v : Int)
      go_wp2_with fail
      clear hrule x0 x1 x2 x3 x4 l0 l1 l2 c0 c1 c2 c3 c4 c5 c6 c7 c8 c9 c10 olt llt qlt
      have H8d := Lib.hid H8.out.drew
      have HVa := Lib.hid HV8a.out.drew
      have HVb := Lib.hid HV8b.out.drew
      clear H8 HV8a HV8b
      obtain ⟨x0, x1, x2, x3, x4, l0, l1, l2, c0, c1, c2, c3, c4, c5, c6, c7, c8, c9, c10⟩ := SB.rule _ _ _ _ _ _ _ _ _ _ _ _ _ _ _ _ _ _ H8d.out.sb
      obtain ⟨olt, llt, qlt⟩ := H8d.out.lt
      have hrule := SB.rule pb lo q p rb lb n cr cl V S T kd (L : Int) (s : Int) (u : Int) (v : Int)
      go_region_held3 (fun W => SB W pb lo q p rb lb n cr cl V S T kd (L : Int) (s : Int) (u : Int) (v : Int)) (first | (with_reducible assumption) | (with_reducible exact H9.out.sb) | (with_reducible exact H8d.out.sb))
        (first
          | (go_at_call 17; ((with_reducible refine (xlink (k := 252000) (H8d.out.x.less (by omega)) hlv huV hvV hsS HF4.out (by omega)).mono ?_); rintro e w3 ⟨g3, ts3, t5, rfl, X9, M3, R3, O9⟩; have H9 := Lib.hid (H8d.out.next X9 O9); have HM3 := Lib.hid (And.intro M3 R3); have HVa9 := Lib.hid (H8d.out.x.li O9 HVa.out); have HVb9 := Lib.hid (H8d.out.x.li O9 HVb.out)))
          | fail)
      clear hrule x0 x1 x2 x3 x4 l0 l1 l2 c0 c1 c2 c3 c4 c5 c6 c7 c8 c9 c10 olt llt qlt
      clear H8d HVa HVb HF4
      obtain ⟨x0, x1, x2, x3, x4, l0, l1, l2, c0, c1, c2, c3, c4, c5, c6, c7, c8, c9, c10⟩ := SB.rule _ _ _ _ _ _ _ _ _ _ _ _ _ _ _ _ _ _ H9.out.sb
      obtain ⟨olt, llt, qlt⟩ := H9.out.lt
      have hrule := SB.rule pb lo q p rb lb n cr cl V S T kd (L : Int) (s : Int) (u : Int) (v : Int)
      go_wp2_with fail
      clear hrule x0 x1 x2 x3 x4 l0 l1 l2 c0 c1 c2 c3 c4 c5 c6 c7 c8 c9 c10 olt llt qlt
      have H9d := Lib.hid H9.out.drew
      have HVa := Lib.hid HVa9.out.drew
      have HVb := Lib.hid HVb9.out.drew
      clear H9 HVa9 HVb9
      obtain ⟨x0, x1, x2, x3, x4, l0, l1, l2, c0, c1, c2, c3, c4, c5, c6, c7, c8, c9, c10⟩ := SB.rule _ _ _ _ _ _ _ _ _ _ _ _ _ _ _ _ _ _ H9d.out.sb
      obtain ⟨olt, llt, qlt⟩ := H9d.out.lt
      have hrule := SB.rule pb lo q p rb lb n cr cl V S T kd (L : Int) (s : Int) (u : Int) (v : Int)
      refine wp_region_held_drew (S := (fun W => SB W pb lo q p rb lb n cr cl V S T kd (L : Int) (s : Int) (u : Int) (v : Int))) (by kernel_rfl) ?_ (fun hHeld => ?_)
      · exact H9d.out.sb
      refine wpAnyH_take (i := 0) (v := ?_) rfl (by kernel_rfl) (by kernel_rfl) (by kernel_rfl) (fun _ _ _ h => h) (Or.inl ⟨by rfl, ?_⟩) (by assumption) ?_
      rotate_left
      · (intro w hSw; (try dsimp only at hSw); go_simp; try with_reducible rfl)
      try simp only [Act.put, List.setIfInBounds_toArray, List.set_cons_zero, List.set_cons_succ, List.getElem_toArray, List.getElem_cons_zero]
      refine wpAnyH_take (i := 1) (v := ?_) rfl (by kernel_rfl) (by kernel_rfl) (by kernel_rfl) (fun _ _ _ h => h) (Or.inl ⟨by rfl, ?_⟩) (by assumption) ?_
      rotate_left
      · (intro w hSw; (try dsimp only at hSw); go_simp; try with_reducible rfl)
      try simp only [Act.put, List.setIfInBounds_toArray, List.set_cons_zero, List.set_cons_succ, List.getElem_toArray, List.getElem_cons_zero, List.getElem_cons_succ]
      refine wpAnyH_take (i := 2) (v := ?_) rfl (by kernel_rfl) (by kernel_rfl) (by kernel_rfl) (fun _ _ _ h => h) (Or.inl ⟨by rfl, ?_⟩) (by assumption) ?_
      rotate_left
      · (intro w hSw; (try dsimp only at hSw); go_simp; try with_reducible rfl)
      try simp only [Act.put, List.setIfInBounds_toArray, List.set_cons_zero, List.set_cons_succ, List.getElem_toArray, List.getElem_cons_zero, List.getElem_cons_succ]
      refine wpAnyH_take (i := 3) (v := ?_) rfl (by kernel_rfl) (by kernel_rfl) (by kernel_rfl) (fun _ _ _ h => h) (Or.inl ⟨by rfl, ?_⟩) (by assumption) ?_
      rotate_left
      · (intro w hSw; (try dsimp only at hSw); go_simp; try with_reducible rfl)
      try simp only [Act.put, List.setIfInBounds_toArray, List.set_cons_zero, List.set_cons_succ, List.getElem_toArray, List.getElem_cons_zero, List.getElem_cons_succ]
      refine wpAnyH_take (i := 4) (v := ?_) rfl (by kernel_rfl) (by kernel_rfl) (by kernel_rfl) (fun _ _ _ h => h) (Or.inl ⟨by rfl, ?_⟩) (by assumption) ?_
      rotate_left
      · (intro w hSw; (try dsimp only at hSw); go_simp; try with_reducible rfl)
      try simp only [Act.put, List.setIfInBounds_toArray, List.set_cons_zero, List.set_cons_succ, List.getElem_toArray, List.getElem_cons_zero, List.getElem_cons_succ]
      refine wpAnyH_take (i := 5) (v := ?_) rfl (by kernel_rfl) (by kernel_rfl) (by kernel_rfl) (fun _ _ _ h => h) (Or.inl ⟨by rfl, ?_⟩) (by assumption) ?_
      rotate_left
      · (intro w hSw; (try dsimp only at hSw); go_simp; try with_reducible rfl)
      try simp only [Act.put, List.setIfInBounds_toArray, List.set_cons_zero, List.set_cons_succ, List.getElem_toArray, List.getElem_cons_zero, List.getElem_cons_succ]
      refine wpAnyH_take (i := 6) (v := ?_) rfl (by kernel_rfl) (by kernel_rfl) (by kernel_rfl) (fun _ _ _ h => h) (Or.inl ⟨by rfl, ?_⟩) (by assumption) ?_
      rotate_left
      · (intro w hSw; (try dsimp only at hSw); go_simp; try with_reducible rfl)
      try simp only [Act.put, List.setIfInBounds_toArray, List.set_cons_zero, List.set_cons_succ, List.getElem_toArray, List.getElem_cons_zero, List.getElem_cons_succ]
      refine wpAnyH_take (i := 7) (v := ?_) rfl (by kernel_rfl) (by kernel_rfl) (by kernel_rfl) (fun _ _ _ h => h) (Or.inl ⟨by rfl, ?_⟩) (by assumption) ?_
      rotate_left
      · (intro w hSw; (try dsimp only at hSw); go_simp; try with_reducible rfl)
      try simp only [Act.put, List.setIfInBounds_toArray, List.set_cons_zero, List.set_cons_succ, List.getElem_toArray, List.getElem_cons_zero, List.getElem_cons_succ]
      refine wpAnyH_ready (rs := [8]) (by kernel_rfl) (by simp) ?_
      refine AllReadyH.cons rfl (fun K hK => ?_) ?_
      rotate_left
      · exact AllReadyH.nil
      go_simp
      (refine (xcut (k := 242000) (H9d.out.x.less (by omega)) hlv hsS HM3.out.1 HM3.out.2 (by omega)).mono ?_; rintro e w3 ⟨g4, ts4, ti, tu, rfl, X10, M4, M5, R4, R5, O10⟩; have H10 := Lib.hid (H9d.out.next X10 O10))
      go_wp2_with fail
      refine hK.out _ _ ?_ (fun hHeld => ?_)
      · (try dsimp only); exact H10.out.sb
      clear hK K
      try simp only [Act.put, List.setIfInBounds_toArray, List.set_cons_zero, List.set_cons_succ, List.getElem_toArray, List.getElem_cons_zero, List.getElem_cons_succ]
      refine wpAnyH_take (i := 9) (v := ?_) rfl (by kernel_rfl) (by kernel_rfl) (by kernel_rfl) (fun _ _ _ h => h) (Or.inl ⟨by rfl, ?_⟩) (by assumption) ?_
      rotate_left
      · (intro w hSw; (try dsimp only at hSw); go_simp; try with_reducible rfl)
      try simp only [Act.put, List.setIfInBounds_toArray, List.set_cons_zero, List.set_cons_succ, List.getElem_toArray, List.getElem_cons_zero, List.getElem_cons_succ]
      refine wpAnyH_take (i := 10) (v := ?_) rfl (by kernel_rfl) (by kernel_rfl) (by kernel_rfl) (fun _ _ _ h => h) (Or.inl ⟨by rfl, ?_⟩) (by assumption) ?_
      rotate_left
      · (intro w hSw; (try dsimp only at hSw); go_simp; try with_reducible rfl)
      try simp only [Act.put, List.setIfInBounds_toArray, List.set_cons_zero, List.set_cons_succ, List.getElem_toArray, List.getElem_cons_zero, List.getElem_cons_succ]
      refine wpAnyH_take (i := 11) (v := ?_) rfl (by kernel_rfl) (by kernel_rfl) (by kernel_rfl) (fun _ _ _ h => h) (Or.inl ⟨by rfl, ?_⟩) (by assumption) ?_
      rotate_left
      · (intro w hSw; (try dsimp only at hSw); go_simp; try with_reducible rfl)
      try simp only [Act.put, List.setIfInBounds_toArray, List.set_cons_zero, List.set_cons_succ, List.getElem_toArray, List.getElem_cons_zero, List.getElem_cons_succ]
      refine wpAnyH_take (i := 12) (v := ?_) rfl (by kernel_rfl) (by kernel_rfl) (by kernel_rfl) (fun _ _ _ h => h) (Or.inl ⟨by rfl, ?_⟩) (by assumption) ?_
      rotate_left
      · (intro w hSw; (try dsimp only at hSw); go_simp; try with_reducible rfl)
      try simp only [Act.put, List.setIfInBounds_toArray, List.set_cons_zero, List.set_cons_succ, List.getElem_toArray, List.getElem_cons_zero, List.getElem_cons_succ]
      refine wpAnyH_take (i := 13) (v := ?_) rfl (by kernel_rfl) (by kernel_rfl) (by kernel_rfl) (fun _ _ _ h => h) (Or.inl ⟨by rfl, ?_⟩) (by assumption) ?_
      rotate_left
      · (intro w hSw; (try dsimp only at hSw); go_simp; try with_reducible rfl)
      try simp only [Act.put, List.setIfInBounds_toArray, List.set_cons_zero, List.set_cons_succ, List.getElem_toArray, List.getElem_cons_zero, List.getElem_cons_succ]
      refine wpAnyH_done (by kernel_rfl) ?_ _
      clear hrule x0 x1 x2 x3 x4 l0 l1 l2 c0 c1 c2 c3 c4 c5 c6 c7 c8 c9 c10 olt llt qlt
      have HM4 := Lib.hid (And.intro M4 (And.intro M5 (And.intro R4 R5)))
      have HVa10 := Lib.hid (H9d.out.x.li O10 HVa.out)
      have HVb10 := Lib.hid (H9d.out.x.li O10 HVb.out)
      clear M4 M5 R4 R5 X10 O10 H9d HVa HVb
      obtain ⟨x0, x1, x2, x3, x4, l0, l1, l2, c0, c1, c2, c3, c4, c5, c6, c7, c8, c9, c10⟩ := SB.rule _ _ _ _ _ _ _ _ _ _ _ _ _ _ _ _ _ _ H10.out.sb
      obtain ⟨olt, llt, qlt⟩ := H10.out.lt
      have hrule := SB.rule pb lo q p rb lb n cr cl V S T kd (L : Int) (s : Int) (u : Int) (v : Int)
      go_wp2_with fail
      clear hrule x0 x1 x2 x3 x4 l0 l1 l2 c0 c1 c2 c3 c4 c5 c6 c7 c8 c9 c10 olt llt qlt
      have H10d := H10
      have HVa := HVa10
      have HVb := HVb10
      clear H10 HVa10 HVb10
      obtain ⟨x0, x1, x2, x3, x4, l0, l1, l2, c0, c1, c2, c3, c4, c5, c6, c7, c8, c9, c10⟩ := SB.rule _ _ _ _ _ _ _ _ _ _ _ _ _ _ _ _ _ _ H10d.out.sb
      obtain ⟨olt, llt, qlt⟩ := H10d.out.lt
      have hrule := SB.rule pb lo q p rb lb n cr cl V S T kd (L : Int) (s : Int) (u : Int) (v : Int)
      have hxt : Xn V L u ∈ tu.row := by rw [HM4.out.2.2.2]; exact List.mem_cons_self ..
      have hyt : Xn V L v ∈ ti.row := by rw [HM4.out.2.2.1]; exact List.mem_cons_self ..
      refine (xlist (k := 241000) (H10d.out.x.less (by omega)) HM4.out.1 rfl).mono ?_; rintro e w3 ⟨v7, rfl, L7, X11, O11⟩; have H11 := Lib.hid (H10d.out.next X11 O11); have HVc := Lib.hid (LI.cong L7 HM4.out.2.2.1); have HVa11 := Lib.hid (H10d.out.x.li O11 HVa.out); have HVb11 := Lib.hid (H10d.out.x.li O11 HVb.out)
      clear hrule x0 x1 x2 x3 x4 l0 l1 l2 c0 c1 c2 c3 c4 c5 c6 c7 c8 c9 c10 olt llt qlt
      obtain ⟨x0, x1, x2, x3, x4, l0, l1, l2, c0, c1, c2, c3, c4, c5, c6, c7, c8, c9, c10⟩ := SB.rule _ _ _ _ _ _ _ _ _ _ _ _ _ _ _ _ _ _ H11.out.sb
      obtain ⟨olt, llt, qlt⟩ := H11.out.lt
      have hrule := SB.rule pb lo q p rb lb n cr cl V S T kd (L : Int) (s : Int) (u : Int) (v : Int)
      go_wp2_with fail
      refine (same_yes HVc.out HVb11.out HQB.out).mono ?_; rintro e w3 ⟨rfl, B12⟩; have H12 := Lib.hid (H11.out.below B12); have HVa12 := Lib.hid (HVa11.out.below B12)
      clear hrule x0 x1 x2 x3 x4 l0 l1 l2 c0 c1 c2 c3 c4 c5 c6 c7 c8 c9 c10 olt llt qlt
      obtain ⟨x0, x1, x2, x3, x4, l0, l1, l2, c0, c1, c2, c3, c4, c5, c6, c7, c8, c9, c10⟩ := SB.rule _ _ _ _ _ _ _ _ _ _ _ _ _ _ _ _ _ _ H12.out.sb
      obtain ⟨olt, llt, qlt⟩ := H12.out.lt
      have hrule := SB.rule pb lo q p rb lb n cr cl V S T kd (L : Int) (s : Int) (u : Int) (v : Int)
      go_wp2_with fail
      refine (xlist (k := 240000) (H12.out.x.less (by omega)) HM4.out.2.1 rfl).mono ?_; rintro e w3 ⟨v8, rfl, L8, X13, O13⟩; have H13 := Lib.hid (H12.out.next X13 O13); have HVd := Lib.hid (LI.cong L8 HM4.out.2.2.2); have HVa13 := Lib.hid (H12.out.x.li O13 HVa12.out)
      clear hrule x0 x1 x2 x3 x4 l0 l1 l2 c0 c1 c2 c3 c4 c5 c6 c7 c8 c9 c10 olt llt qlt
      obtain ⟨x0, x1, x2, x3, x4, l0, l1, l2, c0, c1, c2, c3, c4, c5, c6, c7, c8, c9, c10⟩ := SB.rule _ _ _ _ _ _ _ _ _ _ _ _ _ _ _ _ _ _ H13.out.sb
      obtain ⟨olt, llt, qlt⟩ := H13.out.lt
      have hrule := SB.rule pb lo q p rb lb n cr cl V S T kd (L : Int) (s : Int) (u : Int) (v : Int)
      go_wp2_with fail
      refine (same_yes HVd.out HVa13.out HQA.out).mono ?_; rintro e w3 ⟨rfl, B14⟩; have H14 := Lib.hid (H13.out.below B14)
      clear hrule x0 x1 x2 x3 x4 l0 l1 l2 c0 c1 c2 c3 c4 c5 c6 c7 c8 c9 c10 olt llt qlt
      obtain ⟨x0, x1, x2, x3, x4, l0, l1, l2, c0, c1, c2, c3, c4, c5, c6, c7, c8, c9, c10⟩ := SB.rule _ _ _ _ _ _ _ _ _ _ _ _ _ _ _ _ _ _ H14.out.sb
      obtain ⟨olt, llt, qlt⟩ := H14.out.lt
      have hrule := SB.rule pb lo q p rb lb n cr cl V S T kd (L : Int) (s : Int) (u : Int) (v : Int)
      go_wp2_with fail
      refine (xroot (k := 239000) (H14.out.x.less (by omega)) HM4.out.2.1 hxt rfl).mono ?_; rintro e w3 ⟨rfl, X15, O15⟩; have H15 := Lib.hid (H14.out.next X15 O15)
      clear hrule x0 x1 x2 x3 x4 l0 l1 l2 c0 c1 c2 c3 c4 c5 c6 c7 c8 c9 c10 olt llt qlt
      obtain ⟨x0, x1, x2, x3, x4, l0, l1, l2, c0, c1, c2, c3, c4, c5, c6, c7, c8, c9, c10⟩ := SB.rule _ _ _ _ _ _ _ _ _ _ _ _ _ _ _ _ _ _ H15.out.sb
      obtain ⟨olt, llt, qlt⟩ := H15.out.lt
      have hrule := SB.rule pb lo q p rb lb n cr cl V S T kd (L : Int) (s : Int) (u : Int) (v : Int)
      go_wp2_with fail
      refine (xroot (k := 238000) (H15.out.x.less (by omega)) HM4.out.1 hyt rfl).mono ?_; rintro e w3 ⟨rfl, X16, O16⟩; have H16 := Lib.hid (H15.out.next X16 O16)
      clear hrule x0 x1 x2 x3 x4 l0 l1 l2 c0 c1 c2 c3 c4 c5 c6 c7 c8 c9 c10 olt llt qlt
      obtain ⟨x0, x1, x2, x3, x4, l0, l1, l2, c0, c1, c2, c3, c4, c5, c6, c7, c8, c9, c10⟩ := SB.rule _ _ _ _ _ _ _ _ _ _ _ _ _ _ _ _ _ _ H16.out.sb
      obtain ⟨olt, llt, qlt⟩ := H16.out.lt
      have hrule := SB.rule pb lo q p rb lb n cr cl V S T kd (L : Int) (s : Int) (u : Int) (v : Int)
      go_wp2_with fail
      refine (awake_any10 _).mono ?_; rintro e w3 ⟨rfl, B17⟩; have H17 := Lib.hid (H16.out.below B17)
      clear hrule x0 x1 x2 x3 x4 l0 l1 l2 c0 c1 c2 c3 c4 c5 c6 c7 c8 c9 c10 olt llt qlt
      have HBE := Lib.hid (HB1.out.trans (H17.out.x.be.mono HB1.out.size))
      go_wp2_with fail
      go_ret
      exact ⟨rfl, HBE.out⟩
end

end Go.Proofs.Ytahabfjngeicmaa
