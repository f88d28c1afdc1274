/- The law TourJoins: its walk. Printed by wip/tools/tovlj.py. -/
import Derived.Test.YtijpflnbjcoidaaZTovB
namespace Go.Proofs.Ytijpflnbjcoidaa
open Go.RowKit

set_option maxRecDepth 100000

/-- Between two levels. -/
def J1 (w0 : World) (zb : Nat) (vc : Array Value) (V S T : Int) (n q p gb cap rb lb cr cl base : Nat) (gB : Nat → Nat) (g : Mg9) (ts : List Tp) (vr : Nat → Value) (rs : Nat → List (List Nat)) (gr : Nat → List (Option (Nat × Nat))) (i : Value) (W : World) : Prop := ∃ L, L ≤ n ∧ i = .int .i64 ((L : Nat) : Int) ∧ GX w0 W zb vc V S T n q p gb cap rb lb cr cl base gB g ts vr rs gr (20000 * (n - L))
/-- Between two vertices. -/
def J2 (w0 : World) (zb : Nat) (vc : Array Value) (V S T : Int) (n q p gb cap rb lb cr cl base : Nat) (gB : Nat → Nat) (g : Mg9) (ts : List Tp) (vr : Nat → Value) (rs : Nat → List (List Nat)) (gr : Nat → List (Option (Nat × Nat))) (L vn9 : Nat) (i : Value) (W : World) : Prop := ∃ u, u ≤ vn9 ∧ i = .int .i64 ((u : Nat) : Int) ∧ GX w0 W zb vc V S T n q p gb cap rb lb cr cl base gB g ts vr rs gr (20000 * (n - L - 1) + 2000 * (vn9 - u))
/-- .. and another one. -/
def J3 (w0 : World) (zb : Nat) (vc : Array Value) (V S T : Int) (n q p gb cap rb lb cr cl base : Nat) (gB : Nat → Nat) (g : Mg9) (ts : List Tp) (vr : Nat → Value) (rs : Nat → List (List Nat)) (gr : Nat → List (Option (Nat × Nat))) (L vn9 u : Nat) (r : List Nat) (c : Value) (i : Value) (W : World) : Prop := ∃ v, v ≤ vn9 ∧ i = .int .i64 ((v : Nat) : Int) ∧ c = .int .i64 ((((List.range v).filter fun y => decide (Xn V L y ∈ r)).length : Nat) : Int) ∧ GX w0 W zb vc V S T n q p gb cap rb lb cr cl base gB g ts vr rs gr (20000 * (n - L - 1) + 2000 * (vn9 - u - 1) + 97 + 200 * (vn9 - v))
theorem filter_succ (p : Nat → Bool) (v : Nat) : ((List.range (v + 1)).filter p).length = ((List.range v).filter p).length + if p v then 1 else 0 := by
  rw [List.range_succ, List.filter_append, List.length_append, List.filter_cons, List.filter_nil]
  split <;> rfl
section
variable {V S T : Int} {da oa : Option Addr} {dl dc ol oc : Nat} {f : Nat → Nat} {fo : Nat → OpT}
set_option maxHeartbeats 16000000 in
theorem ljoins10 (w : World) (hD : IsNum w da dl f) (hO : IsOpT w oa ol fo) :
    Calls Try.prog 4 #[vC10 V S T da dl dc oa ol oc] w fun e w' => e = .returned (.bool true) ∧ Below w.heap.size w w' := by
  have HD := Lib.hid hD
  have HO := Lib.hid hO
  clear hD hO
  have HB1 : Hid (Below w.heap.size w (w.alloc (.cells #[.int .i64 V, .int .i64 S, .int .i64 T, .slice da dl dc, .slice oa ol oc] 27))) := Lib.hid ((Below.refl _ _).alloc (Nat.le_refl _) _)
  have HZ1 : Hid (Blk (w.alloc (.cells #[.int .i64 V, .int .i64 S, .int .i64 T, .slice da dl dc, .slice oa ol oc] 27)) w.heap.size 27 #[.int .i64 V, .int .i64 S, .int .i64 T, .slice da dl dc, .slice oa ol oc]) := Lib.hid (Blk.new _ _ _)
  go_enter Try.func4, Try.ntmps4
  go_wp2_with fail
  generalize w.heap.size = zb at HZ1 ⊢
  generalize w.alloc (.cells #[.int .i64 V, .int .i64 S, .int .i64 T, .slice da dl dc, .slice oa ol oc] 27) = W1 at HZ1 HB1 ⊢
  refine (right_case10 V S T da dl dc oa ol oc _).mono ?_; rintro e w2 ⟨rfl, hb2⟩
  have HB2 := Lib.hid (HB1.out.trans (hb2.mono HB1.out.size))
  have HZ2 := Lib.hid (HZ1.out.below hb2 HZ1.out.lt)
  clear HB1 HZ1 hb2
  cases hr : rgt10 V S T dl ol
  · go_wp2_with fail
    refine (awake_any10 _).mono ?_; rintro e w3 ⟨rfl, hb3⟩
    have HB3 := Lib.hid (HB2.out.trans (hb3.mono HB2.out.size))
    go_wp2_with fail
    go_ret
    exact ⟨rfl, HB3.out⟩
  have HG := Lib.hid (rgt10_yes hr)
  clear hr
  have z0 := HZ2.out.cell 0
  have z1 := HZ2.out.cell 1
  have z2 := HZ2.out.cell 2
  have z3 := HZ2.out.cell 3
  have z4 := HZ2.out.cell 4
  have zlt := HZ2.out.lt
  go_wp2_with fail
  refine (xbegun HG.out.r (HD.out.below HB2.out) HG.out.d HG.out.v HG.out.s HZ2.out HB2.out).mono ?_
  rintro e w3 ⟨n, q, p, gb, cap, rb, lb, cr, cl, base, gB, g0, ts0, vr0, rs0, gr0', rfl, hL⟩
  have HRel : Hid (LpT w zb #[.int .i64 V, .int .i64 S, .int .i64 T, .slice da dl dc, .slice oa ol oc] V S T n q p gb cap rb lb cr cl base gB ol (.int .i64 0) w3) := Lib.hid ⟨0, _, _, _, _, _, _, Nat.zero_le _, rfl, Nat.le_refl _, hL⟩
  clear z0 z1 z2 z3 z4 zlt HZ2 HB2
  have z4 := hL.z.cell 4
  have zlt := hL.z.lt
  clear hL
  have HOL := Lib.hid HG.out.o
  have holI : (ol : Int) ≤ 60 := by have := HG.out.o; omega
  go_wp2_with fail
  go_loopw [23] (fun i wr => LpT w zb #[.int .i64 V, .int .i64 S, .int .i64 T, .slice da dl dc, .slice oa ol oc] V S T n q p gb cap rb lb cr cl base gB ol i wr) (fun i _ => ol - (intOf i).toNat)
  case atStart => exact HRel.out
  case round =>
    clear HRel z4 zlt
    obtain ⟨k, m, g, ts, vr, rs, gr, hk, rfl, hm, hL⟩ := hrel
    have HL := Lib.hid hL
    have HMK := Lib.hid hm
    clear hL
    by_cases hkl : k < ol
    · obtain ⟨ob, off, rfl, hcell⟩ := HO.out (by omega)
      have hc := hcell k hkl
      obtain ⟨o, ho⟩ : ∃ o, fo k = o := ⟨_, rfl⟩
      rw [ho] at hc
      obtain ⟨kd, oa1, ob1, oc1, od1⟩ := o
      have c0 := cell_later HL.out.be hc.1
      have c1 := cell_later HL.out.be hc.2.1
      have c2 := cell_later HL.out.be hc.2.2.1
      have c3 := cell_later HL.out.be hc.2.2.2.1
      have c4 := cell_later HL.out.be hc.2.2.2.2.1
      have hkI : (k : Int) < (ol : Int) := by omega
      have hk0 : (0 : Int) ≤ (k : Int) := by omega
      have HM1 : Hid (m ≤ 700000) := Lib.hid (by have := HOL.out; omega)
      have HLa := Lib.hid (HL.out.below ((Below.refl _ _).alloc (Nat.le_refl _) (.cells #[.int .i64 kd, .int .i64 oa1, .int .i64 ob1, .int .i64 oc1, .int .i64 od1] 33)))
      clear hc ho hcell HL hm
      go_wp2_with fail
      refine (xstep HLa.out HM1.out).mono ?_
      rintro e w5 ⟨rfl, g', ts', vr', rs', gr', hL5⟩
      have HL5 := Lib.hid hL5
      clear hL5 HLa c0 c1 c2 c3 c4
      go_wp2_with fail
      go_roundw
      case rel => exact ⟨k + 1, _, g', ts', vr', rs', gr', hkl, by simp, by have := HMK.out; omega, HL5.out⟩
      case measure => simp [intOf]; omega
    · have ek : ol = k := by omega
      subst ek
      have hkI : ¬ (ol : Int) < (ol : Int) := by omega
      have HM1 : Hid (m ≤ 661000) := Lib.hid (by have := HOL.out; omega)
      have hn4 := HL.out.pl.n4
      have HV8 := Lib.hid (And.intro HL.out.pl.v8 HL.out.pl.s8)
      have HNI := Lib.hid HL.out.pl.pg.hn
      obtain ⟨wO, rfl⟩ : ∃ w1 : World, w1 = wr := ⟨_, rfl⟩
      have HLV := Lib.hid HL.out.pl.lv
      have HFI := Lib.hid HL.out.pl.fi
      have HR := Lib.hid HL.out.pl.hR
      have HRW : Hid (∀ L, L < n → ∀ r ∈ rs L, r.length ≤ 96) := Lib.hid fun L hL r hr => HL.out.pl.row_len hL hr
      have HRN : Hid (∀ L, L < n → (rs L).length ≤ 96) := Lib.hid fun L hL => HL.out.pl.rows_len hL
      obtain ⟨sn, hsn⟩ : ∃ x, S.toNat = x := ⟨_, rfl⟩
      have HSN := Lib.hid hsn
      have HSI : Hid ((sn : Int) = S) := Lib.hid (by have := HL.out.pl.hR.s1; omega)
      have hS8I : (sn : Int) ≤ 8 := by have := HV8.out.2; have := HSI.out; omega
      clear hsn
      have hn4I : (n : Int) ≤ 4 := by omega
      have HFL : Hid (∀ L, L < n → (rs L).flatten.length ≤ 96) := Lib.hid fun L hL => HL.out.pl.flat hL
      clear hk hkl hm
      obtain ⟨vn9, hvn⟩ : ∃ x : Nat, (x : Int) = V := ⟨V.toNat, by have := HR.out.v1; omega⟩
      have HVN := Lib.hid hvn
      have hv8I : (vn9 : Int) ≤ 8 := by have := HV8.out.1; omega
      clear hvn
      have HG1 : Hid (J1 w zb #[.int .i64 V, .int .i64 S, .int .i64 T, .slice da dl dc, .slice oa ol oc] V S T n q p gb cap rb lb cr cl base gB g ts vr rs gr (.int .i64 0) wO) := Lib.hid ⟨0, Nat.zero_le _, rfl, HL.out.gx (by have := HM1.out; omega)⟩
      have HGX := Lib.hid (HL.out.gx (k := 0) (by have := HM1.out; omega))
      clear HL HMK HM1
      obtain ⟨y0, y1, y2, y3, y4, y5, y6, y7, y8, y9, y10⟩ := PQ.rule _ _ _ _ _ _ _ _ _ _ _ HGX.out.pq
      have qlt := HGX.out.qlt
      go_wp2_with fail
      clear HGX y0 y1 y2 y3 y4 y5 y6 y7 y8 y9 y10 qlt
      go_loopw [37] (fun i wr => J1 w zb #[.int .i64 V, .int .i64 S, .int .i64 T, .slice da dl dc, .slice oa ol oc] V S T n q p gb cap rb lb cr cl base gB g ts vr rs gr i wr) (fun i _ => n - (intOf i).toNat)
      case atStart => exact HG1.out
      case round =>
        clear HG1
        obtain ⟨L, hLn, rfl, hG⟩ := hrel
        have HA := Lib.hid hG
        clear hG
        obtain ⟨wA, rfl⟩ : ∃ w1 : World, w1 = wr := ⟨_, rfl⟩
        by_cases hl : L < n
        · have hlI : (L : Int) < (n : Int) := by omega
          have hlv : (L : Int) < lv V := by have := HNI.out; omega
          obtain ⟨m1, hpg⟩ := HA.out.pg
          have gl := hpg.gr_cell hl
          have glt2 := hpg.lb_lt
          rw [HSN.out] at gl
          have L0 : (0 : Int) ≤ (L : Int) := by omega
          have zz : wA.cell? ⟨zb, 0, none⟩ = some (.int .i64 (vn9 : Int)) := by rw [HVN.out]; exact HA.out.zl.cell 0
          have zlt := HA.out.zl.lt
          have HJ2 : Hid (J2 w zb #[.int .i64 V, .int .i64 S, .int .i64 T, .slice da dl dc, .slice oa ol oc] V S T n q p gb cap rb lb cr cl base gB g ts vr rs gr L vn9 (.int .i64 0) wA) := Lib.hid ⟨0, Nat.zero_le _, rfl, HA.out.less (by have := HVN.out; have := HV8.out.1; omega)⟩
          have HLV1 := Lib.hid (HLV.out L hl)
          obtain ⟨E, hE, hEb, hEj⟩ := (HLV.out L hl).joined HR.out hlv HFI.out
          have HE := Lib.hid hE
          have HEB := Lib.hid hEb
          have HEJ := Lib.hid hEj
          clear hpg hE hEb hEj
          obtain ⟨y0, y1, y2, y3, y4, y5, y6, y7, y8, y9, y10⟩ := PQ.rule _ _ _ _ _ _ _ _ _ _ _ HA.out.pq
          have qlt := HA.out.qlt
          go_wp2_with fail
          clear gl glt2 zz zlt y0 y1 y2 y3 y4 y5 y6 y7 y8 y9 y10 qlt
          go_loopw [45] (fun i wr => J2 w zb #[.int .i64 V, .int .i64 S, .int .i64 T, .slice da dl dc, .slice oa ol oc] V S T n q p gb cap rb lb cr cl base gB g ts vr rs gr L vn9 i wr) (fun i _ => vn9 - (intOf i).toNat)
          case atStart => exact HJ2.out
          case round =>
            clear HJ2
            obtain ⟨u, hu, rfl, hG⟩ := hrel
            have HB := Lib.hid hG
            clear hG
            obtain ⟨wB, rfl⟩ : ∃ w1 : World, w1 = wr := ⟨_, rfl⟩
            by_cases huV : u < vn9
            · have uI : (u : Int) < (vn9 : Int) := by omega
              have u0 : (0 : Int) ≤ (u : Int) := by omega
              have huV2 : (u : Int) < V := by have := HVN.out; omega
              obtain ⟨r, hr, hxr⟩ := HLV1.out.cov u huV2
              obtain ⟨t, ht, rt⟩ := HLV1.out.has r hr
              have HT := Lib.hid (And.intro ht (And.intro rt (And.intro hr hxr)))
              have zz : wB.cell? ⟨zb, 0, none⟩ = some (.int .i64 (vn9 : Int)) := by rw [HVN.out]; exact HB.out.zl.cell 0
              have zlt := HB.out.zl.lt
              have HJ3 : Hid (J3 w zb #[.int .i64 V, .int .i64 S, .int .i64 T, .slice da dl dc, .slice oa ol oc] V S T n q p gb cap rb lb cr cl base gB g ts vr rs gr L vn9 u r (.int .i64 0) (.int .i64 0) wB) := Lib.hid ⟨0, Nat.zero_le _, rfl, rfl, HB.out.less (by have := HVN.out; have := HV8.out.1; omega)⟩
              clear ht rt hr hxr
              go_wp2_with fail
              clear zz zlt
              go_loopw [9, 51] (fun c i wr => J3 w zb #[.int .i64 V, .int .i64 S, .int .i64 T, .slice da dl dc, .slice oa ol oc] V S T n q p gb cap rb lb cr cl base gB g ts vr rs gr L vn9 u r c i wr) (fun _ i _ => vn9 - (intOf i).toNat)
              case atStart => exact HJ3.out
              case round =>
                clear HJ3
                obtain ⟨v, hv, rfl, rfl, hG⟩ := hrel
                have HC := Lib.hid hG
                clear hG
                obtain ⟨wC, rfl⟩ : ∃ w1 : World, w1 = wr := ⟨_, rfl⟩
                obtain ⟨cn, hcn⟩ : ∃ c, ((List.range v).filter fun y => decide (Xn V L y ∈ r)).length = c := ⟨_, rfl⟩
                have HCN := Lib.hid hcn
                have hcv : cn ≤ v := by rw [← hcn]; exact Nat.le_trans (List.length_filter_le _ _) (by simp)
                rw [hcn]
                clear hcn
                by_cases hvV : v < vn9
                · have vI : (v : Int) < (vn9 : Int) := by omega
                  have v0 : (0 : Int) ≤ (v : Int) := by omega
                  have hcI : (cn : Int) ≤ 8 := by omega
                  have hvV2 : (v : Int) < V := by have := HVN.out; omega
                  obtain ⟨r2, hr2, hxr2⟩ := HLV1.out.cov v hvV2
                  obtain ⟨t2, ht2, rt2⟩ := HLV1.out.has r2 hr2
                  have HT2 := Lib.hid (And.intro ht2 (And.intro rt2 hxr2))
                  obtain ⟨K, hK⟩ : ∃ K, 20000 * (n - L - 1) + 2000 * (vn9 - u - 1) + 97 + 200 * (vn9 - (v + 1)) = K := ⟨_, rfl⟩
                  have HK := Lib.hid hK
                  have H1 := Lib.hid (HC.out.less (k' := K + 192) (by omega))
                  obtain ⟨m1, hpg⟩ := HC.out.pg
                  have HGI : Hid (GI wC (.slice (some ⟨gB L, 0, none⟩) sn sn) (gr L)) := Lib.hid (HSN.out ▸ hpg.gi hl)
                  clear hpg ht2 rt2 hr2 hxr2 hK HC
                  go_wp2_with fail
                  refine (joined_any HGI.out (by rw [HLV1.out.len, HSN.out]; omega) HE.out (x := u) (y := v) (V := V.toNat) (by omega) (by have := HV8.out.1; omega) HEB.out).mono ?_
                  rintro e w4 ⟨rr, rfl, hrr, hb4⟩
                  have H2 := Lib.hid (H1.out.below hb4)
                  have HRR := Lib.hid hrr
                  clear hrr hb4 H1 HGI
                  have hin : rr = true ↔ Xn V L v ∈ r := HRR.out.trans (HEJ.out r HT.out.2.2.1 u v HT.out.2.2.2)
                  have hdec : decide (t.root = t2.root) = rr := by
                    by_cases hx : Xn V L v ∈ r
                    · rw [hin.2 hx, HFI.out.uniq HT.out.1 HT2.out.1 (x := Xn V L v) (by rw [HT.out.2.1]; exact hx) (by rw [HT2.out.2.1]; exact HT2.out.2.2)]
                      exact decide_eq_true rfl
                    · have e : rr = false := by cases rr with | false => rfl | true => exact absurd (hin.1 rfl) hx
                      rw [e]
                      refine root_dec HFI.out HT.out.1 HT2.out.1 fun e2 => hx ?_
                      rw [← HT.out.2.1, e2, HT2.out.2.1]; exact HT2.out.2.2
                  have HDEC := Lib.hid hdec
                  have HIN := Lib.hid (And.intro hin.1 hin.2)
                  clear hin hdec HRR
                  cases rr
                  · skip
                    obtain ⟨y0, y1, y2, y3, y4, y5, y6, y7, y8, y9, y10⟩ := PQ.rule _ _ _ _ _ _ _ _ _ _ _ H2.out.pq
                    have qlt := H2.out.qlt
                    go_wp2_with fail
                    refine (gsame_b H2.out hlv huV2 hvV2 HT.out.1 (by rw [HT.out.2.1]; exact HT.out.2.2.2) HT2.out.1 (by rw [HT2.out.2.1]; exact HT2.out.2.2) HDEC.out).mono ?_; rintro e w6 ⟨rfl, G6, O6⟩
                    have H3 := Lib.hid G6
                    clear G6 O6 H2 y0 y1 y2 y3 y4 y5 y6 y7 y8 y9 y10 qlt
                    go_wp2_with fail
                    go_roundw
                    case rel => exact ⟨v + 1, hvV, by simp, by rw [filter_succ, HCN.out, if_neg (fun h => by have := HIN.out.2 (of_decide_eq_true h); cases this)]; simp, H3.out.less (by have := HK.out; omega)⟩
                    case measure => simp [intOf]; omega
                  · skip
                    obtain ⟨y0, y1, y2, y3, y4, y5, y6, y7, y8, y9, y10⟩ := PQ.rule _ _ _ _ _ _ _ _ _ _ _ H2.out.pq
                    have qlt := H2.out.qlt
                    go_wp2_with fail
                    refine (gsame_b H2.out hlv huV2 hvV2 HT.out.1 (by rw [HT.out.2.1]; exact HT.out.2.2.2) HT2.out.1 (by rw [HT2.out.2.1]; exact HT2.out.2.2) HDEC.out).mono ?_; rintro e w6 ⟨rfl, G6, O6⟩
                    have H3 := Lib.hid G6
                    clear G6 O6 H2 y0 y1 y2 y3 y4 y5 y6 y7 y8 y9 y10 qlt
                    go_wp2_with fail
                    go_roundw
                    case rel => exact ⟨v + 1, hvV, by simp, by rw [filter_succ, HCN.out, if_pos (decide_eq_true (HIN.out.1 (by trivial)))]; simp, H3.out.less (by have := HK.out; omega)⟩
                    case measure => simp [intOf]; omega
                · have ev : vn9 = v := by omega
                  subst ev
                  have vI : ¬ (vn9 : Int) < (vn9 : Int) := by omega
                  have hcnt : cntV (vxN V) t.row = cn := by
                    rw [HT.out.2.1, HLV1.out.count HR.out hlv HFI.out HT.out.2.2.1, show V.toNat = vn9 by have := HVN.out; omega]
                    exact HCN.out
                  have HCT := Lib.hid hcnt
                  have hcc : ((cn : Int) != (cn : Int)) = false := bne_self_eq_false _
                  have H1 := Lib.hid (HC.out.less (k' := 20000 * (n - L - 1) + 2000 * (vn9 - u - 1) + 97) (by omega))
                  clear hcnt HC hv hvV
                  obtain ⟨y0, y1, y2, y3, y4, y5, y6, y7, y8, y9, y10⟩ := PQ.rule _ _ _ _ _ _ _ _ _ _ _ H1.out.pq
                  have qlt := H1.out.qlt
                  go_wp2_with fail
                  refine (gcount H1.out hlv huV2 HT.out.1 (by rw [HT.out.2.1]; exact HT.out.2.2.2)).mono ?_; rintro e w6 ⟨rfl, G6, O6⟩
                  have H3 := Lib.hid G6
                  rw [HCT.out]
                  clear G6 O6 H1 y0 y1 y2 y3 y4 y5 y6 y7 y8 y9 y10 qlt
                  go_wp2_with fail
                  go_roundw
                  case rel => exact ⟨u + 1, huV, by simp, H3.out.less (by omega)⟩
                  case measure => simp [intOf]; omega
            · have eu : vn9 = u := by omega
              subst eu
              have uI : ¬ (vn9 : Int) < (vn9 : Int) := by omega
              clear hu huV
              go_wp2_with fail
              go_roundw
              case rel => exact ⟨L + 1, hl, by simp, HB.out.less (by omega)⟩
              case measure => simp [intOf]; omega
        · have eL : n = L := by omega
          subst eL
          have hlI : ¬ (n : Int) < (n : Int) := by omega
          clear hl hLn
          go_wp2_with fail
          refine (awake_any10 _).mono ?_; rintro e w9 ⟨rfl, hb9⟩
          have HBE := Lib.hid ((HA.out.below hb9).be)
          go_wp2_with fail
          go_ret
          exact ⟨rfl, HBE.out⟩
end

end Go.Proofs.Ytijpflnbjcoidaa
