/- The law TourPlays: its walk. Printed by wip/tools/tovlp.py. -/
import Derived.Test.YtijpflnbjcoidaaZTovB
namespace Go.Proofs.Ytijpflnbjcoidaa
open Go.RowKit

set_option maxRecDepth 100000

/-- Between two levels. -/
def P1 (w0 : World) (zb : Nat) (vc : Array Value) (V S T : Int) (n q p gb cap rb lb cr cl base : Nat) (gB : Nat → Nat) (g : Mg9) (ts : List Tp) (vr : Nat → Value) (rs : Nat → List (List Nat)) (gr : Nat → List (Option (Nat × Nat))) (i : Value) (W : World) : Prop := ∃ L, L ≤ n ∧ i = .int .i64 ((L : Nat) : Int) ∧ GX w0 W zb vc V S T n q p gb cap rb lb cr cl base gB g ts vr rs gr (31000 * (n - L))
/-- Between two rows. -/
def P2 (w0 : World) (zb : Nat) (vc : Array Value) (V S T : Int) (n q p gb cap rb lb cr cl base : Nat) (gB : Nat → Nat) (g : Mg9) (ts : List Tp) (vr : Nat → Value) (rs : Nat → List (List Nat)) (gr : Nat → List (Option (Nat × Nat))) (L : Nat) (i : Value) (W : World) : Prop := ∃ k, k ≤ (rs L).length ∧ i = .int .i64 ((k : Nat) : Int) ∧ GX w0 W zb vc V S T n q p gb cap rb lb cr cl base gB g ts vr rs gr (31000 * (n - L - 1) + 1600 + 300 * ((rs L).drop k).flatten.length)
/-- Between two nodes. -/
def P3 (w0 : World) (zb : Nat) (vc : Array Value) (V S T : Int) (n q p gb cap rb lb cr cl base : Nat) (gB : Nat → Nat) (g : Mg9) (ts : List Tp) (vr : Nat → Value) (rs : Nat → List (List Nat)) (gr : Nat → List (Option (Nat × Nat))) (r : List Nat) (v : Value) (c : Nat) (i : Value) (W : World) : Prop := ∃ y, y ≤ r.length ∧ i = .int .i64 ((y : Nat) : Int) ∧ GX w0 W zb vc V S T n q p gb cap rb lb cr cl base gB g ts vr rs gr (c + 300 * (r.length - y)) ∧ LI W v r
/-- Between two slots. -/
def P4 (w0 : World) (zb : Nat) (vc : Array Value) (V S T : Int) (n q p gb cap rb lb cr cl base : Nat) (gB : Nat → Nat) (g : Mg9) (ts : List Tp) (vr : Nat → Value) (rs : Nat → List (List Nat)) (gr : Nat → List (Option (Nat × Nat))) (L sn : Nat) (i : Value) (W : World) : Prop := ∃ y, y ≤ sn ∧ i = .int .i64 ((y : Nat) : Int) ∧ GX w0 W zb vc V S T n q p gb cap rb lb cr cl base gB g ts vr rs gr (31000 * (n - L - 1) + 200 * (sn - y))
section
variable {V S T : Int} {da oa : Option Addr} {dl dc ol oc : Nat} {f : Nat → Nat} {fo : Nat → OpT}
set_option maxHeartbeats 16000000 in
theorem lplays10 (w : World) (hD : IsNum w da dl f) (hO : IsOpT w oa ol fo) :
    Calls Try.prog 3 #[vC10 V S T da dl dc oa ol oc] w fun e w' => e = .returned (.bool true) ∧ Below w.heap.size w w' := by
  have HD := Lib.hid hD
  have HO := Lib.hid hO
  clear hD hO
  have HB1 : Hid (Below w.heap.size w (w.alloc (.cells #[.int .i64 V, .int .i64 S, .int .i64 T, .slice da dl dc, .slice oa ol oc] 27))) := Lib.hid ((Below.refl _ _).alloc (Nat.le_refl _) _)
  have HZ1 : Hid (Blk (w.alloc (.cells #[.int .i64 V, .int .i64 S, .int .i64 T, .slice da dl dc, .slice oa ol oc] 27)) w.heap.size 27 #[.int .i64 V, .int .i64 S, .int .i64 T, .slice da dl dc, .slice oa ol oc]) := Lib.hid (Blk.new _ _ _)
  go_enter Try.func3, Try.ntmps3
  go_wp2_with fail
  generalize w.heap.size = zb at HZ1 ⊢
  generalize w.alloc (.cells #[.int .i64 V, .int .i64 S, .int .i64 T, .slice da dl dc, .slice oa ol oc] 27) = W1 at HZ1 HB1 ⊢
  refine (right_case10 V S T da dl dc oa ol oc _).mono ?_; rintro e w2 ⟨rfl, hb2⟩
  have HB2 := Lib.hid (HB1.out.trans (hb2.mono HB1.out.size))
  have HZ2 := Lib.hid (HZ1.out.below hb2 HZ1.out.lt)
  clear HB1 HZ1 hb2
  cases hr : rgt10 V S T dl ol
  · go_wp2_with fail
    refine (awake_any10 _).mono ?_; rintro e w3 ⟨rfl, hb3⟩
    have HB3 := Lib.hid (HB2.out.trans (hb3.mono HB2.out.size))
    go_wp2_with fail
    go_ret
    exact ⟨rfl, HB3.out⟩
  have HG := Lib.hid (rgt10_yes hr)
  clear hr
  have z0 := HZ2.out.cell 0
  have z1 := HZ2.out.cell 1
  have z2 := HZ2.out.cell 2
  have z3 := HZ2.out.cell 3
  have z4 := HZ2.out.cell 4
  have zlt := HZ2.out.lt
  go_wp2_with fail
  refine (xbegun HG.out.r (HD.out.below HB2.out) HG.out.d HG.out.v HG.out.s HZ2.out HB2.out).mono ?_
  rintro e w3 ⟨n, q, p, gb, cap, rb, lb, cr, cl, base, gB, g0, ts0, vr0, rs0, gr0', rfl, hL⟩
  have HRel : Hid (LpT w zb #[.int .i64 V, .int .i64 S, .int .i64 T, .slice da dl dc, .slice oa ol oc] V S T n q p gb cap rb lb cr cl base gB ol (.int .i64 0) w3) := Lib.hid ⟨0, _, _, _, _, _, _, Nat.zero_le _, rfl, Nat.le_refl _, hL⟩
  clear z0 z1 z2 z3 z4 zlt HZ2 HB2
  have z4 := hL.z.cell 4
  have zlt := hL.z.lt
  clear hL
  have HOL := Lib.hid HG.out.o
  have holI : (ol : Int) ≤ 60 := by have := HG.out.o; omega
  go_wp2_with fail
  go_loopw [26] (fun i wr => LpT w zb #[.int .i64 V, .int .i64 S, .int .i64 T, .slice da dl dc, .slice oa ol oc] V S T n q p gb cap rb lb cr cl base gB ol i wr) (fun i _ => ol - (intOf i).toNat)
  case atStart => exact HRel.out
  case round =>
    clear HRel z4 zlt
    obtain ⟨k, m, g, ts, vr, rs, gr, hk, rfl, hm, hL⟩ := hrel
    have HL := Lib.hid hL
    have HMK := Lib.hid hm
    clear hL
    by_cases hkl : k < ol
    · obtain ⟨ob, off, rfl, hcell⟩ := HO.out (by omega)
      have hc := hcell k hkl
      obtain ⟨o, ho⟩ : ∃ o, fo k = o := ⟨_, rfl⟩
      rw [ho] at hc
      obtain ⟨kd, oa1, ob1, oc1, od1⟩ := o
      have c0 := cell_later HL.out.be hc.1
      have c1 := cell_later HL.out.be hc.2.1
      have c2 := cell_later HL.out.be hc.2.2.1
      have c3 := cell_later HL.out.be hc.2.2.2.1
      have c4 := cell_later HL.out.be hc.2.2.2.2.1
      have hkI : (k : Int) < (ol : Int) := by omega
      have hk0 : (0 : Int) ≤ (k : Int) := by omega
      have HM1 : Hid (m ≤ 700000) := Lib.hid (by have := HOL.out; omega)
      have HLa := Lib.hid (HL.out.below ((Below.refl _ _).alloc (Nat.le_refl _) (.cells #[.int .i64 kd, .int .i64 oa1, .int .i64 ob1, .int .i64 oc1, .int .i64 od1] 33)))
      clear hc ho hcell HL hm
      go_wp2_with fail
      refine (xstep HLa.out HM1.out).mono ?_
      rintro e w5 ⟨rfl, g', ts', vr', rs', gr', hL5⟩
      have HL5 := Lib.hid hL5
      clear hL5 HLa c0 c1 c2 c3 c4
      go_wp2_with fail
      go_roundw
      case rel => exact ⟨k + 1, _, g', ts', vr', rs', gr', hkl, by simp, by have := HMK.out; omega, HL5.out⟩
      case measure => simp [intOf]; omega
    · have ek : ol = k := by omega
      subst ek
      have hkI : ¬ (ol : Int) < (ol : Int) := by omega
      have HM1 : Hid (m ≤ 661000) := Lib.hid (by have := HOL.out; omega)
      have hn4 := HL.out.pl.n4
      have HV8 := Lib.hid (And.intro HL.out.pl.v8 HL.out.pl.s8)
      have HNI := Lib.hid HL.out.pl.pg.hn
      obtain ⟨wO, rfl⟩ : ∃ w1 : World, w1 = wr := ⟨_, rfl⟩
      have HLV := Lib.hid HL.out.pl.lv
      have HFI := Lib.hid HL.out.pl.fi
      have HR := Lib.hid HL.out.pl.hR
      have HRW : Hid (∀ L, L < n → ∀ r ∈ rs L, r.length ≤ 96) := Lib.hid fun L hL r hr => HL.out.pl.row_len hL hr
      have HRN : Hid (∀ L, L < n → (rs L).length ≤ 96) := Lib.hid fun L hL => HL.out.pl.rows_len hL
      obtain ⟨sn, hsn⟩ : ∃ x, S.toNat = x := ⟨_, rfl⟩
      have HSN := Lib.hid hsn
      have HSI : Hid ((sn : Int) = S) := Lib.hid (by have := HL.out.pl.hR.s1; omega)
      have hS8I : (sn : Int) ≤ 8 := by have := HV8.out.2; have := HSI.out; omega
      clear hsn
      have hn4I : (n : Int) ≤ 4 := by omega
      have HFL : Hid (∀ L, L < n → (rs L).flatten.length ≤ 96) := Lib.hid fun L hL => HL.out.pl.flat hL
      clear hk hkl hm
      have HG1 : Hid (P1 w zb #[.int .i64 V, .int .i64 S, .int .i64 T, .slice da dl dc, .slice oa ol oc] V S T n q p gb cap rb lb cr cl base gB g ts vr rs gr (.int .i64 0) wO) := Lib.hid ⟨0, Nat.zero_le _, rfl, HL.out.gx (by have := HM1.out; omega)⟩
      have HGX := Lib.hid (HL.out.gx (k := 0) (by have := HM1.out; omega))
      clear HL HMK HM1
      obtain ⟨y0, y1, y2, y3, y4, y5, y6, y7, y8, y9, y10⟩ := PQ.rule _ _ _ _ _ _ _ _ _ _ _ HGX.out.pq
      have qlt := HGX.out.qlt
      go_wp2_with fail
      clear HGX y0 y1 y2 y3 y4 y5 y6 y7 y8 y9 y10 qlt
      go_loopw [40] (fun i wr => P1 w zb #[.int .i64 V, .int .i64 S, .int .i64 T, .slice da dl dc, .slice oa ol oc] V S T n q p gb cap rb lb cr cl base gB g ts vr rs gr i wr) (fun i _ => n - (intOf i).toNat)
      case atStart => exact HG1.out
      case round =>
        clear HG1
        obtain ⟨L, hLn, rfl, hG⟩ := hrel
        have HA := Lib.hid hG
        clear hG
        obtain ⟨wA, rfl⟩ : ∃ w1 : World, w1 = wr := ⟨_, rfl⟩
        by_cases hl : L < n
        · have hlI : (L : Int) < (n : Int) := by omega
          have hlv : (L : Int) < lv V := by have := HNI.out; omega
          obtain ⟨m1, hpg⟩ := HA.out.pg
          have crow := hpg.row_cell hl
          have rlt := hpg.rb_lt
          have L0 : (0 : Int) ≤ (L : Int) := by omega
          obtain ⟨av, cv, ev⟩ := (hpg.rs L hl).slice
          rw [ev] at crow
          have HEV := Lib.hid ev
          obtain ⟨N, hN⟩ : ∃ N, (rs L).length = N := ⟨_, rfl⟩
          have HN := Lib.hid hN
          rw [hN] at crow HEV
          have hNI : (N : Int) ≤ 96 := by have := HRN.out L hl; omega
          have HP2 : Hid (P2 w zb #[.int .i64 V, .int .i64 S, .int .i64 T, .slice da dl dc, .slice oa ol oc] V S T n q p gb cap rb lb cr cl base gB g ts vr rs gr L (.int .i64 0) wA) := Lib.hid ⟨0, Nat.zero_le _, rfl, HA.out.less (by have := HFL.out L hl; rw [List.drop_zero]; omega)⟩
          clear hpg ev hN
          obtain ⟨y0, y1, y2, y3, y4, y5, y6, y7, y8, y9, y10⟩ := PQ.rule _ _ _ _ _ _ _ _ _ _ _ HA.out.pq
          have qlt := HA.out.qlt
          go_wp2_with fail
          clear HA crow rlt y0 y1 y2 y3 y4 y5 y6 y7 y8 y9 y10 qlt
          go_loopw [47] (fun i wr => P2 w zb #[.int .i64 V, .int .i64 S, .int .i64 T, .slice da dl dc, .slice oa ol oc] V S T n q p gb cap rb lb cr cl base gB g ts vr rs gr L i wr) (fun i _ => N - (intOf i).toNat)
          case atStart => exact HP2.out
          case round =>
            clear HP2
            obtain ⟨k2, hk2, rfl, hG⟩ := hrel
            have HB := Lib.hid hG
            clear hG
            rw [HN.out] at hk2
            obtain ⟨wB, rfl⟩ : ∃ w1 : World, w1 = wr := ⟨_, rfl⟩
            by_cases hkN : k2 < N
            · have kI : (k2 : Int) < (N : Int) := by omega
              have k0 : (0 : Int) ≤ (k2 : Int) := by omega
              obtain ⟨r, hr⟩ : ∃ r, (rs L)[k2]? = some r := ⟨_, List.getElem?_eq_getElem (by rw [HN.out]; exact hkN)⟩
              obtain ⟨m1, hpg⟩ := HB.out.pg
              obtain ⟨rg, c2, a1, c1, e1, rglt, ck, hli⟩ := (hpg.rs L hl).at hr
              rw [HEV.out, HN.out] at e1
              injection e1 with e1 e2 e3
              subst e1 e3
              obtain ⟨t, ht, rt⟩ := (HLV.out L hl).has r (List.mem_of_getElem? hr)
              have HT := Lib.hid (And.intro ht rt)
              have HRL := Lib.hid (HRW.out L hl r (List.mem_of_getElem? hr))
              obtain ⟨M, hM⟩ : ∃ M, r.length = M := ⟨_, rfl⟩
              have HM := Lib.hid hM
              have hMI : (M : Int) ≤ 96 := by have := HRL.out; omega
              obtain ⟨C3, hC3⟩ : ∃ C, 31000 * (n - L - 1) + 1600 + 300 * ((rs L).drop (k2 + 1)).flatten.length = C := ⟨_, rfl⟩
              have HC3 := Lib.hid hC3
              have hfl : ((rs L).drop k2).flatten.length = r.length + ((rs L).drop (k2 + 1)).flatten.length := by
                rw [List.drop_eq_getElem_cons (by rw [HN.out]; exact hkN), List.flatten_cons, List.length_append]
                congr 1
                rw [List.getElem?_eq_getElem (by rw [HN.out]; exact hkN)] at hr
                injection hr with hr
                rw [hr]
              have HP3 : Hid (P3 w zb #[.int .i64 V, .int .i64 S, .int .i64 T, .slice da dl dc, .slice oa ol oc] V S T n q p gb cap rb lb cr cl base gB g ts vr rs gr r (.slice a1 M c1) C3 (.int .i64 0) wB) := Lib.hid ⟨0, Nat.zero_le _, rfl, HB.out.less (by rw [hfl]; omega), hM ▸ hli⟩
              rw [hM] at ck
              clear hpg ht rt hr hM hC3 hfl hli e2
              go_wp2_with fail
              go_loopw [53] (fun i wr => P3 w zb #[.int .i64 V, .int .i64 S, .int .i64 T, .slice da dl dc, .slice oa ol oc] V S T n q p gb cap rb lb cr cl base gB g ts vr rs gr r (.slice a1 M c1) C3 i wr) (fun i _ => M - (intOf i).toNat)
              case atStart => exact HP3.out
              case round =>
                clear HP3
                obtain ⟨y, hy, rfl, hG, hli⟩ := hrel
                have HC := Lib.hid hG
                have HLI := Lib.hid hli
                clear hG
                rw [HM.out] at hy
                by_cases hyM : y < M
                · have yI : (y : Int) < (M : Int) := by omega
                  have y00 : (0 : Int) ≤ (y : Int) := by omega
                  obtain ⟨x, hx⟩ : ∃ x, r[y]? = some x := ⟨_, List.getElem?_eq_getElem (by rw [HM.out]; exact hyM)⟩
                  have HX := Lib.hid (List.mem_of_getElem? hx)
                  obtain ⟨b1, o1, rfl, cx⟩ := hli.at hx
                  obtain ⟨K, hK⟩ : ∃ K, C3 + 300 * (M - (y + 1)) + 12 = K := ⟨_, rfl⟩
                  have HK := Lib.hid hK
                  have H1 := Lib.hid (HC.out.less (k' := K + 192 + 96) (by have := HM.out; omega))
                  clear hx hli HC hK
                  obtain ⟨y0, y1, y2, y3, y4, y5, y6, y7, y8, y9, y10⟩ := PQ.rule _ _ _ _ _ _ _ _ _ _ _ H1.out.pq
                  have qlt := H1.out.qlt
                  go_wp2_with fail
                  refine (groot H1.out HT.out.1 (by rw [HT.out.2]; exact HX.out) rfl).mono ?_; rintro e w4 ⟨rfl, G4, O4⟩
                  have H2 := Lib.hid G4
                  have HL2 := Lib.hid (H1.out.li O4 HLI.out)
                  clear G4 O4 H1 HLI cx y0 y1 y2 y3 y4 y5 y6 y7 y8 y9 y10 qlt
                  obtain ⟨y0, y1, y2, y3, y4, y5, y6, y7, y8, y9, y10⟩ := PQ.rule _ _ _ _ _ _ _ _ _ _ _ H2.out.pq
                  have qlt := H2.out.qlt
                  go_wp2_with fail
                  refine (glist H2.out HT.out.1 rfl).mono ?_; rintro e w5 ⟨v9, rfl, L9, _, G5, O5⟩
                  have H3 := Lib.hid G5
                  have HL3 := Lib.hid (H2.out.li O5 HL2.out)
                  have HV := Lib.hid (LI.cong L9 HT.out.2)
                  clear G5 O5 H2 HL2 L9 y0 y1 y2 y3 y4 y5 y6 y7 y8 y9 y10 qlt
                  go_wp2_with fail
                  refine (same_yes HV.out HL3.out (by have := HRL.out; omega)).mono ?_; rintro e w6 ⟨rfl, hb6⟩
                  have H4 := Lib.hid (H3.out.below hb6)
                  have HL4 := Lib.hid (HL3.out.below hb6)
                  clear H3 HL3 HV hb6
                  go_wp2_with fail
                  go_roundw
                  case rel => exact ⟨y + 1, by have := HM.out; omega, by simp, H4.out.less (by have h1 := HM.out; have h2 := HK.out; omega), HL4.out⟩
                  case measure => simp [intOf]; omega
                · have ey : y = M := by omega
                  subst ey
                  have yI : ¬ (y : Int) < (y : Int) := by omega
                  clear hy hyM hli
                  go_wp2_with fail
                  go_roundw
                  case rel => exact ⟨k2 + 1, by have := HN.out; omega, by simp, HC.out.less (by have := HC3.out; omega)⟩
                  case measure => simp [intOf]; omega
            · have ek2 : k2 = N := by omega
              subst ek2
              have kI : ¬ (k2 : Int) < (k2 : Int) := by omega
              obtain ⟨m1, hpg⟩ := HB.out.pg
              have gl := hpg.gr_cell hl
              rw [HSN.out] at gl
              have glt2 := hpg.lb_lt
              have HP4 : Hid (P4 w zb #[.int .i64 V, .int .i64 S, .int .i64 T, .slice da dl dc, .slice oa ol oc] V S T n q p gb cap rb lb cr cl base gB g ts vr rs gr L sn (.int .i64 0) wB) := Lib.hid ⟨0, Nat.zero_le _, rfl, HB.out.less (by have := HV8.out.2; have := HSI.out; omega)⟩
              clear hpg
              obtain ⟨y0, y1, y2, y3, y4, y5, y6, y7, y8, y9, y10⟩ := PQ.rule _ _ _ _ _ _ _ _ _ _ _ HB.out.pq
              have qlt := HB.out.qlt
              go_wp2_with fail
              clear HB gl glt2 hk2 hkN y0 y1 y2 y3 y4 y5 y6 y7 y8 y9 y10 qlt
              go_loopw [84] (fun i wr => P4 w zb #[.int .i64 V, .int .i64 S, .int .i64 T, .slice da dl dc, .slice oa ol oc] V S T n q p gb cap rb lb cr cl base gB g ts vr rs gr L sn i wr) (fun i _ => sn - (intOf i).toNat)
              case atStart => exact HP4.out
              case round =>
                clear HP4
                obtain ⟨y, hy, rfl, hG⟩ := hrel
                have HC := Lib.hid hG
                clear hG
                obtain ⟨wC, rfl⟩ : ∃ w1 : World, w1 = wr := ⟨_, rfl⟩
                by_cases hyS : y < sn
                · have yI : (y : Int) < (sn : Int) := by omega
                  have y00 : (0 : Int) ≤ (y : Int) := by omega
                  have hyI : (y : Int) < S := by have := HSI.out; omega
                  obtain ⟨e, he⟩ : ∃ e, (gr L)[y]? = some e := ⟨_, List.getElem?_eq_getElem (by rw [(HLV.out L hl).len, HSN.out]; exact hyS)⟩
                  obtain ⟨m1, hpg⟩ := HC.out.pg
                  obtain ⟨lc1, lc2, _, _, glt⟩ := PG.link_cell hpg hl he
                  obtain ⟨t, ht, t2, ht2, hx, hx2, hdec⟩ := (HLV.out L hl).arcs HR.out hlv HFI.out hyI he
                  have HT := Lib.hid (And.intro ht (And.intro ht2 (And.intro hx hx2)))
                  obtain ⟨E1, hE1⟩ : ∃ x, end1 e = x := ⟨_, rfl⟩
                  obtain ⟨E2, hE2⟩ : ∃ x, end2 e = x := ⟨_, rfl⟩
                  rw [hE1] at lc1 hdec
                  rw [hE2] at lc2
                  have HDEC := Lib.hid hdec
                  have H1 := Lib.hid ((HC.out.less (k' := 31000 * (n - L - 1) + 200 * (sn - (y + 1)) + 192) (by omega)).below ((Below.refl _ _).alloc (Nat.le_refl _) (.cells #[.int .i64 E1, .int .i64 E2] 54)))
                  have HE1 : Hid ((wC.alloc (.cells #[.int .i64 E1, .int .i64 E2] 54)).cell? ⟨wC.heap.size, 0, none⟩ = some (.int .i64 E1)) := Lib.hid ((Blk.new _ _ _).cell 0)
                  have HEB : Hid (Blk (wC.alloc (.cells #[.int .i64 E1, .int .i64 E2] 54)) wC.heap.size 54 #[.int .i64 E1, .int .i64 E2]) := Lib.hid (Blk.new _ _ _)
                  have HElt : Hid (wC.heap.size < (wC.alloc (.cells #[.int .i64 E1, .int .i64 E2] 54)).heap.size) := Lib.hid (by simp)
                  clear hpg he ht ht2 hx hx2 hdec hE1 hE2 HC
                  go_wp2_with fail
                  generalize wC.heap.size = eb at HE1 HEB HElt ⊢
                  generalize wC.alloc (.cells #[.int .i64 E1, .int .i64 E2] 54) = W5 at H1 HE1 HEB HElt ⊢
                  clear lc1 lc2 glt
                  have Hd := Lib.hid H1.out.drew
                  have ed1 : W5.drew.cell? ⟨eb, 0, none⟩ = some (.int .i64 E1) := HE1.out
                  have elt : eb < W5.drew.heap.size := HElt.out
                  have hrule : ∀ W : World, (PQ W q p rb lb n cr cl V S T ∧ W.cell? ⟨eb, 0, none⟩ = some (.int .i64 E1)) → _ := fun W h => And.intro (PQ.rule q p rb lb n cr cl V S T W h.1) h.2
                  clear H1
                  obtain ⟨y0, y1, y2, y3, y4, y5, y6, y7, y8, y9, y10⟩ := PQ.rule _ _ _ _ _ _ _ _ _ _ _ Hd.out.pq
                  have qlt := Hd.out.qlt
                  have HDE := Lib.hid ed1
                  have HEl := Lib.hid elt
                  by_cases hE : 0 ≤ E1
                  · have hB2 : decide (t.root = t2.root) = true := by rw [HDEC.out]; exact decide_eq_true hE
                    have HB2 := Lib.hid hB2
                    clear hB2
                    go_region_held3 (fun W => PQ W q p rb lb n cr cl V S T ∧ W.cell? ⟨eb, 0, none⟩ = some (.int .i64 E1)) (first | (with_reducible assumption) | (with_reducible exact ⟨H2.out.pq, HE2.out⟩) | (with_reducible exact ⟨Hd.out.pq, HDE.out⟩))
                      (first
                        | (go_at_call 15; ((with_reducible refine (glinked_b Hd.out hlv hyI HT.out.1 HT.out.2.2.1 HT.out.2.1 HT.out.2.2.2 HB2.out).mono ?_); rintro e w6 ⟨rfl, G6, O6⟩; have H2 := Lib.hid G6; have HE2 := Lib.hid (cell_tree Hd.out.tm O6 HEB.out HDE.out))))
                    clear hrule Hd y0 y1 y2 y3 y4 y5 y6 y7 y8 y9 y10 qlt ed1 elt
                    go_wp2_with fail
                    go_roundw
                    case rel => exact ⟨y + 1, by omega, by simp, H2.out⟩
                    case measure => simp [intOf]; omega
                  · have hB2 : decide (t.root = t2.root) = false := by rw [HDEC.out]; exact decide_eq_false hE
                    have HB2 := Lib.hid hB2
                    clear hB2
                    go_region_held3 (fun W => PQ W q p rb lb n cr cl V S T ∧ W.cell? ⟨eb, 0, none⟩ = some (.int .i64 E1)) (first | (with_reducible assumption) | (with_reducible exact ⟨H2.out.pq, HE2.out⟩) | (with_reducible exact ⟨Hd.out.pq, HDE.out⟩))
                      (first
                        | (go_at_call 15; ((with_reducible refine (glinked_b Hd.out hlv hyI HT.out.1 HT.out.2.2.1 HT.out.2.1 HT.out.2.2.2 HB2.out).mono ?_); rintro e w6 ⟨rfl, G6, O6⟩; have H2 := Lib.hid G6; have HE2 := Lib.hid (cell_tree Hd.out.tm O6 HEB.out HDE.out))))
                    clear hrule Hd y0 y1 y2 y3 y4 y5 y6 y7 y8 y9 y10 qlt ed1 elt
                    go_wp2_with fail
                    go_roundw
                    case rel => exact ⟨y + 1, by omega, by simp, H2.out⟩
                    case measure => simp [intOf]; omega
                · have ey : sn = y := by omega
                  subst ey
                  have yI : ¬ (sn : Int) < (sn : Int) := by omega
                  clear hy hyS
                  go_wp2_with fail
                  go_roundw
                  case rel => exact ⟨L + 1, hl, by simp, HC.out.less (by omega)⟩
                  case measure => simp [intOf]; omega
        · have eL : L = n := by omega
          subst eL
          have hlI : ¬ (L : Int) < (L : Int) := by omega
          clear hl hLn
          go_wp2_with fail
          refine (awake_any10 _).mono ?_; rintro e w9 ⟨rfl, hb9⟩
          have HBE := Lib.hid ((HA.out.below hb9).be)
          go_wp2_with fail
          go_ret
          exact ⟨rfl, HBE.out⟩
end

end Go.Proofs.Ytijpflnbjcoidaa
