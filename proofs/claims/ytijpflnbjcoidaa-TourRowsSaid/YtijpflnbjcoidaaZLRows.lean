/- The law TourRows: its walk. Printed by wip/tools/tovlr.py. -/
import Derived.Test.YtijpflnbjcoidaaZTovC
namespace Go.Proofs.Ytijpflnbjcoidaa
open Go.RowKit

set_option maxRecDepth 100000

/-- Between two levels. -/
def R1 (w0 : World) (zb : Nat) (vc : Array Value) (V S T : Int) (n q p gb cap rb lb cr cl base : Nat) (gB : Nat → Nat) (g : Mg9) (ts : List Tp) (vr : Nat → Value) (rs : Nat → List (List Nat)) (gr : Nat → List (Option (Nat × Nat))) (i : Value) (W : World) : Prop := ∃ L, L ≤ n ∧ i = .int .i64 ((L : Nat) : Int) ∧ GX w0 W zb vc V S T n q p gb cap rb lb cr cl base gB g ts vr rs gr (3000 * (n - L))
/-- Between two slots. -/
def R2 (w0 : World) (zb : Nat) (vc : Array Value) (V S T : Int) (n q p gb cap rb lb cr cl base : Nat) (gB : Nat → Nat) (g : Mg9) (ts : List Tp) (vr : Nat → Value) (rs : Nat → List (List Nat)) (gr : Nat → List (Option (Nat × Nat))) (L sn : Nat) (i : Value) (W : World) : Prop := ∃ y, y ≤ sn ∧ i = .int .i64 ((y : Nat) : Int) ∧ GX w0 W zb vc V S T n q p gb cap rb lb cr cl base gB g ts vr rs gr (3000 * (n - L - 1) + 300 * (sn - y))
/-- Between two nodes that stand between the arcs. -/
def R3 (wS : World) (V : Int) (L SB : Nat) (qq : List Nat) (sd i : Value) (W : World) : Prop := ∃ y, y ≤ qq.length ∧ i = .int .i64 ((y : Nat) : Int) ∧ Below wS.heap.size wS W ∧ ((sd = .int .i64 (-1) ∧ ∀ w : Nat, (w : Int) < V → Xn V L w ∉ qq.take y) ∨ sd = .int .i64 (SB : Int))
theorem joined_b {w : World} {v : Value} {gr : List (Option (Nat × Nat))} {E : List (Nat × Nat × Nat)} {V x y : Nat} {b : Bool} (h : GI w v gr) (hl : gr.length ≤ 1000) (hE : Lnk gr E) (hx : x < V) (hV : V ≤ 1000) (hlt : ∀ s a b, (s, a, b) ∈ E → a < V ∧ b < V) (hb : Way E x y ↔ b = true) :
    Calls Try.prog 16 #[v, .int .i64 (x : Int), .int .i64 (y : Int)] w fun e w' => e = .returned (.bool b) ∧ Below w.heap.size w w' := by
  refine (joined_any h hl hE hx hV hlt).mono ?_
  rintro e w' ⟨r, rfl, hr, hw⟩
  have e : r = b := by
    have h2 := hr.trans hb
    cases r <;> cases b <;> simp_all
  exact ⟨by rw [e], hw⟩
section
variable {V S T : Int} {da oa : Option Addr} {dl dc ol oc : Nat} {f : Nat → Nat} {fo : Nat → OpT}
set_option maxHeartbeats 16000000 in
theorem lrows10 (w : World) (hD : IsNum w da dl f) (hO : IsOpT w oa ol fo) :
    Calls Try.prog 5 #[vC10 V S T da dl dc oa ol oc] w fun e w' => e = .returned (.bool true) ∧ Below w.heap.size w w' := by
  have HD := Lib.hid hD
  have HO := Lib.hid hO
  clear hD hO
  have HB1 : Hid (Below w.heap.size w (w.alloc (.cells #[.int .i64 V, .int .i64 S, .int .i64 T, .slice da dl dc, .slice oa ol oc] 27))) := Lib.hid ((Below.refl _ _).alloc (Nat.le_refl _) _)
  have HZ1 : Hid (Blk (w.alloc (.cells #[.int .i64 V, .int .i64 S, .int .i64 T, .slice da dl dc, .slice oa ol oc] 27)) w.heap.size 27 #[.int .i64 V, .int .i64 S, .int .i64 T, .slice da dl dc, .slice oa ol oc]) := Lib.hid (Blk.new _ _ _)
  go_enter Try.func5, Try.ntmps5
  go_wp2_with fail
  generalize w.heap.size = zb at HZ1 ⊢
  generalize w.alloc (.cells #[.int .i64 V, .int .i64 S, .int .i64 T, .slice da dl dc, .slice oa ol oc] 27) = W1 at HZ1 HB1 ⊢
  refine (right_case10 V S T da dl dc oa ol oc _).mono ?_; rintro e w2 ⟨rfl, hb2⟩
  have HB2 := Lib.hid (HB1.out.trans (hb2.mono HB1.out.size))
  have HZ2 := Lib.hid (HZ1.out.below hb2 HZ1.out.lt)
  clear HB1 HZ1 hb2
  cases hr : rgt10 V S T dl ol
  · go_wp2_with fail
    refine (awake_any10 _).mono ?_; rintro e w3 ⟨rfl, hb3⟩
    have HB3 := Lib.hid (HB2.out.trans (hb3.mono HB2.out.size))
    go_wp2_with fail
    go_ret
    exact ⟨rfl, HB3.out⟩
  have HG := Lib.hid (rgt10_yes hr)
  clear hr
  have z0 := HZ2.out.cell 0
  have z1 := HZ2.out.cell 1
  have z2 := HZ2.out.cell 2
  have z3 := HZ2.out.cell 3
  have z4 := HZ2.out.cell 4
  have zlt := HZ2.out.lt
  go_wp2_with fail
  refine (xbegun HG.out.r (HD.out.below HB2.out) HG.out.d HG.out.v HG.out.s HZ2.out HB2.out).mono ?_
  rintro e w3 ⟨n, q, p, gb, cap, rb, lb, cr, cl, base, gB, g0, ts0, vr0, rs0, gr0', rfl, hL⟩
  have HRel : Hid (LpT w zb #[.int .i64 V, .int .i64 S, .int .i64 T, .slice da dl dc, .slice oa ol oc] V S T n q p gb cap rb lb cr cl base gB ol (.int .i64 0) w3) := Lib.hid ⟨0, _, _, _, _, _, _, Nat.zero_le _, rfl, Nat.le_refl _, hL⟩
  clear z0 z1 z2 z3 z4 zlt HZ2 HB2
  have z4 := hL.z.cell 4
  have zlt := hL.z.lt
  clear hL
  have HOL := Lib.hid HG.out.o
  have holI : (ol : Int) ≤ 60 := by have := HG.out.o; omega
  go_wp2_with fail
  go_loopw [31] (fun i wr => LpT w zb #[.int .i64 V, .int .i64 S, .int .i64 T, .slice da dl dc, .slice oa ol oc] V S T n q p gb cap rb lb cr cl base gB ol i wr) (fun i _ => ol - (intOf i).toNat)
  case atStart => exact HRel.out
  case round =>
    clear HRel z4 zlt
    obtain ⟨k, m, g, ts, vr, rs, gr, hk, rfl, hm, hL⟩ := hrel
    have HL := Lib.hid hL
    have HMK := Lib.hid hm
    clear hL
    by_cases hkl : k < ol
    · obtain ⟨ob, off, rfl, hcell⟩ := HO.out (by omega)
      have hc := hcell k hkl
      obtain ⟨o, ho⟩ : ∃ o, fo k = o := ⟨_, rfl⟩
      rw [ho] at hc
      obtain ⟨kd, oa1, ob1, oc1, od1⟩ := o
      have c0 := cell_later HL.out.be hc.1
      have c1 := cell_later HL.out.be hc.2.1
      have c2 := cell_later HL.out.be hc.2.2.1
      have c3 := cell_later HL.out.be hc.2.2.2.1
      have c4 := cell_later HL.out.be hc.2.2.2.2.1
      have hkI : (k : Int) < (ol : Int) := by omega
      have hk0 : (0 : Int) ≤ (k : Int) := by omega
      have HM1 : Hid (m ≤ 700000) := Lib.hid (by have := HOL.out; omega)
      have HLa := Lib.hid (HL.out.below ((Below.refl _ _).alloc (Nat.le_refl _) (.cells #[.int .i64 kd, .int .i64 oa1, .int .i64 ob1, .int .i64 oc1, .int .i64 od1] 33)))
      clear hc ho hcell HL hm
      go_wp2_with fail
      refine (xstep HLa.out HM1.out).mono ?_
      rintro e w5 ⟨rfl, g', ts', vr', rs', gr', hL5⟩
      have HL5 := Lib.hid hL5
      clear hL5 HLa c0 c1 c2 c3 c4
      go_wp2_with fail
      go_roundw
      case rel => exact ⟨k + 1, _, g', ts', vr', rs', gr', hkl, by simp, by have := HMK.out; omega, HL5.out⟩
      case measure => simp [intOf]; omega
    · have ek : ol = k := by omega
      subst ek
      have hkI : ¬ (ol : Int) < (ol : Int) := by omega
      have HM1 : Hid (m ≤ 661000) := Lib.hid (by have := HOL.out; omega)
      have hn4 := HL.out.pl.n4
      have HV8 := Lib.hid (And.intro HL.out.pl.v8 HL.out.pl.s8)
      have HNI := Lib.hid HL.out.pl.pg.hn
      obtain ⟨wO, rfl⟩ : ∃ w1 : World, w1 = wr := ⟨_, rfl⟩
      have HLV := Lib.hid HL.out.pl.lv
      have HFI := Lib.hid HL.out.pl.fi
      have HR := Lib.hid HL.out.pl.hR
      have HRW : Hid (∀ L, L < n → ∀ r ∈ rs L, r.length ≤ 96) := Lib.hid fun L hL r hr => HL.out.pl.row_len hL hr
      have HRN : Hid (∀ L, L < n → (rs L).length ≤ 96) := Lib.hid fun L hL => HL.out.pl.rows_len hL
      obtain ⟨sn, hsn⟩ : ∃ x, S.toNat = x := ⟨_, rfl⟩
      have HSN := Lib.hid hsn
      have HSI : Hid ((sn : Int) = S) := Lib.hid (by have := HL.out.pl.hR.s1; omega)
      have hS8I : (sn : Int) ≤ 8 := by have := HV8.out.2; have := HSI.out; omega
      clear hsn
      have hn4I : (n : Int) ≤ 4 := by omega
      have HFL : Hid (∀ L, L < n → (rs L).flatten.length ≤ 96) := Lib.hid fun L hL => HL.out.pl.flat hL
      clear hk hkl hm
      have hvn1 : V.toNat ≤ 8 := by have := HV8.out.1; omega
      have HG1 : Hid (R1 w zb #[.int .i64 V, .int .i64 S, .int .i64 T, .slice da dl dc, .slice oa ol oc] V S T n q p gb cap rb lb cr cl base gB g ts vr rs gr (.int .i64 0) wO) := Lib.hid ⟨0, Nat.zero_le _, rfl, HL.out.gx (by have := HM1.out; omega)⟩
      have HGX := Lib.hid (HL.out.gx (k := 0) (by have := HM1.out; omega))
      clear HL HMK HM1
      obtain ⟨y0, y1, y2, y3, y4, y5, y6, y7, y8, y9, y10⟩ := PQ.rule _ _ _ _ _ _ _ _ _ _ _ HGX.out.pq
      have qlt := HGX.out.qlt
      go_wp2_with fail
      clear HGX y0 y1 y2 y3 y4 y5 y6 y7 y8 y9 y10 qlt
      go_loopw [45] (fun i wr => R1 w zb #[.int .i64 V, .int .i64 S, .int .i64 T, .slice da dl dc, .slice oa ol oc] V S T n q p gb cap rb lb cr cl base gB g ts vr rs gr i wr) (fun i _ => n - (intOf i).toNat)
      case atStart => exact HG1.out
      case round =>
        clear HG1
        obtain ⟨L, hLn, rfl, hG⟩ := hrel
        have HA := Lib.hid hG
        clear hG
        obtain ⟨wA, rfl⟩ : ∃ w1 : World, w1 = wr := ⟨_, rfl⟩
        by_cases hl : L < n
        · have hlI : (L : Int) < (n : Int) := by omega
          have hlv : (L : Int) < lv V := by have := HNI.out; omega
          obtain ⟨m1, hpg⟩ := HA.out.pg
          have gl := hpg.gr_cell hl
          have glt2 := hpg.lb_lt
          rw [HSN.out] at gl
          have L0 : (0 : Int) ≤ (L : Int) := by omega
          have HLV1 := Lib.hid (HLV.out L hl)
          have HR2 : Hid (R2 w zb #[.int .i64 V, .int .i64 S, .int .i64 T, .slice da dl dc, .slice oa ol oc] V S T n q p gb cap rb lb cr cl base gB g ts vr rs gr L sn (.int .i64 0) wA) := Lib.hid ⟨0, Nat.zero_le _, rfl, HA.out.less (by omega)⟩
          clear hpg
          obtain ⟨y0, y1, y2, y3, y4, y5, y6, y7, y8, y9, y10⟩ := PQ.rule _ _ _ _ _ _ _ _ _ _ _ HA.out.pq
          have qlt := HA.out.qlt
          go_wp2_with fail
          clear gl glt2 y0 y1 y2 y3 y4 y5 y6 y7 y8 y9 y10 qlt
          go_loopw [52] (fun i wr => R2 w zb #[.int .i64 V, .int .i64 S, .int .i64 T, .slice da dl dc, .slice oa ol oc] V S T n q p gb cap rb lb cr cl base gB g ts vr rs gr L sn i wr) (fun i _ => sn - (intOf i).toNat)
          case atStart => exact HR2.out
          case round =>
            clear HR2
            obtain ⟨y, hy, rfl, hG⟩ := hrel
            have HC := Lib.hid hG
            clear hG
            obtain ⟨wC, rfl⟩ : ∃ w1 : World, w1 = wr := ⟨_, rfl⟩
            by_cases hyS : y < sn
            · have yI : (y : Int) < (sn : Int) := by omega
              have y00 : (0 : Int) ≤ (y : Int) := by omega
              have hyI : (y : Int) < S := by have := HSI.out; omega
              obtain ⟨e, he⟩ : ∃ e, (gr L)[y]? = some e := ⟨_, List.getElem?_eq_getElem (by rw [HLV1.out.len, HSN.out]; exact hyS)⟩
              obtain ⟨m1, hpg⟩ := HC.out.pg
              obtain ⟨lc1, lc2, _, _, glt⟩ := PG.link_cell hpg hl he
              have HE := Lib.hid he
              clear hpg
              rcases e with _ | ⟨ea, eb2⟩
              · dsimp only [end1, end2] at lc1 lc2
                clear he
                have H2 := Lib.hid (HC.out.below ((Below.refl _ _).alloc (Nat.le_refl _) (.cells #[.int .i64 (-1), .int .i64 (-1)] 54)))
                go_wp2_with fail
                go_roundw
                case rel => exact ⟨y + 1, hyS, by simp, H2.out.less (by omega)⟩
                case measure => simp [intOf]; omega
              dsimp only [end1, end2] at lc1 lc2
              have hea : ¬ (ea : Int) < 0 := by omega
              obtain ⟨r, hr, c, d, pp, qq, rr, harc, er, hnd, ⟨wv, hwv, hwq⟩, hsub, hends, E, hlnk, hbnd, hjoin⟩ := HLV1.out.between HR.out hlv HFI.out he
              obtain ⟨t, ht, rt⟩ := HLV1.out.has r hr
              have hxt : An V S L y 0 ∈ t.row := by rw [rt, er]; rcases harc with ⟨e1, e2⟩ | ⟨e1, e2⟩ <;> rw [e1, e2] <;> simp
              have HT := Lib.hid (And.intro ht (And.intro hxt (rt.trans er)))
              have HARC := Lib.hid harc
              have HND := Lib.hid (er ▸ hnd : (pp ++ c :: (qq ++ d :: rr)).Nodup)
              have HRL : Hid ((pp ++ c :: (qq ++ d :: rr)).length ≤ 96) := Lib.hid (er ▸ HRW.out L hl r hr)
              have HQL : Hid (qq.length ≤ 96) := Lib.hid (by have h := HRL.out; simp only [List.length_append, List.length_cons] at h; omega)
              have HWQ := Lib.hid (And.intro hwv hwq)
              have HKD : Hid (∀ x ∈ qq, (∃ u : Nat, (u : Int) < V ∧ x = Xn V L u) ∨ ∃ s d : Nat, (s : Int) < S ∧ d < 2 ∧ x = An V S L s d) := Lib.hid fun x hx => HLV1.out.kind HR.out HFI.out hr (hsub x hx)
              have HLK := Lib.hid hlnk
              have HBD := Lib.hid hbnd
              have HJN := Lib.hid hjoin
              obtain ⟨SB, EP, hSB, hEP, hB⟩ : ∃ SB EP : Nat, ((SB = 0 ∧ EP = ea) ∨ (SB = 1 ∧ EP = eb2)) ∧ Xn V L EP ∈ qq ∧ (Xn V L eb2 ∈ qq ↔ SB = 1) := by
                rcases hends with ⟨h1, h2⟩ | ⟨h1, h2⟩
                · exact ⟨0, ea, .inl ⟨rfl, rfl⟩, h1, ⟨fun h => absurd h h2, fun h => by omega⟩⟩
                · exact ⟨1, eb2, .inr ⟨rfl, rfl⟩, h1, ⟨fun _ => rfl, fun _ => h1⟩⟩
              have HSB := Lib.hid hSB
              have HEP := Lib.hid hEP
              have HB := Lib.hid hB
              clear he hr harc er hnd hwv hwq hsub hends hlnk hbnd hjoin ht rt hxt hSB hEP hB
              have H1 := Lib.hid ((HC.out.less (k' := 3000 * (n - L - 1) + 300 * (sn - (y + 1)) + 12 + 192 + 96) (by omega)).below ((Below.refl _ _).alloc (Nat.le_refl _) (.cells #[.int .i64 (ea : Int), .int .i64 (eb2 : Int)] 54)))
              have HEB : Hid (Blk (wC.alloc (.cells #[.int .i64 (ea : Int), .int .i64 (eb2 : Int)] 54)) wC.heap.size 54 #[.int .i64 (ea : Int), .int .i64 (eb2 : Int)]) := Lib.hid (Blk.new _ _ _)
              clear HC
              go_wp2_with fail
              generalize wC.heap.size = eb at HEB ⊢
              generalize wC.alloc (.cells #[.int .i64 (ea : Int), .int .i64 (eb2 : Int)] 54) = W5 at H1 HEB ⊢
              clear lc1 lc2 glt
              have Hd := Lib.hid H1.out.drew
              have HZd := Lib.hid Hd.out.zl
              have HEd := Lib.hid HEB.out.drew
              have z0 := HZd.out.cell 0
              have z1 := HZd.out.cell 1
              have z2 := HZd.out.cell 2
              have zlt := HZd.out.lt
              have hrule : ∀ W : World, Blk W zb 27 #[.int .i64 V, .int .i64 S, .int .i64 T, .slice da dl dc, .slice oa ol oc] → W.cell? ⟨zb, 0, none⟩ = some (.int .i64 V) ∧ W.cell? ⟨zb, 1, none⟩ = some (.int .i64 S) ∧ W.cell? ⟨zb, 2, none⟩ = some (.int .i64 T) := fun W h => ⟨h.cell 0, h.cell 1, h.cell 2⟩
              clear H1 HEB
              go_region_held3 (fun W => Blk W zb 27 #[.int .i64 V, .int .i64 S, .int .i64 T, .slice da dl dc, .slice oa ol oc]) (first | (with_reducible assumption) | (with_reducible exact H3.out.zl) | (with_reducible exact H2.out.zl) | (with_reducible exact HZd.out))
                (first
                  | (go_at_call 19; ((with_reducible refine (arc0_at HR.out hlv hyI _).mono ?_); rintro e w6 ⟨rfl, hb6⟩; have H2 := Lib.hid (Hd.out.below hb6); have HE2 := Lib.hid (HEd.out.below hb6 HEd.out.lt)))
                  | (go_at_call 19; ((with_reducible refine (arc1_at HR.out hlv hyI _).mono ?_); rintro e w7 ⟨rfl, hb7⟩; have H3 := Lib.hid (H2.out.below hb7); have HE3 := Lib.hid (HE2.out.below hb7 HE2.out.lt))))
              clear hrule z0 z1 z2 zlt Hd HZd HEd H2 HE2
              obtain ⟨A0, hA0⟩ : ∃ A, An V S L y 0 = A := ⟨_, rfl⟩
              obtain ⟨A1, hA1⟩ : ∃ A, An V S L y 1 = A := ⟨_, rfl⟩
              have HA0 := Lib.hid hA0
              have HA1 := Lib.hid hA1
              rw [hA0, hA1]
              clear hA0 hA1
              have Hd := Lib.hid H3.out.drew
              have HEd := Lib.hid HE3.out.drew
              have hrule := PQ.rule q p rb lb n cr cl V S T
              clear H3 HE3
              obtain ⟨y0, y1, y2, y3, y4, y5, y6, y7, y8, y9, y10⟩ := PQ.rule _ _ _ _ _ _ _ _ _ _ _ Hd.out.pq
              have qlt := Hd.out.qlt
              go_wp2_with fail
              go_region_held3 (fun W => PQ W q p rb lb n cr cl V S T) (first | (with_reducible assumption) | (with_reducible exact H6.out.pq) | (with_reducible exact H5.out.pq) | (with_reducible exact H4.out.pq) | (with_reducible exact Hd.out.pq))
                (first
                  | (go_at_call 12; ((with_reducible refine (groot Hd.out HT.out.1 (x := A0) (HA0.out ▸ HT.out.2.1) rfl).mono ?_); rintro e w6 ⟨rfl, G4, O4⟩; have H4 := Lib.hid G4; have HE4 := Lib.hid (blk2_tree Hd.out.tm O4 HEd.out)))
                  | (go_at_call 14; ((with_reducible refine (glist H4.out HT.out.1 rfl).mono ?_); rintro e w7 ⟨v7, rfl, L7, _, G5, O5⟩; have H5 := Lib.hid G5; have HE5 := Lib.hid (blk2_tree H4.out.tm O5 HE4.out); have HL5 := Lib.hid (LI.cong L7 HT.out.2.2)))
                  | (go_at_call 20; ((with_reducible refine (cut_row HL5.out (by have := HRL.out; omega)).mono ?_); rintro e w8 ⟨qv, ov, rfl, hr1, hr2, hb8⟩; have H6 := Lib.hid (H5.out.below hb8); have HE6 := Lib.hid (HE5.out.below hb8 HE5.out.lt); have HQ6 : Hid (LI w8 qv qq) := Lib.hid (by have h := hr1.li; rw [cut_is (HA0.out ▸ HA1.out ▸ HARC.out) HND.out] at h; exact h))))
              clear Hd HEd H4 HE4 H5 HE5 HL5 hrule y0 y1 y2 y3 y4 y5 y6 y7 y8 y9 y10 qlt
              obtain ⟨qa, qc, hqv, _⟩ := HQ6.out.shape
              obtain ⟨NQ, hNQ⟩ : ∃ N, qq.length = N := ⟨_, rfl⟩
              have HNQ := Lib.hid hNQ
              rw [hNQ] at hqv
              subst hqv
              have hNQI : (NQ : Int) ≤ 96 := by have := HQL.out; omega
              obtain ⟨m2, hpg2⟩ := H6.out.pg
              obtain ⟨hgl, zs9, hzs9, hcs9⟩ := hpg2.gs L hl
              rw [HSN.out] at hgl
              have HGL := Lib.hid hgl
              have HZS := Lib.hid hzs9
              have HCS := Lib.hid hcs9
              have hs0 : 0 < sn := by omega
              have hsn1 : sn ≤ 1000 := by omega
              clear hpg2 hgl hzs9 hcs9 hNQ
              go_wp2_with (at_builtin; go_loud (refine wpList_copy (gr := gr L) rfl _ _ rfl rfl rfl HGL.out hs0 HZS.out HCS.out hsn1 ?_))
              intro g9 c9 w9 cs9 hz9 hg9 hb9 hc9
              have HBX := Lib.hid ((hb9.setCell (p := ⟨g9, y * 2, none⟩) hg9 (.int .i64 (-1))).setCell (p := ⟨g9, y * 2 + 1, none⟩) hg9 (.int .i64 (-1)))
              have HGI := Lib.hid (GI.copied (c9 := c9) hz9 HGL.out hc9 hyS)
              have h99 := hc9 y _ HE.out
              have d1 := (hz9.cell (y * 2)).trans h99.1
              have d2 := (hz9.cell (y * 2 + 1)).trans h99.2
              dsimp only [end1, end2] at d1 d2
              have f1 := hz9.frozen (y * 2)
              have f2 := hz9.frozen (y * 2 + 1)
              have blt := hz9.lt
              have H7 := Lib.hid (H6.out.below HBX.out)
              have HE7 := Lib.hid (HE6.out.below HBX.out HE6.out.lt)
              have HQ7 := Lib.hid (HQ6.out.below HBX.out)
              clear hz9 hg9 hb9 hc9 h99 H6 HE6 HQ6 HZS HCS HBX
              go_wp2_with fail
              generalize (w9.setCell ⟨g9, y * 2, none⟩ (.int .i64 (-1))).setCell ⟨g9, y * 2 + 1, none⟩ (.int .i64 (-1)) = wS at H7 HE7 HQ7 HGI ⊢
              clear d1 d2 f1 f2 blt
              have HR3 : Hid (R3 wS V L SB qq (.int .i64 (-1)) (.int .i64 0) wS) := Lib.hid ⟨0, Nat.zero_le _, rfl, Below.refl _ _, .inl ⟨rfl, fun w _ h => by simp at h⟩⟩
              go_loopw [15, 98] (fun sd i wr => R3 wS V L SB qq sd i wr) (fun _ i _ => NQ - (intOf i).toNat)
              case atStart => exact HR3.out
              case round =>
                clear HR3
                obtain ⟨z, hz, rfl, hbw, hsd⟩ := hrel
                have HBW := Lib.hid hbw
                have HSD := Lib.hid hsd
                obtain ⟨wD, rfl⟩ : ∃ w1 : World, w1 = wr := ⟨_, rfl⟩
                rw [HNQ.out] at hz
                have HQ8 := Lib.hid (HQ7.out.below hbw)
                clear hbw
                by_cases hzN : z < NQ
                · have zI : (z : Int) < (NQ : Int) := by omega
                  have z00 : (0 : Int) ≤ (z : Int) := by omega
                  obtain ⟨x, hx⟩ : ∃ x, qq[z]? = some x := ⟨_, List.getElem?_eq_getElem (by rw [HNQ.out]; exact hzN)⟩
                  have HXT : Hid (qq.take (z + 1) = qq.take z ++ [x]) := Lib.hid (by rw [List.take_add_one, hx]; rfl)
                  have HXM := Lib.hid (List.mem_of_getElem? hx)
                  obtain ⟨b1, o1, rfl, cx⟩ := HQ8.out.at hx
                  have HZ8 := Lib.hid (H7.out.below HBW.out).zl
                  have z0 := HZ8.out.cell 0
                  have z1 := HZ8.out.cell 1
                  have z2 := HZ8.out.cell 2
                  have zlt := HZ8.out.lt
                  have HXX := Lib.hid hx
                  clear hx hsd
                  rcases HKD.out x HXM.out with ⟨u1, hu1, ex⟩ | ⟨s1, d1, hs1, hd1, ex⟩
                  rotate_left
                  · have HEX := Lib.hid ex
                    clear ex
                    go_wp2_with fail
                    rw [HEX.out]
                    refine (node_A HR.out hlv hs1 hd1 _).mono ?_; rintro e w10 ⟨na, nb, nc, nd9, rfl, hb10⟩
                    have HB10 := Lib.hid (HBW.out.trans (hb10.mono HBW.out.size))
                    have HB11 := Lib.hid (HB10.out.alloc HB10.out.size (.cells #[.bool true, .int .i64 na, .int .i64 nb, .int .i64 nc, .int .i64 nd9] 62))
                    clear hb10 cx z0 z1 z2 zlt HQ8 HZ8 HBW
                    have hnx : ∀ w : Nat, Xn V L w ≠ x := fun w e => An_Xn HR.out hlv s1 d1 w (e.trans HEX.out).symm
                    rcases HSD.out with ⟨rfl, hno⟩ | rfl
                    · go_wp2_with fail
                      go_roundw
                      case rel => exact ⟨z + 1, by rw [HNQ.out]; exact hzN, by simp, HB11.out, .inl ⟨rfl, fun w hw h => by
                        rw [HXT.out] at h
                        rcases List.mem_append.1 h with h | h
                        · exact hno w hw h
                        · exact hnx w (List.mem_singleton.1 h)⟩⟩
                      case measure => simp [intOf]; omega
                    · go_wp2_with fail
                      go_roundw
                      case rel => exact ⟨z + 1, by rw [HNQ.out]; exact hzN, by simp, HB11.out, .inr rfl⟩
                      case measure => simp [intOf]; omega
                  subst ex
                  have huN : u1 < V.toNat := by omega
                  have HJ := Lib.hid (fun y => HJN.out u1 y HXM.out)
                  go_wp2_with fail
                  refine (node_X HR.out hlv hu1 _).mono ?_; rintro e w10 ⟨rfl, hb10⟩
                  have HB10 := Lib.hid (HBW.out.trans (hb10.mono HBW.out.size))
                  have HB11 := Lib.hid (HB10.out.alloc HB10.out.size (.cells #[.bool false, .int .i64 (L : Int), .int .i64 (u1 : Int), .int .i64 0, .int .i64 0] 62))
                  have HTB : Hid (Blk (w10.alloc (.cells #[.bool false, .int .i64 (L : Int), .int .i64 (u1 : Int), .int .i64 0, .int .i64 0] 62)) w10.heap.size 62 #[.bool false, .int .i64 (L : Int), .int .i64 (u1 : Int), .int .i64 0, .int .i64 0]) := Lib.hid (Blk.new _ _ _)
                  clear hb10 cx z0 z1 z2 zlt HQ8 HZ8 HBW HB10
                  rcases HSD.out with ⟨rfl, hno⟩ | rfl
                  · have Ed0 := Lib.hid (HE7.out.below HB11.out HE7.out.lt)
                    have cc1 := HTB.out.cell 2
                    have cc2 := Ed0.out.cell 1
                    have cc3 := HTB.out.cell 0
                    have lt1 := HTB.out.lt
                    have lt2 := Ed0.out.lt
                    go_wp2_with fail
                    generalize w10.heap.size = tb at HTB cc1 cc3 lt1 ⊢
                    generalize w10.alloc (.cells #[.bool false, .int .i64 (L : Int), .int .i64 (u1 : Int), .int .i64 0, .int .i64 0] 62) = W11 at HB11 HTB Ed0 cc1 cc2 cc3 lt1 lt2 ⊢
                    by_cases hbq : Xn V L eb2 ∈ qq
                    · have hs1 := HB.out.1 hbq
                      subst hs1
                      have hep : EP = eb2 := by rcases HSB.out with ⟨e1, e2⟩ | ⟨e1, e2⟩; omega; exact e2
                      subst hep
                      refine (joined_b (b := true) (x := u1) (y := EP) (V := V.toNat) (HGI.out.below HB11.out) (by rw [List.length_set, HGL.out]; exact hsn1) HLK.out huN (by omega) HBD.out ((HJ.out _).trans ⟨fun _ => rfl, fun _ => hbq⟩)).mono ?_; rintro e w12 ⟨rfl, hb12⟩
                      have HB12a := Lib.hid (HB11.out.trans (hb12.mono HB11.out.size))
                      have HTB2 := Lib.hid (HTB.out.below hb12 HTB.out.lt)
                      clear hb12 HTB Ed0 cc1 cc2 cc3 lt1 lt2 HB11
                      have Bd := Lib.hid HB12a.out.drew
                      have Td := Lib.hid HTB2.out.drew
                      have Ed := Lib.hid (HE7.out.below HB12a.out HE7.out.lt).drew
                      have cc1 : (w12).drew.cell? ⟨tb, 2, none⟩ = some (.int .i64 (u1 : Int)) := Td.out.cell 2
                      have cc2 : (w12).drew.cell? ⟨eb, 1, none⟩ = some (.int .i64 (EP : Int)) := Ed.out.cell 1
                      have lt1 := Td.out.lt
                      have lt2 := Ed.out.lt
                      have HCC := Lib.hid (And.intro cc1 cc2)
                      have hrule : ∀ W : World, (W.cell? ⟨tb, 2, none⟩ = some (.int .i64 (u1 : Int)) ∧ W.cell? ⟨eb, 1, none⟩ = some (.int .i64 (EP : Int))) → W.cell? ⟨tb, 2, none⟩ = some (.int .i64 (u1 : Int)) ∧ W.cell? ⟨eb, 1, none⟩ = some (.int .i64 (EP : Int)) := fun _ h => h
                      go_wp2_with fail
                      go_region_held3 (fun W => W.cell? ⟨tb, 2, none⟩ = some (.int .i64 (u1 : Int)) ∧ W.cell? ⟨eb, 1, none⟩ = some (.int .i64 (EP : Int))) (first | (with_reducible assumption) | (with_reducible exact ⟨cell_later hb12 HCC.out.1, cell_later hb12 HCC.out.2⟩) | (with_reducible exact HCC.out))
                        (first
                          | (go_at_call 16; ((with_reducible refine (joined_b (b := true) (x := u1) (y := EP) (V := V.toNat) (HGI.out.below Bd.out) (by rw [List.length_set, HGL.out]; exact hsn1) HLK.out huN (by omega) HBD.out ((HJ.out EP).trans ⟨fun _ => rfl, fun _ => HEP.out⟩)).mono ?_); rintro e w12 ⟨rfl, hb12⟩; have HB12 := Lib.hid (Bd.out.trans (hb12.mono Bd.out.size)))))
                      clear hrule HCC cc1 cc2 lt1 lt2 Bd Td Ed
                      go_wp2_with fail
                      go_roundw
                      case rel => exact ⟨z + 1, by rw [HNQ.out]; exact hzN, by simp, HB12.out, .inr rfl⟩
                      case measure => simp [intOf]; omega
                    · have hs1 := (show SB = 0 from by rcases HSB.out with ⟨e, _⟩ | ⟨e, _⟩; exact e; exact absurd (HB.out.2 e) hbq)
                      subst hs1
                      have hep : EP = ea := by rcases HSB.out with ⟨e1, e2⟩ | ⟨e1, e2⟩; exact e2; omega
                      subst hep
                      refine (joined_b (b := false) (x := u1) (y := eb2) (V := V.toNat) (HGI.out.below HB11.out) (by rw [List.length_set, HGL.out]; exact hsn1) HLK.out huN (by omega) HBD.out ((HJ.out _).trans ⟨fun h => absurd h hbq, fun h => by cases h⟩)).mono ?_; rintro e w12 ⟨rfl, hb12⟩
                      have HB12a := Lib.hid (HB11.out.trans (hb12.mono HB11.out.size))
                      have HTB2 := Lib.hid (HTB.out.below hb12 HTB.out.lt)
                      clear hb12 HTB Ed0 cc1 cc2 cc3 lt1 lt2 HB11
                      have Bd := Lib.hid HB12a.out.drew
                      have Td := Lib.hid HTB2.out.drew
                      have Ed := Lib.hid (HE7.out.below HB12a.out HE7.out.lt).drew
                      have cc1 : (w12).drew.cell? ⟨tb, 2, none⟩ = some (.int .i64 (u1 : Int)) := Td.out.cell 2
                      have cc2 : (w12).drew.cell? ⟨eb, 0, none⟩ = some (.int .i64 (EP : Int)) := Ed.out.cell 0
                      have lt1 := Td.out.lt
                      have lt2 := Ed.out.lt
                      have HCC := Lib.hid (And.intro cc1 cc2)
                      have hrule : ∀ W : World, (W.cell? ⟨tb, 2, none⟩ = some (.int .i64 (u1 : Int)) ∧ W.cell? ⟨eb, 0, none⟩ = some (.int .i64 (EP : Int))) → W.cell? ⟨tb, 2, none⟩ = some (.int .i64 (u1 : Int)) ∧ W.cell? ⟨eb, 0, none⟩ = some (.int .i64 (EP : Int)) := fun _ h => h
                      go_wp2_with fail
                      go_region_held3 (fun W => W.cell? ⟨tb, 2, none⟩ = some (.int .i64 (u1 : Int)) ∧ W.cell? ⟨eb, 0, none⟩ = some (.int .i64 (EP : Int))) (first | (with_reducible assumption) | (with_reducible exact ⟨cell_later hb12 HCC.out.1, cell_later hb12 HCC.out.2⟩) | (with_reducible exact HCC.out))
                        (first
                          | (go_at_call 16; ((with_reducible refine (joined_b (b := true) (x := u1) (y := EP) (V := V.toNat) (HGI.out.below Bd.out) (by rw [List.length_set, HGL.out]; exact hsn1) HLK.out huN (by omega) HBD.out ((HJ.out EP).trans ⟨fun _ => rfl, fun _ => HEP.out⟩)).mono ?_); rintro e w12 ⟨rfl, hb12⟩; have HB12 := Lib.hid (Bd.out.trans (hb12.mono Bd.out.size)))))
                      clear hrule HCC cc1 cc2 lt1 lt2 Bd Td Ed
                      go_wp2_with fail
                      go_roundw
                      case rel => exact ⟨z + 1, by rw [HNQ.out]; exact hzN, by simp, HB12.out, .inr rfl⟩
                      case measure => simp [intOf]; omega
                  · have cc3 := HTB.out.cell 0
                    have lt1 := HTB.out.lt
                    have hSB0 : ¬ (SB : Int) < 0 := by omega
                    have hSB1 : (SB : Int) < 2 := by rcases HSB.out with ⟨e, _⟩ | ⟨e, _⟩ <;> omega
                    have hSB2 : (0 : Int) ≤ (SB : Int) := by omega
                    go_wp2_with fail
                    generalize w10.heap.size = tb at HTB cc3 lt1 ⊢
                    generalize w10.alloc (.cells #[.bool false, .int .i64 (L : Int), .int .i64 (u1 : Int), .int .i64 0, .int .i64 0] 62) = W11 at HB11 HTB cc3 lt1 ⊢
                    clear cc3 lt1
                    have Bd := Lib.hid HB11.out.drew
                    have Td := Lib.hid HTB.out.drew
                    have Ed := Lib.hid (HE7.out.below HB11.out HE7.out.lt).drew
                    have cc1 : (W11).drew.cell? ⟨tb, 2, none⟩ = some (.int .i64 (u1 : Int)) := Td.out.cell 2
                    have cc2 : (W11).drew.cell? ⟨eb, SB, none⟩ = some (.int .i64 (EP : Int)) := by rcases HSB.out with ⟨e1, e2⟩ | ⟨e1, e2⟩ <;> rw [e1, e2]; exact Ed.out.cell 0; exact Ed.out.cell 1
                    have lt1 := Td.out.lt
                    have lt2 := Ed.out.lt
                    have HCC := Lib.hid (And.intro cc1 cc2)
                    have hrule : ∀ W : World, (W.cell? ⟨tb, 2, none⟩ = some (.int .i64 (u1 : Int)) ∧ W.cell? ⟨eb, SB, none⟩ = some (.int .i64 (EP : Int))) → W.cell? ⟨tb, 2, none⟩ = some (.int .i64 (u1 : Int)) ∧ W.cell? ⟨eb, SB, none⟩ = some (.int .i64 (EP : Int)) := fun _ h => h
                    go_wp2_with fail
                    go_region_held3 (fun W => W.cell? ⟨tb, 2, none⟩ = some (.int .i64 (u1 : Int)) ∧ W.cell? ⟨eb, SB, none⟩ = some (.int .i64 (EP : Int))) (first | (with_reducible assumption) | (with_reducible exact ⟨cell_later hb12 HCC.out.1, cell_later hb12 HCC.out.2⟩) | (with_reducible exact HCC.out))
                      (first
                        | (go_at_call 16; ((with_reducible refine (joined_b (b := true) (x := u1) (y := EP) (V := V.toNat) (HGI.out.below Bd.out) (by rw [List.length_set, HGL.out]; exact hsn1) HLK.out huN (by omega) HBD.out ((HJ.out EP).trans ⟨fun _ => rfl, fun _ => HEP.out⟩)).mono ?_); rintro e w12 ⟨rfl, hb12⟩; have HB12 := Lib.hid (Bd.out.trans (hb12.mono Bd.out.size)))))
                    clear hrule HCC cc1 cc2 lt1 lt2 Bd Td Ed
                    go_wp2_with fail
                    go_roundw
                    case rel => exact ⟨z + 1, by rw [HNQ.out]; exact hzN, by simp, HB12.out, .inr rfl⟩
                    case measure => simp [intOf]; omega
                · have ez : z = NQ := by omega
                  subst ez
                  have zI : ¬ (z : Int) < (z : Int) := by omega
                  rcases HSD.out with ⟨rfl, hno⟩ | rfl
                  · exfalso
                    refine hno wv HWQ.out.1 ?_
                    rw [← HNQ.out, List.take_length]; exact HWQ.out.2
                  have hSB0 : ¬ (SB : Int) < 0 := by omega
                  have H9 := Lib.hid (H7.out.below HBW.out)
                  clear hsd HQ8 HBW hz hzN
                  go_wp2_with fail
                  go_roundw
                  case rel => exact ⟨y + 1, hyS, by simp, H9.out.less (by omega)⟩
                  case measure => simp [intOf]; omega
            · have ey : sn = y := by omega
              subst ey
              have yI : ¬ (sn : Int) < (sn : Int) := by omega
              clear hy hyS
              go_wp2_with fail
              go_roundw
              case rel => exact ⟨L + 1, hl, by simp, HC.out.less (by omega)⟩
              case measure => simp [intOf]; omega
        · have eL : n = L := by omega
          subst eL
          have hlI : ¬ (n : Int) < (n : Int) := by omega
          clear hl hLn
          go_wp2_with fail
          refine (awake_any10 _).mono ?_; rintro e w9 ⟨rfl, hb9⟩
          have HBE := Lib.hid ((HA.out.below hb9).be)
          go_wp2_with fail
          go_ret
          exact ⟨rfl, HBE.out⟩
end

end Go.Proofs.Ytijpflnbjcoidaa
