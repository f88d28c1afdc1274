/- LfLSmaller: what LfPSmaller leans on. Printed by wip/tools/slim13.py. -/
import Derived.Test.YtdafnejphlcgdaaGreatSaGl
import Derived.Carry

namespace Go.Proofs.YtdafnejphlcgdaaGreat
open Go.RowKit

set_option maxRecDepth 100000

section
variable {V S T u v li : Int} {da oa : Option Addr} {dl dc ol oc : Nat} {fd : Nat → Nat} {fo : Nat → O13}
set_option maxHeartbeats 16000000 in
theorem lsmaller13 (w : World) (hD : IsNum w da dl fd) (hO : IsO13 w oa ol fo) :
    Calls Tryz.prog 6 #[vC13 V S T da dl dc oa ol oc, .int .i64 li, .agg #[.int .i64 u, .int .i64 v]] w fun e w' => e = .returned (.bool true) ∧ Below w.heap.size w w' := by
  have HO := Lib.hid hO
  have HD := Lib.hid hD
  clear hO hD
  have HB1 : Hid (Below w.heap.size w ((w.alloc (.cells #[.int .i64 V, .int .i64 S, .int .i64 T, .slice da dl dc, .slice oa ol oc] 27)).alloc (.cells #[.int .i64 u, .int .i64 v] 72))) := Lib.hid (((Below.refl _ _).alloc (Nat.le_refl _) _).alloc (by simp) _)
  have HZ1 : Hid (Blk ((w.alloc (.cells #[.int .i64 V, .int .i64 S, .int .i64 T, .slice da dl dc, .slice oa ol oc] 27)).alloc (.cells #[.int .i64 u, .int .i64 v] 72)) w.heap.size 27 #[.int .i64 V, .int .i64 S, .int .i64 T, .slice da dl dc, .slice oa ol oc]) := Lib.hid ((Blk.new _ _ _).alloc _)
  have HA1 : Hid (Blk ((w.alloc (.cells #[.int .i64 V, .int .i64 S, .int .i64 T, .slice da dl dc, .slice oa ol oc] 27)).alloc (.cells #[.int .i64 u, .int .i64 v] 72)) (w.heap.size + 1) 72 #[.int .i64 u, .int .i64 v]) := Lib.hid (new_next w _ _ _ _)
  go_enter Tryz.func6, Tryz.ntmps6
  go_wp2_with fail
  generalize w.heap.size + 1 = ab at HA1 ⊢
  generalize w.heap.size = zb at HZ1 ⊢
  generalize ((w.alloc (.cells #[.int .i64 V, .int .i64 S, .int .i64 T, .slice da dl dc, .slice oa ol oc] 27)).alloc (.cells #[.int .i64 u, .int .i64 v] 72)) = W1 at HB1 HZ1 HA1 ⊢
  have HBd := Lib.hid (HB1.out.trans ((Below.refl (w.heap.size) W1).drew))
  have HZd : Hid (Blk W1.drew zb 27 #[.int .i64 V, .int .i64 S, .int .i64 T, .slice da dl dc, .slice oa ol oc]) := Lib.hid (HZ1.out.below (Below.refl _ _).drew HZ1.out.lt)
  have HAd : Hid (Blk W1.drew ab 72 #[.int .i64 u, .int .i64 v]) := Lib.hid (HA1.out.below (Below.refl _ _).drew HA1.out.lt)
  clear HB1 HZ1 HA1
  have x0 := HAd.out.cell 0
  have x1 := HAd.out.cell 1
  have xlt := HAd.out.lt
  have hrule : ∀ W : World, Blk W ab 72 #[.int .i64 u, .int .i64 v] → W.cell? ⟨ab, 0, none⟩ = some (.int .i64 u) ∧ W.cell? ⟨ab, 1, none⟩ = some (.int .i64 v) := fun _ h => ⟨h.cell 0, h.cell 1⟩
  go_region_held3 (fun W => Blk W ab 72 #[.int .i64 u, .int .i64 v]) (first | (with_reducible assumption) | (with_reducible exact HAd.out)) (fail)
  clear hrule x0 x1 xlt
  generalize W1.drew = W2 at HBd HZd HAd ⊢
  have z0 := HZd.out.cell 0
  have z1 := HZd.out.cell 1
  have z2 := HZd.out.cell 2
  have z3 := HZd.out.cell 3
  have z4 := HZd.out.cell 4
  have zlt := HZd.out.lt
  go_wp2_with fail
  refine (right_any13 V S T da dl dc oa ol oc _).mono ?_; rintro e w2 ⟨rfl, hb2⟩
  have HB2 := Lib.hid (HBd.out.trans (hb2.mono HBd.out.size))
  have HZ2 := Lib.hid (HZd.out.below hb2 HZd.out.lt)
  clear HBd HZd HAd hb2 z0 z1 z2 z3 z4 zlt
  cases hr : rgt13 V S T dl ol
  · go_wp2_with fail
    refine (awake_any13 _).mono ?_; rintro e w3 ⟨rfl, hb3⟩
    have HB3 := Lib.hid (HB2.out.trans (hb3.mono HB2.out.size))
    go_wp2_with fail
    go_ret
    exact ⟨rfl, HB3.out⟩
  have HG := Lib.hid (rgt13_yes hr)
  clear hr
  have z0 := HZ2.out.cell 0
  have z1 := HZ2.out.cell 1
  have z2 := HZ2.out.cell 2
  have z3 := HZ2.out.cell 3
  have z4 := HZ2.out.cell 4
  have zlt := HZ2.out.lt
  by_cases b0 : v < 0
  · go_wp2_with fail
    refine (awake_any13 _).mono ?_; rintro e w3 ⟨rfl, hb3⟩
    have HB3 := Lib.hid (HB2.out.trans (hb3.mono HB2.out.size))
    go_wp2_with fail
    go_ret
    exact ⟨rfl, HB3.out⟩
  by_cases b1 : V ≤ v
  · go_wp2_with fail
    refine (awake_any13 _).mono ?_; rintro e w3 ⟨rfl, hb3⟩
    have HB3 := Lib.hid (HB2.out.trans (hb3.mono HB2.out.size))
    go_wp2_with fail
    go_ret
    exact ⟨rfl, HB3.out⟩
  by_cases b2 : u < 0
  · go_wp2_with fail
    refine (awake_any13 _).mono ?_; rintro e w3 ⟨rfl, hb3⟩
    have HB3 := Lib.hid (HB2.out.trans (hb3.mono HB2.out.size))
    go_wp2_with fail
    go_ret
    exact ⟨rfl, HB3.out⟩
  by_cases b3 : V ≤ u
  · go_wp2_with fail
    refine (awake_any13 _).mono ?_; rintro e w3 ⟨rfl, hb3⟩
    have HB3 := Lib.hid (HB2.out.trans (hb3.mono HB2.out.size))
    go_wp2_with fail
    go_ret
    exact ⟨rfl, HB3.out⟩
  by_cases b4 : li < 0
  · go_wp2_with fail
    refine (awake_any13 _).mono ?_; rintro e w3 ⟨rfl, hb3⟩
    have HB3 := Lib.hid (HB2.out.trans (hb3.mono HB2.out.size))
    go_wp2_with fail
    go_ret
    exact ⟨rfl, HB3.out⟩
  by_cases b5 : lv V ≤ li
  · go_wp2_with fail
    refine (levels_yes V S T HG.out.r _).mono ?_; rintro e w9 ⟨rfl, hb9⟩
    have HB9 := Lib.hid (HB2.out.trans (hb9.mono HB2.out.size))
    clear hb9
    go_wp2_with fail
    refine (awake_any13 _).mono ?_; rintro e w3 ⟨rfl, hb3⟩
    have HB3 := Lib.hid (HB9.out.trans (hb3.mono HB9.out.size))
    go_wp2_with fail
    go_ret
    exact ⟨rfl, HB3.out⟩
  obtain ⟨u, rfl⟩ : ∃ n : Nat, u = (n : Int) := ⟨u.toNat, by omega⟩
  obtain ⟨v, rfl⟩ : ∃ n : Nat, v = (n : Int) := ⟨v.toNat, by omega⟩
  obtain ⟨L, rfl⟩ : ∃ n : Nat, li = (n : Int) := ⟨li.toNat, by omega⟩
  have HUV : Hid ((u : Int) < V ∧ (v : Int) < V ∧ (L : Int) < lv V) := Lib.hid ⟨by omega, by omega, by omega⟩
  go_wp2_with fail
  refine (levels_yes V S T HG.out.r _).mono ?_; rintro e w9 ⟨rfl, hb9⟩
  have HB9 := Lib.hid (HB2.out.trans (hb9.mono HB2.out.size))
  have HZ9 := Lib.hid (HZ2.out.below hb9 HZ2.out.lt)
  clear hb9 HB2 HZ2 z0 z1 z2 z3 z4 zlt
  have z0 := HZ9.out.cell 0
  have z1 := HZ9.out.cell 1
  have z2 := HZ9.out.cell 2
  have z3 := HZ9.out.cell 3
  have z4 := HZ9.out.cell 4
  have zlt := HZ9.out.lt
  go_wp2_with fail
  refine (xbegun13 HG.out HD.out HZ9.out HB9.out).mono ?_
  rintro e w3 ⟨base, q, p, gb, cap, f0, mk0, ts0, vl0, rfl, _, hL⟩
  have HRel : Hid (Lp13 w zb V S T da dl dc oa ol oc base q p gb cap (.int .i64 0) w3) := Lib.hid ⟨0, _, _, _, _, _, _, Nat.zero_le _, rfl, hL⟩
  clear z0 z1 z2 z3 z4 zlt HZ9 HB9
  have z4 := hL.z.cell 4
  have zlt := hL.z.lt
  clear hL
  have holI : (ol : Int) ≤ 40 := by have := HG.out.o; omega
  go_wp2_with fail
  go_loopw [64] (fun i wr => Lp13 w zb V S T da dl dc oa ol oc base q p gb cap i wr) (fun i _ => ol - (intOf i).toNat)
  case atStart => exact HRel.out
  case round =>
    clear HRel z4 zlt
    obtain ⟨k, f, mk, ts, vl, ls, qq, hk, rfl, hL⟩ := hrel
    have HL := Lib.hid hL
    clear hL
    by_cases hkl : k < ol
    · as_aux_lemma =>
      obtain ⟨ob, off, rfl, hcell⟩ := HO.out (by omega)
      have hc := hcell k hkl
      obtain ⟨o, ho⟩ : ∃ o, fo k = o := ⟨_, rfl⟩
      rw [ho] at hc
      obtain ⟨kd, s9, u9, v9⟩ := o
      have c0 := cell_later HL.out.be hc.1
      have c1 := cell_later HL.out.be hc.2.1
      have c2 := cell_later HL.out.be hc.2.2.1
      have c3 := cell_later HL.out.be hc.2.2.2
      have hkI : (k : Int) < (ol : Int) := by omega
      have hk0 : (0 : Int) ≤ (k : Int) := by omega
      have HLa := Lib.hid (HL.out.alloc (.cells #[.int .i64 kd, .int .i64 s9, .int .i64 u9, .int .i64 v9] 33))
      clear hc ho hcell HL
      go_wp2_with fail
      refine (xstep13 HLa.out HG.out (by omega)).mono ?_
      rintro e w5 ⟨rfl, f', mk', ts', vl', ls', qq', hL5⟩
      have HL5 := Lib.hid (hL5.more (m' := 660 + 14680 * (k + 1)) (by omega))
      clear hL5 HLa c0 c1 c2 c3
      go_wp2_with fail
      go_roundw
      case rel => exact ⟨k + 1, f', mk', ts', vl', ls', qq', hkl, by simp, HL5.out⟩
      case measure => simp [intOf]; omega
    · have ek : ol = k := by omega
      subst ek
      have hkI : ¬ (ol : Int) < (ol : Int) := by omega
      clear hk hkl
      as_aux_lemma =>
      have z0 := HL.out.z.cell 0
      have zlt := HL.out.z.lt
      obtain ⟨vn, hvn⟩ : ∃ n : Nat, V = (n : Int) := ⟨V.toNat, by have := HG.out.r.v1; omega⟩
      have HVN := Lib.hid hvn
      have hv6 : vn ≤ 6 := by have := HG.out.v; omega
      have HV6 := Lib.hid hv6
      rw [hvn] at z0
      clear hvn
      go_wp2_with fail
      clear z0 zlt
      obtain ⟨M9, hM9⟩ : ∃ M, 660 + 14680 * ol = M := ⟨_, rfl⟩
      have HM9 : Hid (M9 ≤ 740000) := Lib.hid (by have := HG.out.o; omega)
      rw [hM9] at HL
      clear hM9
      have HRel : Hid (∃ k : Nat, k ≤ vn ∧ (.int .i64 0 : Value) = .int .i64 ((k : Nat) : Int) ∧ (.int .i64 0 : Value) = .int .i64 ((cK (tE ls L) u k : Nat) : Int) ∧ (.int .i64 0 : Value) = .int .i64 ((cK (tE ls L) v k : Nat) : Int) ∧ LwX w wr zb V S T da dl dc oa ol oc base q p gb cap M9 f mk ts vl ls qq) := Lib.hid ⟨0, Nat.zero_le _, rfl, by rw [cK_zero]; rfl, by rw [cK_zero]; rfl, HL.out⟩
      go_loopw [12, 13, 75] (fun a b i wr => ∃ k : Nat, k ≤ vn ∧ i = .int .i64 ((k : Nat) : Int) ∧ a = .int .i64 ((cK (tE ls L) u k : Nat) : Int) ∧ b = .int .i64 ((cK (tE ls L) v k : Nat) : Int) ∧ LwX w wr zb V S T da dl dc oa ol oc base q p gb cap M9 f mk ts vl ls qq) (fun _ _ i _ => vn - (intOf i).toNat)
      case atStart => exact HRel.out
      case round =>
        clear HRel HL
        obtain ⟨k, hk, rfl, rfl, rfl, hL⟩ := hrel
        have HL := Lib.hid hL
        clear hL
        have hka := cK_le (E := tE ls L) (u := u) (k := k)
        have hkb := cK_le (E := tE ls L) (u := v) (k := k)
        obtain ⟨a9, ha9⟩ : ∃ n, cK (tE ls L) u k = n := ⟨_, rfl⟩
        obtain ⟨b9, hb9⟩ : ∃ n, cK (tE ls L) v k = n := ⟨_, rfl⟩
        have HA9 := Lib.hid (And.intro ha9 hb9)
        rw [ha9] at hka
        rw [hb9] at hkb
        rw [ha9, hb9]
        clear ha9 hb9
        have ka : (a9 : Int) ≤ 6 := by omega
        have kb : (b9 : Int) ≤ 6 := by omega
        have ka0 : (0 : Int) ≤ (a9 : Int) := by omega
        have kb0 : (0 : Int) ≤ (b9 : Int) := by omega
        by_cases hkv : k < vn
        · have hkI : (k : Int) < (vn : Int) := by omega
          have hk6 : (k : Int) ≤ 6 := by omega
          have hk0 : (0 : Int) ≤ (k : Int) := by omega
          go_wp2_with fail
          refine (xforest13 HL.out HG.out rfl rfl rfl HUV.out.1).mono ?_; rintro e w5 ⟨r, rfl, hr, hL5⟩
          have HL5 := Lib.hid hL5
          have HR5 := Lib.hid hr
          clear hL5 hr HL
          cases r
          · have HN5 : Hid (cK (tE ls L) u (k + 1) = a9) := Lib.hid ((cK_no fun h => by have := HR5.out.2 h; cases this).trans HA9.out.1)
            go_wp2_with fail
            refine (xforest13 HL5.out HG.out rfl rfl rfl HUV.out.2.1).mono ?_; rintro e w6 ⟨r, rfl, hr, hL6⟩
            have HL6 := Lib.hid hL6
            have HR6 := Lib.hid hr
            clear hL6 hr HL5
            cases r
            · have HN6 : Hid (cK (tE ls L) v (k + 1) = b9) := Lib.hid ((cK_no fun h => by have := HR6.out.2 h; cases this).trans HA9.out.2)
              go_wp2_with fail
              go_roundw
              case rel => exact ⟨k + 1, hkv, by simp, by rw [HN5.out], by rw [HN6.out], HL6.out⟩
              case measure => simp [intOf]; omega
            · have HN6 : Hid (cK (tE ls L) v (k + 1) = b9 + 1) := Lib.hid ((cK_yes (HR6.out.1 rfl)).trans (by rw [HA9.out.2]))
              go_wp2_with fail
              go_roundw
              case rel => exact ⟨k + 1, hkv, by simp, by rw [HN5.out], by rw [HN6.out]; simp, HL6.out⟩
              case measure => simp [intOf]; omega
          · have HN5 : Hid (cK (tE ls L) u (k + 1) = a9 + 1) := Lib.hid ((cK_yes (HR5.out.1 rfl)).trans (by rw [HA9.out.1]))
            go_wp2_with fail
            refine (xforest13 HL5.out HG.out rfl rfl rfl HUV.out.2.1).mono ?_; rintro e w6 ⟨r, rfl, hr, hL6⟩
            have HL6 := Lib.hid hL6
            have HR6 := Lib.hid hr
            clear hL6 hr HL5
            cases r
            · have HN6 : Hid (cK (tE ls L) v (k + 1) = b9) := Lib.hid ((cK_no fun h => by have := HR6.out.2 h; cases this).trans HA9.out.2)
              go_wp2_with fail
              go_roundw
              case rel => exact ⟨k + 1, hkv, by simp, by rw [HN5.out]; simp, by rw [HN6.out], HL6.out⟩
              case measure => simp [intOf]; omega
            · have HN6 : Hid (cK (tE ls L) v (k + 1) = b9 + 1) := Lib.hid ((cK_yes (HR6.out.1 rfl)).trans (by rw [HA9.out.2]))
              go_wp2_with fail
              go_roundw
              case rel => exact ⟨k + 1, hkv, by simp, by rw [HN5.out]; simp, by rw [HN6.out]; simp, HL6.out⟩
              case measure => simp [intOf]; omega
        · have ek : vn = k := by omega
          subst ek
          have hkI : ¬ (vn : Int) < (vn : Int) := by omega
          obtain ⟨gr, hV, hg⟩ := HL.out.lg.lf.fo
          have hcu : cntJ V (gr L) u = a9 := by rw [cntJ_cW (hg L HUV.out.2.2), HVN.out]; exact HA9.out.1
          have hcv : cntJ V (gr L) v = b9 := by rw [cntJ_cW (hg L HUV.out.2.2), HVN.out]; exact HA9.out.2
          have hsm := lf_smaller (L := L) (u := u) (v := v) HL.out.pw.ta hV HUV.out.2.2 HUV.out.1 HUV.out.2.1 (by have := HM9.out; omega)
          rw [hcu, hcv] at hsm
          have HSM := Lib.hid hsm
          clear hsm hcu hcv hV hg
          obtain ⟨c0, c1, c2, c3, c4, c5, c6, c7, c8, c9, c10, c11, c12, c13, c14⟩ := HL.out.pw.pq.cells
          have qlt := HL.out.pw.pq.lt
          by_cases hba : b9 < a9
          · have hbI : (b9 : Int) < (a9 : Int) := by omega
            have hsm := HSM.out
            rw [if_pos hba] at hsm
            clear HSM
            go_wp2_with fail
            refine hsm.mono ?_; rintro e w7 ⟨rfl, A7, O7⟩
            have HB7 := Lib.hid (HL.out.next A7 O7 HL.out.lg).be
            clear hsm A7 O7 HL c0 c1 c2 c3 c4 c5 c6 c7 c8 c9 c10 c11 c12 c13 c14 qlt
            have e7 : ((v : Int) == (v : Int)) = true := by simp
            go_wp2_with fail
            refine (awake_any13 _).mono ?_; rintro e w8 ⟨rfl, hb8⟩
            have HB8 := Lib.hid (HB7.out.trans (hb8.mono HB7.out.size))
            go_wp2_with fail
            go_ret
            exact ⟨rfl, HB8.out⟩
          · have hbI : ¬ (b9 : Int) < (a9 : Int) := by omega
            have hsm := HSM.out
            rw [if_neg hba] at hsm
            clear HSM
            go_wp2_with fail
            refine hsm.mono ?_; rintro e w7 ⟨rfl, A7, O7⟩
            have HB7 := Lib.hid (HL.out.next A7 O7 HL.out.lg).be
            clear hsm A7 O7 HL c0 c1 c2 c3 c4 c5 c6 c7 c8 c9 c10 c11 c12 c13 c14 qlt
            have e7 : ((u : Int) == (u : Int)) = true := by simp
            go_wp2_with fail
            refine (awake_any13 _).mono ?_; rintro e w8 ⟨rfl, hb8⟩
            have HB8 := Lib.hid (HB7.out.trans (hb8.mono HB7.out.size))
            go_wp2_with fail
            go_ret
            exact ⟨rfl, HB8.out⟩
end

end Go.Proofs.YtdafnejphlcgdaaGreat
